/-
  Joined: Frame, PackRead, PackList, NumbersPlain, RecQ.
-/
import Derived.Lib.AppendStr
import Derived.Deep.RegionWith
import Derived.Test.YtdopgkbegjfhjaaGreatDoorL20

namespace Go.Proofs.YtdopgkbegjfhjaaGreatDoor
set_option maxRecDepth 100000
set_option maxHeartbeats 16000000
open Go.RowKit

theorem sum_lt (s:ByteArray):0≤sumTo s s.size∧sumTo s s.size<16381:=by
 cases h:s.size with
 | zero=>simp [sumTo,h]
 | succ k=>simp only [sumTo];omega

def headOf (s:ByteArray):List Int:=pack s.size++[sumTo s s.size / 256,sumTo s s.size % 256]
def frameOf (s:ByteArray):ByteArray:=strOfNums (headOf s)++s

def nums (s:ByteArray):List Int:=s.data.toList.map fun b=>(b.toNat:Int)
theorem strCells_nums (s:ByteArray):Lib.strCells s=u8s (nums s):=by simp [Lib.strCells,nums,Function.comp_def]
theorem str_nums (s:ByteArray):strOfNums (nums s)=s:=by
 apply ByteArray.ext
 simp [strOfNums,nums,Function.comp_def]
theorem frame_eq (s:ByteArray):strOfNums (headOf s++nums s)=frameOf s:=by rw [str_append,str_nums];rfl

theorem two_u8 (a b:Int):∀ u ∈ [Value.int .u8 a,Value.int .u8 b],u.oneCell'=true:=by
 intro u hu;simp at hu;rcases hu with rfl | rfl<;>rfl

theorem implFrameText_ok (s:ByteArray) (w:World) (hs:s.size≤60000) :
  Calls Tryz.prog 39 #[.string s] w fun e w'=>e=.returned (.tuple #[.string (frameOf s),.int .i64 0])∧Below w.heap.size w w':=by
 obtain ⟨i0,hi,hz0,hz1,hz2⟩:=info_parts info_u8
 obtain ⟨g0,g1⟩:=sum_lt s
 have hp5:=(pack_len s.size).2
 go_enter Tryz.func39,Tryz.ntmps39
 go_wp2_with fail
 refine (implSumOf_any s _ (by omega)).mono ?_
 rintro e w0 ⟨rfl,rfl⟩
 have HH:Hid (headOf s=pack s.size++[sumTo s s.size / 256,sumTo s s.size % 256]):=rfl
 generalize sumTo s s.size=x at *
 go_wp2_with fail
 refine (appendNumber_any w.heap.size 0 _ [] s.size _ (by omega) (World.ownsRow_nil _ _ _ _) (Nat.le_refl _) (by omega)).mono ?_
 rintro e w1 ⟨v1,rfl,ho1,hb1⟩
 rw [List.nil_append,Nat.zero_add] at ho1
 have hbw:=hb1.size
 go_wp2_with (at_builtin;refine wpList_append_own _ rfl (.tmp 16) (.tmp 23) 22 rfl w.heap.size 5 i0 (.int .u8 0) 1 1 Tryz.underlying22 hi hz0 hz1 hz2 rfl (by decide) _ _ _ rfl (ho1.alloc _) ⟨w1.heap.size,0,none⟩ 2 2 [.int .u8 (x / 256),.int .u8 (x % 256)] rfl rfl (cell_two_new _ _ _ _) (two_u8 _ _) ?c3 ?c4 ?c5 ?_)
 case c3=>unfold maxLen;omega
 case c4=>omega
 case c5=>simp;omega
 intro v2 w2 ho2 hg2 _
 have hb2:Below w.heap.size w w2:=(hb1.alloc hbw _).grown hg2 (by simp;omega) (fun j hj=>(ho1.lt _ hj).1)
 have hbw2:=hb2.size
 have ho2':w2.ownsRow w.heap.size 5 1 v2 ((pack s.size).length+2) (u8s (headOf s)):=by rw [HH.out];simpa using ho2
 clear ho2 hg2 ho1 HH
 go_wp2_with (at_builtin;refine Lib.wpList_append_own_string _ rfl _ _ 22 9 rfl w.heap.size 5 i0 Tryz.underlying22 Tryz.underlying9 hi hz0 hz1 hz2 _ _ _ rfl ho2' s rfl ?e3 ?e4 ?e5 ?_)
 case e3=>unfold maxLen;omega
 case e4=>omega
 case e5=>omega
 intro v3 w3 ho3 hg3 _
 have hb3:Below w.heap.size w w3:=hb2.grown hg3 hbw2 (fun j hj=>(ho2'.lt _ hj).1)
 rw [strCells_nums,← List.map_append] at ho3
 have hcv:=conv_owned ho3
 rw [frame_eq] at hcv
 clear ho3 hg3 ho2'
 go_wp2
 go_ret2
 exact ⟨rfl,hb3⟩


def bytesAt (s:ByteArray) (p:Nat) (xs:List Int):Prop:=p+xs.length≤s.size∧∀ i,i<xs.length→(bt s (p+i):Int)=xs.getD i 0
theorem bytesAt_left {s:ByteArray} {p:Nat} {xs ys:List Int} (h:bytesAt s p (xs++ys)):bytesAt s p xs:=by
 obtain ⟨h1,h2⟩:=h
 rw [List.length_append] at h1
 refine ⟨by omega,fun i hi=>?_⟩
 rw [h2 i (by rw [List.length_append];omega)]
 simp [List.getD,List.getElem?_append_left hi]
theorem bytesAt_right {s:ByteArray} {p:Nat} {xs ys:List Int} (h:bytesAt s p (xs++ys)):bytesAt s (p+xs.length) ys:=by
 obtain ⟨h1,h2⟩:=h
 rw [List.length_append] at h1
 refine ⟨by omega,fun i hi=>?_⟩
 have:=h2 (xs.length+i) (by rw [List.length_append];omega)
 rw [show p+xs.length+i=p+(xs.length+i) by omega,this]
 simp [List.getD,List.getElem?_append_right (show xs.length≤xs.length+i by omega)]

theorem num_of_bytes {s:ByteArray} {p n:Nat} (hn:n≤999999999) (h:bytesAt s p (pack n)):Num s p n (pack n).length:=by
 obtain ⟨hs,hb⟩:=h
 by_cases h1:n<128
 ·rw [pack_small h1] at hs hb ⊢
  have b0:=hb 0 (by simp)
  simp at b0 hs
  refine ⟨⟨by simp,by simp,by simpa using hs,fun i hi=>by simp at hi,by simp;omega⟩,by simp,?_,hn⟩
  simp only [List.length_cons,List.length_nil,val]
  omega
 by_cases h2:n<16384
 ·rw [pack2 (by omega) h2] at hs hb ⊢
  have b0:=hb 0 (by simp)
  have b1:=hb 1 (by simp)
  simp at b0 b1 hs
  refine ⟨⟨by simp,by simp,by simpa using hs,fun i hi=>?_,?_⟩,?_,?_,hn⟩
  ·simp at hi;obtain rfl:i=0:=by omega
   simp;omega
  ·simp only [List.length_cons,List.length_nil,show p+(0+1+1) - 1=p+1 by omega];omega
  ·simp only [List.length_cons,List.length_nil,show p+(0+1+1) - 1=p+1 by omega];omega
  ·simp only [List.length_cons,List.length_nil,val];omega
 by_cases h3:n<2097152
 ·rw [pack3 (by omega) h3] at hs hb ⊢
  have b0:=hb 0 (by simp)
  have b1:=hb 1 (by simp)
  have b2:=hb 2 (by simp)
  simp at b0 b1 b2 hs
  refine ⟨⟨by simp,by simp,by simpa using hs,fun i hi=>?_,?_⟩,?_,?_,hn⟩
  ·simp at hi
   have:i=0∨i=1:=by omega
   rcases this with rfl | rfl
   ·simp;omega
   ·omega
  ·simp only [List.length_cons,List.length_nil,show p+(0+1+1+1) - 1=p+2 by omega];omega
  ·simp only [List.length_cons,List.length_nil,show p+(0+1+1+1) - 1=p+2 by omega];omega
  ·simp only [List.length_cons,List.length_nil,val];omega
 by_cases h4:n<268435456
 ·rw [pack4 (by omega) h4] at hs hb ⊢
  have b0:=hb 0 (by simp)
  have b1:=hb 1 (by simp)
  have b2:=hb 2 (by simp)
  have b3:=hb 3 (by simp)
  simp at b0 b1 b2 b3 hs
  refine ⟨⟨by simp,by simp,by simpa using hs,fun i hi=>?_,?_⟩,?_,?_,hn⟩
  ·simp at hi
   have:i=0∨i=1∨i=2:=by omega
   rcases this with rfl | rfl | rfl
   ·simp;omega
   ·omega
   ·omega
  ·simp only [List.length_cons,List.length_nil,show p+(0+1+1+1+1) - 1=p+3 by omega];omega
  ·simp only [List.length_cons,List.length_nil,show p+(0+1+1+1+1) - 1=p+3 by omega];omega
  ·simp only [List.length_cons,List.length_nil,val];omega
 ·rw [pack5 (by omega)] at hs hb ⊢
  have b0:=hb 0 (by simp)
  have b1:=hb 1 (by simp)
  have b2:=hb 2 (by simp)
  have b3:=hb 3 (by simp)
  have b4:=hb 4 (by simp)
  simp at b0 b1 b2 b3 b4 hs
  refine ⟨⟨by simp,by simp,by simpa using hs,fun i hi=>?_,?_⟩,?_,?_,hn⟩
  ·simp at hi
   have:i=0∨i=1∨i=2∨i=3:=by omega
   rcases this with rfl | rfl | rfl | rfl
   ·simp;omega
   ·omega
   ·omega
   ·omega
  ·simp only [List.length_cons,List.length_nil,show p+(0+1+1+1+1+1) - 1=p+4 by omega];omega
  ·simp only [List.length_cons,List.length_nil,show p+(0+1+1+1+1+1) - 1=p+4 by omega];omega
  ·simp only [List.length_cons,List.length_nil,val];omega

def packsN (zs:List Nat):List Int:=zs.flatMap fun z=>pack z
theorem numsAt_of_bytes {s:ByteArray}:∀ {zs:List Nat} {p:Nat},(∀ z ∈ zs,z≤999999999)→bytesAt s p (packsN zs)→NumsAt s p zs (p+(packsN zs).length)
 | [],p,_,_=>by simp [packsN,NumsAt]
 | z::zs,p,hz,h=>by
  have e:packsN (z::zs)=pack z++packsN zs:=by simp [packsN]
  rw [e] at h ⊢
  refine ⟨_,num_of_bytes (hz z (by simp)) (bytesAt_left h),?_⟩
  have:=numsAt_of_bytes (fun y hy=>hz y (by simp [hy])) (bytesAt_right h)
  rw [List.length_append,← Nat.add_assoc]
  exact this

theorem bt_str (xs:List Int) (h:∀ x ∈ xs,0≤x∧x≤255) (i:Nat) (hi:i<xs.length):(bt (strOfNums xs) i:Int)=xs.getD i 0:=by
 have hs:i<(strOfNums xs).size:=by rw [strOfNums_size];exact hi
 unfold bt
 rw [dif_pos hs]
 have hx:=h xs[i] (List.getElem_mem hi)
 have e:((strOfNums xs)[i]'hs)=UInt8.ofNat xs[i].toNat:=by
  show (strOfNums xs).data[i]'(by simpa using hs)=_
  simp [strOfNums]
 rw [e]
 simp [List.getElem?_eq_getElem hi]
 omega
theorem bytesAt_str (xs:List Int) (h:∀ x ∈ xs,0≤x∧x≤255):bytesAt (strOfNums xs) 0 xs:=
 ⟨by rw [strOfNums_size];omega,fun i hi=>by rw [Nat.zero_add];exact bt_str xs h i hi⟩
theorem bt_app (a b:ByteArray) (i:Nat) (h:i<a.size):bt (a++b) i=bt a i:=by
 unfold bt
 rw [dif_pos h,dif_pos (by rw [ByteArray.size_append];omega),ByteArray.getElem_append_left h]
theorem bytesAt_app {a b:ByteArray} {xs:List Int} (h:bytesAt a 0 xs):bytesAt (a++b) 0 xs:=by
 obtain ⟨h1,h2⟩:=h
 refine ⟨by rw [ByteArray.size_append];omega,fun i hi=>?_⟩
 rw [Nat.zero_add,bt_app a b i (by omega)]
 have:=h2 i hi
 rwa [Nat.zero_add] at this


def allOk (zs:List Int):Prop:=∀ z ∈ zs,0≤z∧z≤999999999
def packs (zs:List Int):List Int:=zs.flatMap fun z=>pack z.toNat
def packL (zs:List Int):List Int:=pack zs.length++packs zs

theorem packs_len:∀ zs:List Int,(packs zs).length≤5*zs.length
 | []=>by simp [packs]
 | z::zs=>by
  have h:=packs_len zs
  have h2:=(pack_len z.toNat).2
  simp only [packs,List.flatMap_cons,List.length_append,List.length_cons] at h ⊢
  omega
theorem packs_snoc (zs:List Int) (k:Nat) (h:k<zs.length):packs (zs.take (k+1))=packs (zs.take k)++pack (zs.getD k 0).toNat:=by
 have g:zs.getD k 0=zs[k]:=by simp [List.getElem?_eq_getElem h]
 rw [g,List.take_succ_eq_append_getElem h]
 unfold packs
 rw [List.flatMap_append]
 simp only [List.flatMap_cons,List.flatMap_nil,List.append_nil]
theorem getD_mem {zs:List Int} {k:Nat} (h:k<zs.length):zs.getD k 0 ∈ zs:=by
 simp [List.getElem?_eq_getElem h]
theorem l01List_any (a:Option Addr) (len cap:Nat) (zs:List Int) (w:World) (h:Ints .i64 w a len cap zs) (hlen:len≤4096) (hok:allOk zs) :
  Calls Tryz.prog 84 #[.slice a len cap] w fun e w'=>e=.returned (.string (strOfNums (packL zs)))∧Below w.heap.size w w':=by
 obtain ⟨hl,hlc,hcm,hcase⟩:=h
 unfold maxLen at hcm
 rcases hcase with h0 | ⟨b,off,rfl,hblt,hcell⟩
 ·subst h0
  have hz:zs=[]:=by simpa using hl
  subst hz
  go_enter Tryz.func84,Tryz.ntmps84
  go_wp2_with fail
  refine (l01Number_any 0 _ (by omega)).mono ?_
  rintro e w1 ⟨rfl,hb1⟩
  go_wp2
  refine wp_loop_rounds 1 ?_
  rw [rounds_succ]
  go_wp2
  go_ret
  exact ⟨rfl,hb1⟩
 ·go_enter Tryz.func84,Tryz.ntmps84
  go_wp2_with fail
  refine (l01Number_any len _ (by omega)).mono ?_
  rintro e w1 ⟨rfl,hb1⟩
  go_wp2
  go_loopw [3,4] (fun st si wr=>∃ k:Nat,k≤len∧si=.int .i64 k∧st=.string (strOfNums (pack len++packs (zs.take k)))∧Below w.heap.size w wr) (fun _ si _=>len - (intOf si).toNat)
  case atStart=>exact ⟨0,by omega,rfl,by simp [packs],hb1⟩
  case round =>
   obtain ⟨k,hk,rfl,rfl,hbel⟩:=hrel
   by_cases hlt:k<len
   ·have hc:wr.cell? ⟨b,off+k,none⟩=some (.int .i64 (zs.getD k 0)):=by rw [hbel.cell (p:=⟨b,off+k,none⟩) hblt];exact hcell k hlt
    have hx:=hok _ (getD_mem (k:=k) (by omega))
    have hsn:=packs_snoc zs k (by omega)
    have hpl:=packs_len (zs.take k)
    have hp5:=(pack_len len).2
    have hq5:=(pack_len (zs.getD k 0).toNat).2
    have htl:(zs.take k).length≤4096:=by simp;omega
    generalize zs.getD k 0=x at hc hx hsn hq5
    obtain ⟨n,rfl⟩:=Int.eq_ofNat_of_zero_le hx.1
    have hn:n≤999999999:=by omega
    rw [Int.toNat_natCast] at hsn hq5
    have R:Hid (strOfNums (pack len++packs (zs.take k))++strOfNums (pack n)=strOfNums (pack len++packs (zs.take (k+1)))):=by
     rw [Hid,hsn,← str_append,List.append_assoc]
    have hsum:(strOfNums (pack len++packs (zs.take k))).size+(strOfNums (pack n)).size≤9223372036854775807:=by
     rw [strOfNums_size,strOfNums_size,List.length_append];omega
    have hadd:=fun W=>run_string_add_sum (P:=Tryz.prog) W _ _ hsum
    clear hsn hpl hp5 hq5 htl hsum hx
    generalize strOfNums (pack len++packs (zs.take k))=sk at hadd R
    go_wp2_with (go_at_call 114;refine (l01Number_any n _ hn).mono ?_;rintro e w2 ⟨rfl,hb2⟩)
    go_roundw
    case rel=>exact ⟨k+1,by omega,by go_num,by rw [R.out],hbel.trans (hb2.mono hbel.size)⟩
    case measure=>simp [intOf];omega
   ·obtain rfl:k=len:=by omega
    go_wp2
    go_ret
    exact ⟨by unfold packL;rw [List.take_of_length_le (Nat.le_of_eq hl),hl];rfl,hbel⟩


theorem nats_of {zs:List Int} (h:∀ z ∈ zs,0≤z∧z≤999999999):∃ ns:List Nat,zs=ns.map (fun z:Nat=>(z:Int))∧∀ n ∈ ns,n≤999999999:=by
 refine ⟨zs.map Int.toNat,?_,?_⟩
 ·rw [List.map_map]
  conv=>lhs;rw [← List.map_id zs]
  apply List.map_congr_left
  intro z hz
  have:=h z hz
  simp only [id,Function.comp]
  omega
 ·intro n hn
  obtain ⟨z,hz,rfl⟩:=List.mem_map.1 hn
  have:=h z hz
  omega
theorem packL_nats (ns:List Nat):packL (ns.map (fun z:Nat=>(z:Int)))=pack ns.length++packsN ns:=by
 unfold packL packs packsN
 rw [List.length_map]
 congr 1
 induction ns with
 | nil=>rfl
 | cons n ns ih=>simp [List.flatMap_cons,ih]
theorem packsN_byte {ns:List Nat} (h:∀ n ∈ ns,n≤999999999):∀ x ∈ packsN ns,0≤x∧x≤255:=by
 intro x hx
 obtain ⟨n,hn,hx⟩:=List.mem_flatMap.1 hx
 exact pack_byte n (by have:=h n hn;omega) x hx
theorem packL_byte {ns:List Nat} (h:∀ n ∈ ns,n≤999999999) (hl:ns.length≤4096):∀ x ∈ pack ns.length++packsN ns,0≤x∧x≤255:=by
 intro x hx
 rcases List.mem_append.1 hx with hx | hx
 ·exact pack_byte _ (by omega) x hx
 ·exact packsN_byte h x hx
theorem listed_pack {ns:List Nat} (h:∀ n ∈ ns,n≤999999999) (hl:ns.length≤4096):Listed (strOfNums (pack ns.length++packsN ns)) ns:=by
 have hb:=bytesAt_str _ (packL_byte h hl)
 have hn:=num_of_bytes (by omega) (bytesAt_left hb)
 refine listed_of hn hl (numsAt_of_bytes h ?_) rfl ?_
 ·simpa using bytesAt_right hb
 ·rw [strOfNums_size,List.length_append]

set_option linter.unusedVariables false
set_option linter.unusedSimpArgs false

def K9 (x:ByteArray):Nat:=(pack x.size).length
theorem pack_len5 (n:Nat):1≤(pack n).length∧(pack n).length≤5:=by
 unfold pack
 (repeat' split)<;>simp
theorem K9_le (x:ByteArray):1≤K9 x∧K9 x≤5:=pack_len5 _
theorem head9_len (x:ByteArray):(headOf x).length=K9 x+2:=by
 unfold headOf K9
 simp
theorem head9_byte {x:ByteArray} (h:x.size≤60000):∀ z ∈ headOf x,0≤z∧z≤255:=by
 intro z hz
 obtain ⟨s0,s1⟩:=sum_lt x
 unfold headOf at hz
 rcases List.mem_append.1 hz with hz | hz
 ·exact pack_byte x.size (by omega) z hz
 ·simp at hz
  rcases hz with rfl | rfl<;>omega
theorem frame9_size (x:ByteArray):(frameOf x).size=K9 x+2+x.size:=by
 unfold frameOf
 rw [ByteArray.size_append,strOfNums_size,head9_len]
theorem bytes9 (x u:ByteArray) (h:x.size≤60000):bytesAt (frameOf x++u) 0 (headOf x):=bytesAt_app (bytesAt_app (bytesAt_str _ (head9_byte h)))
theorem framed9 (x u:ByteArray) (h:x.size≤60000):Framed (frameOf x++u) x.size (K9 x):=by
 refine ⟨num_of_bytes (by omega) (bytesAt_left (bytes9 x u h)),h,?_⟩
 rw [ByteArray.size_append,frame9_size]
 omega
theorem sumAt9 {s x:ByteArray} (hb:bytesAt s 0 (headOf x)):sumAt s (K9 x)=sumTo x x.size:=by
 have hr:=(bytesAt_right hb).2
 have a:=hr 0 (by simp)
 have b:=hr 1 (by simp)
 obtain ⟨s0,s1⟩:=sum_lt x
 simp only [Nat.zero_add,Nat.add_zero] at a b
 have e0:(bt s (K9 x):Int)=sumTo x x.size / 256:=a
 have e1:(bt s (K9 x+1):Int)=sumTo x x.size % 256:=b
 unfold sumAt
 rw [e0,e1]
 omega
theorem cut9 (a b c:ByteArray) (k n:Nat) (ha:a.size=k) (hb:b.size=n):(a++b++c).extract k (k+n)=b:=by
 apply ByteArray.ext
 subst ha hb
 apply Array.ext'
 have e0:a.size=a.data.toList.length:=by rw [Array.length_toList];rfl
 have e1:b.size=b.data.toList.length:=by rw [Array.length_toList];rfl
 simp only [ByteArray.data_extract,ByteArray.data_append,Array.toList_extract,Array.toList_append,List.extract_eq_take_drop,e0,e1]
 rw [List.append_assoc,List.drop_left,Nat.add_sub_cancel_left,List.take_left]
theorem text9 (x u:ByteArray):frameText (frameOf x++u) x.size (K9 x)=x:=by
 unfold frameText frameOf
 exact cut9 _ _ _ _ _ (by rw [strOfNums_size,head9_len]) rfl
theorem bt_recT (r:R2) (h:RecOk r):(bt (recT r) 0:Int)=48+r.1:=by
 have hk:=h.kind
 unfold recT
 rw [bt_app _ _ 0 (by rw [strOfNums_size];simp)]
 have:=bt_str [48+r.1] (fun x hx=>by simp at hx;subst hx;omega) 0 (by simp)
 simpa using this
theorem cut_recT (r:R2):(recT r).extract 1 (1+r.2.size)=r.2:=by
 have:=cut9 (strOfNums [48+r.1]) r.2 ByteArray.empty 1 r.2.size (by rw [strOfNums_size];rfl) rfl
 rw [ByteArray.append_empty] at this
 exact this
theorem recT_small {r:R2} (h:RecOk r):(recT r).size≤1000:=by
 rw [recT_size]
 have:=h.1
 omega
theorem nxt9 (r:R2) (h:RecOk r) (u:ByteArray):Nxt (frameOf (recT r)++u) r (frameOf (recT r)).size:=by
 have hz:=recT_small h
 refine ⟨(recT r).size,K9 (recT r),framed9 _ u (by omega),?_,?_,?_,h,by rw [frame9_size]⟩
 ·rw [text9]
  exact sumAt9 (bytes9 _ u (by omega))
 ·rw [recT_size];omega
 ·rw [text9,bt_recT r h,recT_size,cut_recT]
  obtain ⟨k,t⟩:=r
  simp only [Prod.mk.injEq,and_true]
  omega
theorem val_congr {s t:ByteArray} {k:Nat} (h:∀ i,i<k→bt s i=bt t i) (hk:k≤5):val s 0 k=val t 0 k:=by
 rcases (by omega:k=0∨k=1∨k=2∨k=3∨k=4∨k=5) with rfl | rfl | rfl | rfl | rfl | rfl
 all_goals
  unfold val
  simp [h]
theorem num_congr {s t:ByteArray} {n k:Nat} (h:∀ i,i<k→bt s i=bt t i) (hk:k≤t.size) (hn:Num s 0 n k):Num t 0 n k:=by
 obtain ⟨⟨h1,h2,h3,h4,h5⟩,h6,h7,h8⟩:=hn
 refine ⟨⟨h1,h2,by omega,fun i hi=>?_,?_⟩,?_,?_,h8⟩
 ·have:=h4 i hi
  rw [Nat.zero_add] at this ⊢
  rw [← h i (by omega)]
  exact this
 ·rw [Nat.zero_add] at h5 ⊢
  rw [← h (k - 1) (by omega)]
  exact h5
 ·rw [Nat.zero_add] at h6 ⊢
  rw [← h (k - 1) (by omega)]
  exact h6
 ·rw [← val_congr h h2]
  exact h7
theorem none9 (x:ByteArray) (h:x.size≤60000) (j:Nat) (hj:j<(frameOf x).size):NoFrame ((frameOf x).extract 0 j):=by
 intro n k hf
 have hs:((frameOf x).extract 0 j).size=j:=by simp;omega
 obtain ⟨hn,_,hle⟩:=hf
 have g:=framed9 x ByteArray.empty h
 rw [ByteArray.append_empty] at g
 have hn2:Num (frameOf x) 0 n k:=num_congr (fun i hi=>bt_head _ _ _ (by omega) (by omega)) (by omega) hn
 obtain ⟨rfl,rfl⟩:=hn2.only g.1
 rw [frame9_size] at hj
 omega
theorem no_nxt {s:ByteArray} (h:NoFrame s) (r:R2) (n:Nat):¬ Nxt s r n:=fun ⟨m,k,hf,_⟩=>h m k hf
theorem ext_all (u:ByteArray):u.extract 0 u.size=u:=by simp
theorem ext_shift (f u:ByteArray) (a:Nat):(f++u).extract (f.size+a) (f++u).size=u.extract a u.size:=by
 apply ByteArray.ext
 apply Array.ext'
 have e0:f.size=f.data.toList.length:=by rw [Array.length_toList];rfl
 have e1:u.size=u.data.toList.length:=by rw [Array.length_toList];rfl
 rw [ByteArray.size_append]
 simp only [ByteArray.data_extract,ByteArray.data_append,Array.toList_extract,Array.toList_append,List.extract_eq_take_drop,e0,e1]
 rw [List.drop_append,List.drop_of_length_le (by omega),List.nil_append,show f.data.toList.length+a - f.data.toList.length=a by omega,show f.data.toList.length+u.data.toList.length - (f.data.toList.length+a)=u.data.toList.length - a by omega]
theorem log_shift {u:ByteArray} (f:ByteArray) {a:Nat} {rs:List R2} {e:Nat} (h:LogAt u a rs e):LogAt (f++u) (f.size+a) rs (f.size+e):=by
 induction h with
 | stop ha hn=>exact .stop (by rw [ByteArray.size_append];omega) (by rw [ext_shift];exact hn)
 | more ha hx hr ih=>exact .more (by rw [ByteArray.size_append];omega) (by rw [ext_shift];exact hx) (by rw [Nat.add_assoc];exact ih)
theorem log_cons (r:R2) (h:RecOk r) {u:ByteArray} {rs:List R2} {e:Nat} (hL:LogAt u 0 rs e):LogAt (frameOf (recT r)++u) 0 (r::rs) ((frameOf (recT r)).size+e):=by
 refine .more (Nat.zero_le _) (by rw [ext_all];exact nxt9 r h u) ?_
 rw [Nat.zero_add]
 exact log_shift _ hL
theorem log_nil {u:ByteArray} (h:∀ r n,¬ Nxt u r n):LogAt u 0 [] 0:=.stop (Nat.zero_le _) (by rw [ext_all];exact h)
theorem no_nxt_short {u:ByteArray} (h:u.size<3) (r:R2) (n:Nat):¬ Nxt u r n:=fun k=>by
 have:=k.le
 omega
theorem log_empty:LogAt ⟨#[]⟩ 0 [] 0:=log_nil (no_nxt_short (by decide))
theorem log_torn (r:R2) (h:RecOk r) (j:Nat) (hj:j<(frameOf (recT r)).size):LogAt ((frameOf (recT r)).extract 0 j) 0 [] 0:=log_nil (no_nxt (none9 _ (by have:=recT_small h;omega) j hj))

theorem sum_step {a b c:Int} (h0:0≤a) (h1:a<16381) (g0:0≤b) (g1:b<16381) (h:(131*a+c) % 16381=(131*b+c) % 16381):a=b:=by omega
end Go.Proofs.YtdopgkbegjfhjaaGreatDoor
