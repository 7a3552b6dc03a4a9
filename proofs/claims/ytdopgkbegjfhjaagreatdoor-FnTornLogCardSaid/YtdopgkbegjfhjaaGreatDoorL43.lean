/-
  Joined: RciP, BonJ, RecN, DigI, CkyI, RdiI.
-/
import Derived.Laws.StructEq
import Derived.Test.YtdopgkbegjfhjaaGreatDoorL40

namespace Go.Proofs.YtdopgkbegjfhjaaGreatDoor
set_option maxRecDepth 100000
set_option maxHeartbeats 16000000
open Go.RowKit
set_option linter.unusedVariables false
set_option linter.unusedSimpArgs false

theorem num_pack {s:ByteArray} {p n k:Nat} (h:Num s p n k):(pack n).length=k∧∀ i,i<k→(bt s (p+i):Int)=(pack n).getD i 0:=by
 obtain ⟨⟨h1,h2,h3,h4,h5⟩,h6,rfl,h8⟩:=h
 have q0:=bt_lt s p
 have q1:=bt_lt s (p+1)
 have q2:=bt_lt s (p+2)
 have q3:=bt_lt s (p+3)
 have q4:=bt_lt s (p+4)
 rcases (by omega:k=1∨k=2∨k=3∨k=4∨k=5) with rfl | rfl | rfl | rfl | rfl
 ·simp only [Nat.add_sub_cancel] at h5
  have e:val s p 1=bt s p:=by show bt s p % 128=_;omega
  rw [e,pack_small h5]
  refine ⟨rfl,fun i hi=>?_⟩
  obtain rfl:i=0:=by omega
  rfl
 ·have a0:=h4 0 (by omega)
  rw [show p+2 - 1=p+1 from rfl] at h5 h6
  rw [Nat.add_zero] at a0
  have e:val s p 2=bt s p % 128+bt s (p+1) % 128*128:=rfl
  have hn:1≤bt s (p+1):=by rcases Nat.eq_zero_or_pos (bt s (p+1)) with g | g;exact absurd ⟨by omega,g⟩ h6;exact g
  rw [e,pack2 (by omega) (by omega)]
  refine ⟨rfl,fun i hi=>?_⟩
  rcases (by omega:i=0∨i=1) with rfl | rfl
  ·rw [Nat.add_zero];show _=((bt s p % 128+bt s (p+1) % 128*128:Nat):Int) % 128+128;omega
  ·show _=((bt s p % 128+bt s (p+1) % 128*128:Nat):Int) / 128;omega
 ·have a0:=h4 0 (by omega)
  have a1:=h4 1 (by omega)
  rw [show p+3 - 1=p+2 from rfl] at h5 h6
  rw [Nat.add_zero] at a0
  have e:val s p 3=bt s p % 128+bt s (p+1) % 128*128+bt s (p+2) % 128*16384:=rfl
  have hn:1≤bt s (p+2):=by rcases Nat.eq_zero_or_pos (bt s (p+2)) with g | g;exact absurd ⟨by omega,g⟩ h6;exact g
  rw [e,pack3 (by omega) (by omega)]
  refine ⟨rfl,fun i hi=>?_⟩
  rcases (by omega:i=0∨i=1∨i=2) with rfl | rfl | rfl
  ·rw [Nat.add_zero];show _=((bt s p % 128+bt s (p+1) % 128*128+bt s (p+2) % 128*16384:Nat):Int) % 128+128;omega
  ·show _=((bt s p % 128+bt s (p+1) % 128*128+bt s (p+2) % 128*16384:Nat):Int) / 128 % 128+128;omega
  ·show _=((bt s p % 128+bt s (p+1) % 128*128+bt s (p+2) % 128*16384:Nat):Int) / 16384;omega
 ·have a0:=h4 0 (by omega)
  have a1:=h4 1 (by omega)
  have a2:=h4 2 (by omega)
  rw [show p+4 - 1=p+3 from rfl] at h5 h6
  rw [Nat.add_zero] at a0
  have e:val s p 4=bt s p % 128+bt s (p+1) % 128*128+bt s (p+2) % 128*16384+bt s (p+3) % 128*2097152:=rfl
  have hn:1≤bt s (p+3):=by rcases Nat.eq_zero_or_pos (bt s (p+3)) with g | g;exact absurd ⟨by omega,g⟩ h6;exact g
  rw [e,pack4 (by omega) (by omega)]
  refine ⟨rfl,fun i hi=>?_⟩
  rcases (by omega:i=0∨i=1∨i=2∨i=3) with rfl | rfl | rfl | rfl
  ·rw [Nat.add_zero];show _=((bt s p % 128+bt s (p+1) % 128*128+bt s (p+2) % 128*16384+bt s (p+3) % 128*2097152:Nat):Int) % 128+128;omega
  ·show _=((bt s p % 128+bt s (p+1) % 128*128+bt s (p+2) % 128*16384+bt s (p+3) % 128*2097152:Nat):Int) / 128 % 128+128;omega
  ·show _=((bt s p % 128+bt s (p+1) % 128*128+bt s (p+2) % 128*16384+bt s (p+3) % 128*2097152:Nat):Int) / 16384 % 128+128;omega
  ·show _=((bt s p % 128+bt s (p+1) % 128*128+bt s (p+2) % 128*16384+bt s (p+3) % 128*2097152:Nat):Int) / 2097152;omega
 ·have a0:=h4 0 (by omega)
  have a1:=h4 1 (by omega)
  have a2:=h4 2 (by omega)
  have a3:=h4 3 (by omega)
  rw [show p+5 - 1=p+4 from rfl] at h5 h6
  rw [Nat.add_zero] at a0
  have e:val s p 5=bt s p % 128+bt s (p+1) % 128*128+bt s (p+2) % 128*16384+bt s (p+3) % 128*2097152+bt s (p+4) % 128*268435456:=rfl
  have hn:1≤bt s (p+4):=by rcases Nat.eq_zero_or_pos (bt s (p+4)) with g | g;exact absurd ⟨by omega,g⟩ h6;exact g
  rw [e,pack5 (by omega)]
  refine ⟨rfl,fun i hi=>?_⟩
  rcases (by omega:i=0∨i=1∨i=2∨i=3∨i=4) with rfl | rfl | rfl | rfl | rfl
  ·rw [Nat.add_zero];show _=((bt s p % 128+bt s (p+1) % 128*128+bt s (p+2) % 128*16384+bt s (p+3) % 128*2097152+bt s (p+4) % 128*268435456:Nat):Int) % 128+128;omega
  ·show _=((bt s p % 128+bt s (p+1) % 128*128+bt s (p+2) % 128*16384+bt s (p+3) % 128*2097152+bt s (p+4) % 128*268435456:Nat):Int) / 128 % 128+128;omega
  ·show _=((bt s p % 128+bt s (p+1) % 128*128+bt s (p+2) % 128*16384+bt s (p+3) % 128*2097152+bt s (p+4) % 128*268435456:Nat):Int) / 16384 % 128+128;omega
  ·show _=((bt s p % 128+bt s (p+1) % 128*128+bt s (p+2) % 128*16384+bt s (p+3) % 128*2097152+bt s (p+4) % 128*268435456:Nat):Int) / 2097152 % 128+128;omega
  ·show _=((bt s p % 128+bt s (p+1) % 128*128+bt s (p+2) % 128*16384+bt s (p+3) % 128*2097152+bt s (p+4) % 128*268435456:Nat):Int) / 268435456;omega
theorem getD_app9 {xs ys:List Int} {i:Nat}:(xs++ys).getD i 0=if i<xs.length then xs.getD i 0 else ys.getD (i - xs.length) 0:=by
 simp only [List.getD]
 split
 ·rw [List.getElem?_append_left (by assumption)]
 ·rw [List.getElem?_append_right (by omega)]
theorem numsAt_pack {s:ByteArray}:∀ {zs:List Nat} {p q:Nat},NumsAt s p zs q→q=p+(packsN zs).length∧∀ i,i<(packsN zs).length→(bt s (p+i):Int)=(packsN zs).getD i 0
 | [],p,q,h=>by
  obtain rfl:q=p:=h
  exact ⟨rfl,fun i hi=>by cases hi⟩
 | z::zs,p,q,h=>by
  obtain ⟨k,hk,hr⟩:=h
  obtain ⟨e1,e2⟩:=num_pack hk
  obtain ⟨e3,e4⟩:=numsAt_pack hr
  have e5:packsN (z::zs)=pack z++packsN zs:=rfl
  rw [e5,List.length_append]
  refine ⟨by omega,fun i hi=>?_⟩
  rw [getD_app9]
  split
  ·exact e2 i (by omega)
  ·have:=e4 (i - (pack z).length) (by omega)
   rw [← this]
   congr 2
   omega
theorem text_of_bt {s:ByteArray} {xs:List Int} (h:s.size=xs.length) (hb:∀ i,i<xs.length→(bt s i:Int)=xs.getD i 0):s=strOfNums xs:=by
 apply ByteArray.ext
 apply Array.ext
 ·show s.size=(strOfNums xs).size
  rw [strOfNums_size];exact h
 ·intro i h1 h2
  have h3:i<s.size:=h1
  have hi:i<xs.length:=by omega
  have e1:=hb i hi
  have e2:=bt_get s i h3
  have e3:(strOfNums xs).data[i]'h2=UInt8.ofNat (xs[i]'hi).toNat:=by simp [strOfNums]
  rw [e3]
  have e4:xs.getD i 0=xs[i]'hi:=by simp [List.getD,List.getElem?_eq_getElem hi]
  rw [← e4,← e1,Int.toNat_natCast,← e2]
  show s.data[i]=UInt8.ofNat (s.data[i]).toNat
  simp
theorem packsN_packs (zs:List Nat):packs (ofNats zs)=packsN zs:=by
 unfold packs packsN ofNats
 induction zs with
 | nil=>rfl
 | cons z zs ih=>simp only [List.map_cons,List.flatMap_cons,ih,Int.toNat_natCast]
theorem listed_text {s:ByteArray} {zs:List Nat} (h:Listed s zs):s=strOfNums (packL (ofNats zs)):=by
 obtain ⟨k,hk,_,hz⟩:=h
 obtain ⟨e1,e2⟩:=num_pack hk
 obtain ⟨e3,e4⟩:=numsAt_pack hz
 have e5:packL (ofNats zs)=pack zs.length++packsN zs:=by
  unfold packL
  rw [packsN_packs,show (ofNats zs).length=zs.length from List.length_map ..]
 rw [e5]
 refine text_of_bt (by rw [List.length_append];omega) (fun i hi=>?_)
 rw [List.length_append] at hi
 rw [getD_app9]
 split
 ·have:=e2 i (by omega)
  rwa [Nat.zero_add] at this
 ·have:=e4 (i - (pack zs.length).length) (by omega)
  rw [← this]
  congr 2
  omega
theorem triples_len9:∀ (m r:Nat) (zs:List Int),zs.length=3*m+r→r<3→(triples zs).length=m
 | 0,_,[],_,_=>rfl
 | 0,_,[_],_,_=>rfl
 | 0,_,[_,_],_,_=>rfl
 | 0,r,_::_::_::_,h,hr=>by simp only [List.length_cons] at h;omega
 | m+1,r,[],h,hr=>by simp at h;omega
 | m+1,r,[_],h,hr=>by simp only [List.length_cons,List.length_nil] at h;omega
 | m+1,r,[_,_],h,hr=>by simp only [List.length_cons,List.length_nil] at h;omega
 | m+1,r,a::b::c::zs,h,hr=>by
  show (triples zs).length+1=m+1
  rw [triples_len9 m r zs (by simp only [List.length_cons] at h;omega) hr]
theorem triples_get9:∀ (m r:Nat) (zs:List Int) (i:Nat),zs.length=3*m+r→r<3→i<m→(triples zs).getD i (0,0,0)=(zs.getD (3*i) 0,zs.getD (3*i+1) 0,zs.getD (3*i+2) 0)
 | 0,_,_,i,_,_,hi=>by omega
 | m+1,r,[],i,h,hr,hi=>by simp at h;omega
 | m+1,r,[_],i,h,hr,hi=>by simp only [List.length_cons,List.length_nil] at h;omega
 | m+1,r,[_,_],i,h,hr,hi=>by simp only [List.length_cons,List.length_nil] at h;omega
 | m+1,r,a::b::c::zs,0,h,hr,hi=>rfl
 | m+1,r,a::b::c::zs,i+1,h,hr,hi=>by
  have ih:=triples_get9 m r zs i (by simp only [List.length_cons] at h;omega) hr (by omega)
  show (triples zs).getD i (0,0,0)=_
  rw [ih]
  rw [show 3*(i+1)=3*i+1+1+1 by omega]
  simp [List.getD]
theorem unT_triples:∀ (m:Nat) (zs:List Int),zs.length=3*m→unT (triples zs)=zs
 | 0,[],_=>rfl
 | 0,_::_,h=>by simp at h
 | m+1,[],h=>by simp at h
 | m+1,[_],h=>by simp only [List.length_cons,List.length_nil] at h;omega
 | m+1,[_,_],h=>by simp only [List.length_cons,List.length_nil] at h;omega
 | m+1,a::b::c::zs,h=>by
  show a::b::c::unT (triples zs)=_
  rw [unT_triples m zs (by simp only [List.length_cons] at h;omega)]
theorem unT_row:∀ xs:List I3,rowNums xs=unT xs
 | []=>rfl
 | x::xs=>by
  show [x.1,x.2.1,x.2.2]++rowNums xs=_
  rw [unT_row xs]
  rfl
theorem parse_back:∀ (k:Nat) (zs:List Int) (rows:List (List I3)),parse k zs=some rows→(∀ z ∈ zs,0≤z)→progNums rows=zs
 | 0,[],rows,h,_=>by
  have:rows=[]:=(Option.some.inj h).symm
  rw [this];rfl
 | 0,_::_,rows,h,_=>by cases h
 | k+1,[],rows,h,_=>by cases h
 | k+1,n::zs,rows,h,hz=>by
  by_cases hl:(zs.length:Int)<3*n
  ·rw [parse_short hl] at h;cases h
  ·rw [parse_step hl] at h
   obtain ⟨r',hr,rfl⟩:=Option.map_eq_some_iff.1 h
   have h0:=hz n List.mem_cons_self
   have ih:=parse_back k _ r' hr (fun z hm=>hz z (List.mem_cons_of_mem _ (List.mem_of_mem_drop hm)))
   have hl2:(zs.take (3*n.toNat)).length=3*n.toNat:=by rw [List.length_take];omega
   have e1:progNums (triples (zs.take (3*n.toNat))::r')=((triples (zs.take (3*n.toNat))).length:Int)::rowNums (triples (zs.take (3*n.toNat)))++progNums r':=by
    unfold progNums
    rw [List.flatMap_cons]
   rw [e1,triples_length n.toNat _ hl2,unT_row,unT_triples n.toNat _ hl2,ih,List.cons_append,List.take_append_drop]
   congr 1
   omega
theorem ver_text {t:ByteArray} {rows:List (List I3)} (h:IsProg t rows 0):progOk rows=true∧strOfNums (packL (progNums rows))=t:=by
 rcases h with ⟨_,zs,hL,hp,ho⟩ | ⟨h,_⟩
 ·refine ⟨ho,?_⟩
  rw [parse_back 3 _ _ hp (fun z hz=>(listed_small9 hL z hz).1)]
  exact (listed_text hL).symm
 ·cases h
theorem ent_text {t:ByteArray} {e:E3} (h:RdOk t e):entOk e=true∧txtE e=t:=by
 obtain ⟨_,h15,zs,hL,h1,h3,rfl,ho⟩:=h
 refine ⟨ho,?_⟩
 have hl:(ofNats zs).length=zs.length:=List.length_map ..
 match zs,h1 with
 | z::zs,_ =>
  rw [show (z::zs).getD 0 0=z from rfl] at h3
  have hk:((ofNats zs).take (3*z)).length=3*z:=by
   rw [List.length_take,show (ofNats zs).length=zs.length from List.length_map ..]
   simp only [List.length_cons] at h3
   omega
  have e0:entZ (t.extract 0 15) (z::zs)=(t.extract 0 15,triples ((ofNats zs).take (3*z)),(ofNats zs).drop (3*z)):=by
   unfold entZ
   rw [show (z::zs).getD 0 0=z from rfl,show ofNats (z::zs)=(z:Int)::ofNats zs from rfl,Nat.add_comm 1 (3*z)]
   rfl
  rw [e0]
  have e1:txtN (t.extract 0 15,triples ((ofNats zs).take (3*z)),(ofNats zs).drop (3*z))=ofNats (z::zs):=by
   unfold txtN
   simp only
   rw [triples_length z _ hk,unT_row,unT_triples z _ hk,List.cons_append,List.take_append_drop]
   rfl
  unfold txtE
  rw [e1,← listed_text hL]
  apply ByteArray.ext
  have hz:t.data.size=t.size:=rfl
  simp [ByteArray.data_append,ByteArray.data_extract,Array.extract_append_extract]
  first | done | (rw [hz];simp;omega) | (rw [hz];simp)
theorem com_text {t:ByteArray} {zs:List Nat} (hL:Listed t zs) (h3:zs.length % 3=0):strOfNums (packL (unT (triples (ofNats zs))))=t:=by
 have hl:(ofNats zs).length=zs.length:=List.length_map ..
 rw [unT_triples (zs.length / 3) _ (by omega)]
 exact (listed_text hL).symm


theorem bugsOf_any (a:Option Addr) (n c:Nat) (ys:List Int) (m q9:Nat) (w:World) (h:Ints .i64 w a n c ys) (hn:n=3*m+q9) (h9:q9<3) (hm:m≤2000) :
  Calls Tryz.prog 105 #[.slice a n c] w fun e w'=>RowB e w' w.heap.size (triples ys)∧Below w.heap.size w w':=by
 obtain ⟨i0,hi,hz0,hz1,hz2⟩:=info_bug9
 have htl:(triples ys).length=m:=triples_len9 m q9 ys (by rw [h.1,hn]) h9
 have hyl:ys.length=3*m+q9:=by rw [h.1,hn]
 have HG:Hid (∀ i,i<m→(triples ys).getD i (0,0,0)=(ys.getD (3*i) 0,ys.getD (3*i+1) 0,ys.getD (3*i+2) 0)):=fun i hi=>triples_get9 m q9 ys i hyl h9 hi
 go_enter Tryz.func105,Tryz.ntmps105
 go_wp2
 go_loopw [0,3] (fun s0 sv wr=>∃ (k ln:Nat) (a':Option Addr) (c':Nat),k≤m∧ln≤3*(m - k)+q9∧3*(m - k)+q9≤ln∧s0=.slice a' ln c'∧Ints .i64 w a' ln c' (ys.drop (3*k))∧wr.ownsRow w.heap.size 112 3 sv k (flat ((triples ys).take k))∧Below w.heap.size w wr) (fun s0 _ _=>slLen s0)
 case atStart=>exact ⟨0,n,a,c,by omega,by omega,by omega,rfl,by simpa using h,by simpa [flat] using World.ownsRow_nil _ _ _ _,Below.refl _ _⟩
 case round =>
  obtain ⟨k,ln,a',c',hk,hl1,hl2,rfl,hI,hr,hb⟩:=hrel
  by_cases hlt:k<m
  ·have hI0:=hI
   obtain ⟨e1,e2,e3,hcase⟩:=hI
   rcases hcase with h0 | ⟨b,off,rfl,hbl,hc⟩
   ·omega
   have d0:=hc 0 (by omega)
   have d1:=hc 1 (by omega)
   have d2:=hc 2 (by omega)
   rw [← hb.cell (p:=⟨b,_,none⟩) hbl] at d0 d1 d2
   obtain ⟨a2,hsl,hI2⟩:=slice_l hI0 (lo:=3) (by omega)
   have hgt:=HG.out k hlt
   have t0:(ys.drop (3*k)).getD 0 0=((triples ys).getD k (0,0,0)).1:=by rw [hgt];simp [List.getD]
   have t1:(ys.drop (3*k)).getD 1 0=((triples ys).getD k (0,0,0)).2.1:=by rw [hgt];simp [List.getD]
   have t2:(ys.drop (3*k)).getD 2 0=((triples ys).getD k (0,0,0)).2.2:=by rw [hgt];simp [List.getD]
   rw [t0] at d0
   rw [t1] at d1
   rw [t2] at d2
   have hst:Hid (flat ((triples ys).take (k+1))=flat ((triples ys).take k)++((triples ys).getD k (0,0,0)).cells):=flat_take_succ (by omega)
   have hI3:Ints .i64 w a2 (ln - 3) (c' - 3) (ys.drop (3*(k+1))):=by
    have:(ys.drop (3*k)).drop 3=ys.drop (3*(k+1)):=by rw [List.drop_drop];congr 1
    rw [← this];exact hI2
   have hsl3:∀ W,(Instr.slice 40 (.slice (some ⟨b,off,none⟩) ln c') (some (.int .i64 3)) none none).run Tryz.prog W=.ok (.slice a2 (ln - 3) (c' - 3)) W:=fun W=>hsl W
   clear hgt t0 t1 t2 hc hI0 hI2 hsl
   rw [Nat.add_zero] at d0
   generalize (triples ys).getD k (0,0,0)=x at d0 d1 d2 hst
   have hge:(3:Int)≤(ln:Int):=by omega
   have hp0:(0:Int)<(ln:Int):=by omega
   have hp1:(1:Int)<(ln:Int):=by omega
   have hp2:(2:Int)<(ln:Int):=by omega
   have hq0:0<ln:=by omega
   have hq1:1<ln:=by omega
   have hq2:2<ln:=by omega
   have hm1:k+1≤maxLen:=by unfold maxLen;omega
   have hm2:(k+1)*24≤140737488355328:=by omega
   have hm3:w.heap.size≤(wr.alloc (.cells #[.int .i64 x.1,.int .i64 x.2.1,.int .i64 x.2.2] 112)).drew.heap.size:=by have:=hb.size;simp;omega
   have hbis:=hb.size
   go_wp2_with fail
   go_region_held3 (fun w'=>w'.cell? ⟨b,off,none⟩=some (.int .i64 x.1)∧w'.cell? ⟨b,off+1,none⟩=some (.int .i64 x.2.1)∧w'.cell? ⟨b,off+2,none⟩=some (.int .i64 x.2.2)) (first | (exact ⟨d0,d1,d2⟩) | (exact ⟨q1,q2,q3⟩) | go_keep)
    (first | (refine step_append_mine rfl _ _ 72 rfl w.heap.size 112 i0 (.agg #[.int .i64 0,.int .i64 0,.int .i64 0]) 3 24 Tryz.underlying72 hi hz0 hz1 hz2 rfl (by decide) _ k (flat ((triples ys).take k)) rfl (own_dr (hr.alloc _)) ⟨wr.heap.size,0,none⟩ 1 1 [.int .i64 x.1,.int .i64 x.2.1,.int .i64 x.2.2] rfl rfl (three_dr wr _ _ _ _) (three_i64 _ _ _) hm1 hm2 hm3 ?_;intro v3 w3 hown3 hgrow3;have hB3:=below_app3 hbis hr hgrow3;have q1:=cells_lo3 hB3 hbl d0;have q2:=cells_lo3 hB3 hbl d1;have q3:=cells_lo3 hB3 hbl d2))
   have hr3:w3.ownsRow w.heap.size 112 3 v3 (k+1) (flat ((triples ys).take (k+1))):=by rw [hst.out];exact hown3
   have hb3:Below w.heap.size w w3:=hb.trans hB3
   clear hown3 hgrow3 hB3 q1 q2 q3 d0 d1 d2 hr hb hm1 hm2 hm3 hbis hst
   go_wp2
   go_roundw
   case rel=>exact ⟨k+1,ln - 3,a2,c' - 3,by omega,by omega,by omega,rfl,hI3,hr3,hb3⟩
   case measure=>simp [slLen];omega
  ·obtain rfl:k=m:=by omega
   have hge:¬ (3:Int)≤(ln:Int):=by omega
   rw [show (triples ys).take k=triples ys by rw [← htl,List.take_length]] at hr
   rw [← htl] at hr
   go_wp2
   go_ret
   exact ⟨RowB.mk9 hr,hb⟩


def comC (xs:List I3):ByteArray × Int:=if 4096<xs.length then (⟨#[]⟩,2) else if riseB xs=true∧xs.length≤30 then (strOfNums (packL (unT xs)),0) else (⟨#[]⟩,1)
def ResC (r:ByteArray × Int):Ending:=.returned (.tuple #[.string r.1,.int .i64 r.2])
theorem okB_num {x:I3} (h:okB x=true):(0≤x.1∧x.1≤999999999)∧(0≤x.2.1∧x.2.1≤999999999)∧(0≤x.2.2∧x.2.2≤999999999):=by
 obtain ⟨p,q,r⟩:=x
 unfold okB at h
 simp only at h ⊢
 split at h
 ·simp at h;omega
 ·split at h
  ·unfold inB at h;simp at h;omega
  ·cases h
theorem unT_rise {xs:List I3} (h:riseB xs=true):allOk (unT xs):=by
 have h9:∀ ys:List I3,(∀ x ∈ ys,okB x=true)→allOk (unT ys):=by
  intro ys
  induction ys with
  | nil=>intro _ z hz;cases hz
  | cons y ys ih =>
   intro hy z hz
   obtain ⟨h1,h2,h3⟩:=okB_num (hy y List.mem_cons_self)
   simp only [unT,List.mem_cons] at hz
   rcases hz with rfl | rfl | rfl | hz
   ·exact h1
   ·exact h2
   ·exact h3
   ·exact ih (fun x hx=>hy x (List.mem_cons_of_mem _ hx)) z hz
 refine h9 xs (fun x hx=>?_)
 unfold riseB at h
 rw [List.all_eq_true] at h
 obtain ⟨i,hi,rfl⟩:=List.getElem_of_mem hx
 have:=h i (List.mem_range.2 hi)
 simp only [bStep,Bool.and_eq_true] at this
 have h1:=this.1
 rwa [List.getD,List.getElem?_eq_getElem hi,Option.getD_some] at h1


theorem isDigit_yes (r:Int) (w:World) (h1:48≤r) (h2:r≤57):Calls Tryz.prog 139 #[.int .i32 r] w fun e w'=>e=.returned (.bool true)∧w=w':=by
 go_enter Tryz.func139,Tryz.ntmps139
 go_wp2
 go_ret
 exact ⟨rfl,rfl⟩
theorem isDigit_no (r:Int) (w:World) (h:¬ (48≤r∧r≤57)):Calls Tryz.prog 139 #[.int .i32 r] w fun e w'=>e=.returned (.bool false)∧w=w':=by
 by_cases h1:48≤r
 ·have h2:¬ r≤57:=fun h'=>h ⟨h1,h'⟩
  clear h
  go_enter Tryz.func139,Tryz.ntmps139
  go_wp2
  go_ret
  exact ⟨rfl,rfl⟩
 ·clear h
  go_enter Tryz.func139,Tryz.ntmps139
  go_wp2
  go_ret
  exact ⟨rfl,rfl⟩


def CutK (t:ByteArray) (e:Ending):Prop:=((15<t.size∧allDig t 15∧e=.returned (.tuple #[.string (t.extract 0 15),.string (t.extract 15 t.size)]))∨(¬ (15<t.size∧allDig t 15)∧e=.returned (.tuple #[.string ⟨#[]⟩,.string ⟨#[]⟩])))
theorem iter_below (w:World) (t:ByteArray) (pos:Nat):Below w.heap.size w (w.iter t pos):=(Below.refl _ _).alloc (Nat.le_refl _) _
theorem iterB {w w5:World} {t:ByteArray} {pos:Nat} (h:Below (w.iter t pos).drew.heap.size (w.iter t pos).drew w5):Below w.heap.size w w5:=bel_trans (bel_trans (iter_below w t pos) (show Below (w.iter t pos).heap.size (w.iter t pos) (w.iter t pos).drew from ⟨rfl,rfl,rfl,Nat.le_refl _,fun _ _=>rfl⟩)) h

theorem cutKey_is (t:ByteArray) (w:World) (hs:t.size≤65536) :
  Calls Tryz.prog 103 #[.string t] w fun e w'=>CutK t e∧Below w.heap.size w w':=by
 have hcl:(t.extract 0 15).size≤281474976710656:=by simp;omega
 obtain ⟨m,hm⟩:∃ m:Nat,m=t.size:=⟨_,rfl⟩
 have HXS:Hid (t.size=m):=hm.symm
 have hmb:m≤65536:=by omega
 clear hm
 go_enter Tryz.func103,Tryz.ntmps103
 go_wp2
 go_loopw [4] (fun _ wr=>∃ pos:Nat,pos≤m∧pos≤15∧wr=w.iter t pos∧Hid (allDig t pos)) (fun _ wr=>m - wr.iterPos w.heap.size)
 case atStart=>exact ⟨0,by omega,by omega,rfl,allDig_zero t⟩
 case round =>
  obtain ⟨pos,hpl,hp15,rfl,hA⟩:=hrel
  by_cases hp:pos<m
  ·have hp':pos<t.size:=by rw [HXS.out];exact hp
   have hg:=bt_get t pos hp'
   by_cases h15:pos=15
   ·by_cases ha:(t[pos]'hp').toNat<128
    ·clear hg
     obtain rfl:pos=15:=by omega
     have hY:Hid (CutK t (.returned (.tuple #[.string (t.extract 0 15),.string (t.extract 15 t.size)]))):=.inl ⟨hp',hA.out,rfl⟩
     have hnx:∀ ty,(Instr.next (.pointer (some ⟨w.heap.size,0,none⟩)) true ty).run Tryz.prog (w.iter t 15)=_:=fun ty=>run_next_ascii w t 15 ty hp' ha
     have hz15:(15:Int)≤(t.size:Int):=by omega
     clear hA
     go_wp2_with fail
     refine wp_region_held_drew (S:=(fun _=>True)) (by kernel_rfl) trivial (fun hS0=>?_)
     refine tkv 0 14 (.string t) ?_
     refine tkv 1 15 (.int .i64 15) ?_
     refine tkv 2 16 (.string (t.extract 0 15)) ?_
     refine tkv 4 18 (.string t) ?_
     refine tkv 5 19 (.int .i64 15) ?_
     refine tkv 6 20 (.string (t.extract 15 t.size)) ?_
     refine tkr 3 17 (fun K hK=>?_)
     go_simp
     refine (strings_Clone (t.extract 0 15) _ hcl).mono ?_
     rintro e w5 ⟨rfl,hb5⟩
     go_wp2_with fail
     refine hK.out _ _ ?_ (fun hS5=>?_)
     ·exact trivial
     clear hK
     refine tkv 7 2 (.string (t.extract 0 15)) ?_
     refine tkv 8 3 (.string (t.extract 15 t.size)) ?_
     refine wpAnyH_done (by kernel_rfl) ?_ _
     clear hnx
     go_wp2
     go_ret2
     exact ⟨hY.out,iterB hb5⟩
    ·clear hg ha
     obtain rfl:pos=15:=by omega
     have hY:Hid (CutK t (.returned (.tuple #[.string (t.extract 0 15),.string (t.extract 15 t.size)]))):=.inl ⟨hp',hA.out,rfl⟩
     have hnx:∀ ty,(Instr.next (.pointer (some ⟨w.heap.size,0,none⟩)) true ty).run Tryz.prog (w.iter t 15)=_:=fun ty=>run_next_any w t 15 ty hp'
     have hz15:(15:Int)≤(t.size:Int):=by omega
     clear hA
     go_wp2_with fail
     refine wp_region_held_drew (S:=(fun _=>True)) (by kernel_rfl) trivial (fun hS0=>?_)
     refine tkv 0 14 (.string t) ?_
     refine tkv 1 15 (.int .i64 15) ?_
     refine tkv 2 16 (.string (t.extract 0 15)) ?_
     refine tkv 4 18 (.string t) ?_
     refine tkv 5 19 (.int .i64 15) ?_
     refine tkv 6 20 (.string (t.extract 15 t.size)) ?_
     refine tkr 3 17 (fun K hK=>?_)
     go_simp
     refine (strings_Clone (t.extract 0 15) _ hcl).mono ?_
     rintro e w5 ⟨rfl,hb5⟩
     go_wp2_with fail
     refine hK.out _ _ ?_ (fun hS5=>?_)
     ·exact trivial
     clear hK
     refine tkv 7 2 (.string (t.extract 0 15)) ?_
     refine tkv 8 3 (.string (t.extract 15 t.size)) ?_
     refine wpAnyH_done (by kernel_rfl) ?_ _
     clear hnx
     go_wp2
     go_ret2
     exact ⟨hY.out,iterB hb5⟩
   have hne15:((pos:Int) == 15)=false:=by simp;omega
   by_cases ha:(t[pos]'hp').toNat<128
   ·have hnx:∀ ty,(Instr.next (.pointer (some ⟨w.heap.size,0,none⟩)) true ty).run Tryz.prog (w.iter t pos)=_:=fun ty=>run_next_ascii w t pos ty hp' ha
    by_cases hd:48≤bt t pos∧bt t pos≤57
    ·have hA2:Hid (allDig t (pos+1)):=allDig_succ hA.out hd.1 hd.2
     have hb1:48≤(t[pos]'hp').toNat:=by rw [hg];exact hd.1
     have hb2:(t[pos]'hp').toNat≤57:=by rw [hg];exact hd.2
     clear hg hd hA
     go_wp2_with fail
     refine (isDigit_yes _ _ (by omega) (by omega)).mono ?_
     rintro e w' ⟨rfl,rfl⟩
     clear hnx
     generalize (t[pos]'hp').toNat=b at hb1 hb2
     go_wp2
     go_roundw
     case rel=>exact ⟨pos+1,by omega,by omega,rfl,hA2⟩
     case measure=>simp;omega
    ·have hN:Hid (CutK t (.returned (.tuple #[.string ⟨#[]⟩,.string ⟨#[]⟩]))):=.inr ⟨fun h9=>hd (h9.2 pos (by omega)),rfl⟩
     rw [← hg] at hd
     clear hg hA
     go_wp2_with fail
     refine (isDigit_no _ _ (by omega)).mono ?_
     rintro e w' ⟨rfl,rfl⟩
     go_wp2
     go_ret2
     exact ⟨hN.out,iter_below _ _ _⟩
   ·have hnx:∀ ty,(Instr.next (.pointer (some ⟨w.heap.size,0,none⟩)) true ty).run Tryz.prog (w.iter t pos)=_:=fun ty=>run_next_any w t pos ty hp'
    have hd:=(decode_high t pos hp' (by omega)).1
    have hN:Hid (CutK t (.returned (.tuple #[.string ⟨#[]⟩,.string ⟨#[]⟩]))):=.inr ⟨fun h9=>by have:=h9.2 pos (by omega);omega,rfl⟩
    clear hg hA
    go_wp2_with fail
    refine (isDigit_no _ _ (by omega)).mono ?_
    rintro e w' ⟨rfl,rfl⟩
    go_wp2
    go_ret2
    exact ⟨hN.out,iter_below _ _ _⟩
  ·have hp':¬ pos<t.size:=by rw [HXS.out];exact hp
   have hnx:∀ ty,(Instr.next (.pointer (some ⟨w.heap.size,0,none⟩)) true ty).run Tryz.prog (w.iter t pos)=_:=fun ty=>run_next_end w t pos ty hp'
   have hN:Hid (CutK t (.returned (.tuple #[.string ⟨#[]⟩,.string ⟨#[]⟩]))):=.inr ⟨fun h9=>by have:=HXS.out;omega,rfl⟩
   clear hA
   go_wp2
   go_ret2
   exact ⟨hN.out,iter_below _ _ _⟩


def RdGF (t:ByteArray) (x:Ending) (w':World) (B:Nat):Prop:=(∃ (e:E3) (s:Sl2),RdOk t e∧x=.returned (.tuple #[entV e.1 s,.int .i64 0])∧OwnF w' B w'.heap.size s e)∨((∀ e,¬ RdOk t e)∧x=(.returned (.tuple #[.agg #[.string ⟨#[]⟩,.slice none 0 0,.slice none 0 0],.int .i64 (rdC t)])))
theorem getD_9 {α:Type} {zs:List α} {t:Nat} {d:α} (h:t<zs.length):zs.getD t d=zs[t]:=by rw [List.getD,List.getElem?_eq_getElem h];rfl
theorem Own.blk9 {base:Nat} {w:World} {a:Option Addr} {n cap:Nat} {xs:List Int} (h:Own base w a n cap xs) (hn:1≤n):∃ g cs,a=some ⟨g,0,none⟩∧base≤g∧Blk w g 3 cs∧∀ t,t<n→cs[t]?=some (.int .i64 (xs.getD t 0)):=by
 obtain ⟨h1,h2,h3,h4⟩:=h
 rcases h4 with h4 | ⟨g,rfl,q⟩
 ·omega
 ·rcases q.2 with ⟨hv,_⟩ | ⟨g',cap',cur,hv,hg,hh,hn',hc,hs,ht⟩
  ·cases hv
  ·cases hv
   refine ⟨g,cur.toList,rfl,hg,by simpa [Blk] using hh,fun t ht'=>?_⟩
   have e:=congrArg (fun l=>l[t]?) ht
   simp only [Nat.mul_one] at e
   rw [List.getElem?_take_of_lt ht'] at e
   rw [e,List.getElem?_map,List.getElem?_eq_getElem (by omega),getD_9 (by omega)]
   rfl

theorem OwnF.low3 {w:World} {B T:Nat} {s:Sl2} {e:E3} (h:OwnF w B T s e) {p:Addr} (hp:p.block<B) (u:Value):OwnF (w.setCell p u) B T s e:=by
 obtain ⟨q1,t1,y1,y2,y3,y4,y5⟩:=h
 refine ⟨ownsRow_setCell_below q1 hp u,t1,y1,y2,y3,y4,?_⟩
 rcases y5 with y5 | ⟨g,off,cs,e,hg,ht,hB,hc⟩
 ·exact .inl y5
 ·exact .inr ⟨g,off,cs,e,hg,ht,hB.off p u (by omega),hc⟩
theorem OwnF.wide {w:World} {B B' T T':Nat} {s:Sl2} {e:E3} (h:OwnF w B T s e) (hB:B'≤B) (hT:T≤T'):OwnF w B' T' s e:=by
 obtain ⟨q1,t1,y1,y2,y3,y4,y5⟩:=h
 refine ⟨lower8 q1 hB,fun x hx=>Nat.lt_of_lt_of_le (t1 x hx) hT,y1,y2,y3,y4,?_⟩
 rcases y5 with y5 | ⟨g,off,cs,e,hg,ht,hB',hc⟩
 ·exact .inl y5
 ·exact .inr ⟨g,off,cs,e,by omega,by omega,hB',hc⟩

theorem implReadEntry_is (t:ByteArray) (w:World) (ht:t.size≤1048576) (hV:VmShape w) (hE:ErrType w) :
  Calls Tryz.prog 75 #[.string t] w fun x w'=>RdGF t x w' w.heap.size∧Below w.heap.size w w':=by
 have bw:Below w.heap.size w (w.alloc (.cells #[.string ⟨#[]⟩,.slice none 0 0,.slice none 0 0] 74)):=by go_grown
 have pR:Blk (w.alloc (.cells #[.string ⟨#[]⟩,.slice none 0 0,.slice none 0 0] 74)) w.heap.size 74 [.string ⟨#[]⟩,.slice none 0 0,.slice none 0 0]:=blkAt _ _ _ rfl
 by_cases hs:65536<t.size
 ·have HN:Hid (∀ W,RdGF t (.returned (.tuple #[.agg #[.string ⟨#[]⟩,.slice none 0 0,.slice none 0 0],.int .i64 (rdC t)])) W w.heap.size):=fun W=>.inr ⟨fun e he=>by have:=he.1;omega,rfl⟩
  have e2:rdC t=2:=by unfold rdC;rw [if_pos hs]
  rw [e2] at HN
  have hs2:(65536:Int)<(t.size:Int):=by omega
  go_enter Tryz.func75,Tryz.ntmps75
  have r0:=pR.cell 0
  have r1:=pR.cell 1
  have r2:=pR.cell 2
  have fr0:=pR.frozen 0
  have fr1:=pR.frozen 1
  have fr2:=pR.frozen 2
  have pZ:=((pR.set 0 (.string ⟨#[]⟩)).set 1 (.slice none 0 0)).set 2 (.slice none 0 0)
  simp only [List.set_cons_zero,List.set_cons_succ] at pZ
  have z0:=pZ.cell 0
  have z1:=pZ.cell 1
  have z2:=pZ.cell 2
  simp only [List.getElem?_cons_zero,List.getElem?_cons_succ] at z0 z1 z2 r0 r1 r2
  have bz:=((bw.setCell (p:=⟨w.heap.size,0,none⟩) (Nat.le_refl _) (.string ⟨#[]⟩)).setCell (p:=⟨w.heap.size,1,none⟩) (Nat.le_refl _) (.slice none 0 0)).setCell (p:=⟨w.heap.size,2,none⟩) (Nat.le_refl _) (.slice none 0 0)
  clear pZ pR
  go_wp2
  refine bodyPost_ret (by simp [results,Tryz.results75,go_sem,z0,z1,z2];try rfl) rfl ?_
  first | exact ⟨HN.out _,bz⟩ | exact ⟨HN.out _,by go_grown⟩
 have hs2:¬ (65536:Int)<(t.size:Int):=by omega
 have e3:rdC t=3:=by unfold rdC;rw [if_neg hs]
 have HN:Hid ((∀ e,¬ RdOk t e)→∀ W,RdGF t (.returned (.tuple #[.agg #[.string ⟨#[]⟩,.slice none 0 0,.slice none 0 0],.int .i64 (3)])) W w.heap.size):=fun h W=>.inr ⟨h,by rw [e3]⟩
 clear e3
 have kC:=fun W=>cutKey_is t W (by omega)
 have kU:=fun (s:ByteArray) W (hb:Below w.heap.size w W) (h:s.size≤65536)=>implUnpackList_any s W h (hE.below hb)
 go_enter Tryz.func75,Tryz.ntmps75
 go_wp2_with fail
 generalize (w.alloc (.cells #[.string ⟨#[]⟩,.slice none 0 0,.slice none 0 0] 74))=U at *
 refine (kC _).mono ?_
 rintro x w1 ⟨hK,hb⟩
 replace bw:=bel8 bw hb
 replace pR:=pR.below hb
 have hlo1:w.heap.size<w1.heap.size:=pR.lt
 clear hb kC
 rcases hK with ⟨h15,hdg,rfl⟩ | ⟨hno,rfl⟩
 ·have hps:(t.extract 15 t.size).size≤65536:=by simp;omega
  have hks:(t.extract 0 15).size≤maxLen:=by unfold maxLen;simp;omega
  have kU1:=kU (t.extract 15 t.size)
  clear kU
  obtain ⟨kk,hkk⟩:∃ k,k=t.extract 0 15:=⟨_,rfl⟩
  obtain ⟨pp,hpp⟩:∃ k,k=t.extract 15 t.size:=⟨_,rfl⟩
  rw [← hkk] at hks ⊢
  rw [← hpp] at hps kU1 ⊢
  have HK:Hid (kk=t.extract 0 15∧pp=t.extract 15 t.size):=⟨hkk,hpp⟩
  clear hkk hpp
  go_wp2_with fail
  refine (kU1 _ bw hps).mono ?_
  rintro x w2 ⟨⟨ua,uc,zs,cd,hun,rfl,hOw⟩,hb⟩
  have hlen:=hun.len
  replace bw:=bel8 bw hb
  replace pR:=pR.below hb
  have hb12:w1.heap.size≤w2.heap.size:=hb.size
  clear hb kU1
  rcases hun with ⟨rfl,hL⟩ | ⟨rfl,hNL,rfl⟩
  ·have hIn:=hOw.ints
   obtain ⟨m,hm⟩:∃ m,m=zs.getD 0 0:=⟨_,rfl⟩
   have hmb:m≤999999999:=by
    rw [hm]
    rcases Nat.lt_or_ge 0 zs.length with h9 | h9
    ·have:=listed_small9 hL (zs.getD 0 0:Nat) (List.mem_map.2 ⟨_,by rw [getD_9 h9];exact List.getElem_mem _,rfl⟩)
     omega
    ·rw [List.getD,List.getElem?_eq_none (by omega)];simp
   have kO:=fun W (hb:Below w2.heap.size w2 W)=>entryOf_is kk ua zs.length uc (ofNats zs) m W (hIn.below hb) hlen (fun h9=>by rw [ofNats_head h9,hm]) hmb
   have hcz:((0:Int) != 0)=false:=by rfl
   obtain ⟨zl,hzl⟩:∃ k,k=zs.length:=⟨_,rfl⟩
   have hfz:(entZ kk zs).fits:=entZ_fits hL hks
   have HR:Hid (1≤zl→1+3*m≤zl→entOk (entZ kk zs)=true→RdOk t (entZ kk zs)):=fun g1 g2 g3=>⟨by omega,by omega,zs,by rw [← HK.out.2];exact hL,by omega,by rw [← hm];omega,by rw [← HK.out.1],g3⟩
   have HQ:Hid (∀ e,RdOk t e→(1≤zl∧1+3*m≤zl)∧entOk (entZ kk zs)=true):=fun e he=>by
    have h9:=he.ok
    obtain ⟨_,_,ys,g1,g2,g3,g4,_⟩:=he
    rw [← HK.out.2] at g1
    have ey:=hL.only g1
    subst ey
    rw [g4,← HK.out.1] at h9
    exact ⟨⟨by omega,by rw [hm];omega⟩,h9⟩
   rw [← hzl] at kO hOw ⊢
   have HZ:Hid (zl=zs.length∧m=zs.getD 0 0):=⟨hzl,hm⟩
   have hzb:zl≤4096:=by omega
   clear hzl hm hlen
   go_wp2_with fail
   refine (kO _ (Below.refl _ _)).mono ?_
   rintro x w3 ⟨hG,hb⟩
   replace bw:=bel8 bw hb
   replace pR:=pR.below hb
   clear kO
   rcases hG with ⟨hno,rfl⟩ | ⟨⟨g1,g2⟩,s,b,off,hua,rfl,hOB,hf2,hf1⟩
   ·have HN9:=HN.out (fun e he=>hno (HQ.out e he).1)
    replace HN:Hid (∀ W,RdGF t (.returned (.tuple #[.agg #[.string ⟨#[]⟩,.slice none 0 0,.slice none 0 0],.int .i64 (3)])) W w.heap.size):=HN9
    clear HN9 hb HQ HR hOw hIn
    have hba:Below w3.heap.size w3 (w3.alloc (.cells #[.string ⟨#[]⟩,.slice none 0 0,.slice none 0 0] 74)):=by go_grown
    replace bw:=bel8 bw hba
    replace pR:=pR.below hba
    clear hba
    have r0:=pR.cell 0
    have r1:=pR.cell 1
    have r2:=pR.cell 2
    have fr0:=pR.frozen 0
    have fr1:=pR.frozen 1
    have fr2:=pR.frozen 2
    have pZ:=((pR.set 0 (.string ⟨#[]⟩)).set 1 (.slice none 0 0)).set 2 (.slice none 0 0)
    simp only [List.set_cons_zero,List.set_cons_succ] at pZ
    have z0:=pZ.cell 0
    have z1:=pZ.cell 1
    have z2:=pZ.cell 2
    simp only [List.getElem?_cons_zero,List.getElem?_cons_succ] at z0 z1 z2 r0 r1 r2
    have bz:=((bw.setCell (p:=⟨w.heap.size,0,none⟩) (Nat.le_refl _) (.string ⟨#[]⟩)).setCell (p:=⟨w.heap.size,1,none⟩) (Nat.le_refl _) (.slice none 0 0)).setCell (p:=⟨w.heap.size,2,none⟩) (Nat.le_refl _) (.slice none 0 0)
    clear pZ pR
    go_wp2
    refine bodyPost_ret (by simp [results,Tryz.results75,go_sem,z0,z1,z2];try rfl) rfl ?_
    first | exact ⟨HN.out _,bz⟩ | exact ⟨HN.out _,by go_grown⟩
   ·-- the entry is there
    have hOw3:=hOw.kept hb
    obtain ⟨g,cs,hua2,hgB,hBk,hcs⟩:=hOw3.blk9 g1
    subst hua2
    cases hua
    obtain ⟨⟨sa,sn,sc⟩,⟨fa,fn,fc⟩⟩:=s
    simp only at hOB hf1 hf2
    injection hf2 with hf2a hf2b
    have hFl:(entZ kk zs).2.2.length=fn:=by show ((ofNats zs).drop (1+3*zs.getD 0 0)).length=fn;rw [List.length_drop,ofNats_len,← HZ.out.2,hf2a,HZ.out.1]
    have hOF:OwnF w3 w1.heap.size w3.heap.size ((sa,sn,sc),(fa,fn,fc)) (entZ kk zs):=by
     refine ⟨?_,fun x hx=>(hOB.lt x hx).2,hFl,?_,?_,?_,?_⟩
     ·show w3.ownsRow w1.heap.size 112 3 (.slice sa sn sc) (triples (((ofNats zs).drop 1).take (3*zs.getD 0 0))).length (flat (triples (((ofNats zs).drop 1).take (3*zs.getD 0 0))))
      rw [← HZ.out.2]
      exact lower8 hOB hb12
     ·show fn≤fc
      have:=hOw.2.1
      omega
     ·show fc≤maxLen
      have:=hOw.2.2.1
      omega
     ·intro h9
      rcases hf1 with ⟨_,h8⟩ | h8
      ·rw [h8] at h9;cases h9
      ·rw [h8] at h9;cases h9
     ·rcases Nat.eq_zero_or_pos fn with h9 | h9
      ·exact .inl h9
      ·right
       have h2c:=hOw.2.1
       rcases hf1 with ⟨h8,_⟩ | h8
       ·omega
       ·refine ⟨_,0+(1+3*m),cs,h8,hgB,hBk.lt,hBk,fun t ht'=>?_⟩
        have ht9:t<fn:=ht'
        rw [Nat.zero_add]
        rw [hcs (1+3*m+t) (by omega)]
        show some (Value.int .i64 _)=some (.int .i64 (((ofNats zs).drop (1+3*zs.getD 0 0)).getD t 0))
        rw [← HZ.out.2]
        simp [List.getD]
    have hFle:(entZ kk zs).2.2.length≤4096:=by rw [hFl];omega
    clear hOB hf1 hf2a hf2b hOw hOw3 hBk hcs hIn hFl
    replace HR:Hid (entOk (entZ kk zs)=true→RdOk t (entZ kk zs)):=HR.out g1 g2
    have hba:Below w3.heap.size w3 (w3.alloc (.cells #[.string kk,.slice sa sn sc,.slice fa fn fc] 74)):=by go_grown
    have pE:Blk (w3.alloc (.cells #[.string kk,.slice sa sn sc,.slice fa fn fc] 74)) w3.heap.size 74 [.string kk,.slice sa sn sc,.slice fa fn fc]:=blkAt _ _ _ rfl
    have kK:=fun W (hb:Below w.heap.size w W) (hm:Emem W ((sa,sn,sc),(fa,fn,fc)) (entZ kk zs))=>implEntryOK_is (entZ kk zs) ((sa,sn,sc),(fa,fn,fc)) W hm (hV.below hb)
    have ekk:(entZ kk zs).1=kk:=rfl
    rw [ekk] at kK
    unfold entV at kK ⊢
    simp only at kK ⊢
    replace bw:=bel8 bw hba
    replace pR:=pR.below hba
    replace hOF:=hOF.below hba
    have x0:=pE.cell 0
    have x1:=pE.cell 1
    have x2:=pE.cell 2
    simp only [List.getElem?_cons_zero,List.getElem?_cons_succ] at x0 x1 x2
    go_wp2_with fail
    generalize (w3.alloc (.cells #[.string kk,.slice sa sn sc,.slice fa fn fc] 74))=W3 at *
    clear x0 x1 x2
    refine (kK _ bw (hOF.mem hfz)).mono ?_
    rintro x w4 ⟨rfl,hb4⟩
    replace bw:=bel8 bw hb4
    replace pR:=pR.below hb4
    replace pE:=pE.below hb4
    replace hOF:=hOF.below hb4
    have hlo:=hlo1
    have hT4:w3.heap.size≤w4.heap.size:=Nat.le_trans hba.size hb4.size
    clear hb4 kK hba
    cases hok:entOk (entZ kk zs)
    ·have HN9:=HN.out (fun e he=>by have:=(HQ.out e he).2;rw [hok] at this;cases this)
     replace HN:Hid (∀ W,RdGF t (.returned (.tuple #[.agg #[.string ⟨#[]⟩,.slice none 0 0,.slice none 0 0],.int .i64 (3)])) W w.heap.size):=HN9
     clear HN9 hb HQ HR hOF hok
     have r0:=pR.cell 0
     have r1:=pR.cell 1
     have r2:=pR.cell 2
     have fr0:=pR.frozen 0
     have fr1:=pR.frozen 1
     have fr2:=pR.frozen 2
     have pZ:=((pR.set 0 (.string ⟨#[]⟩)).set 1 (.slice none 0 0)).set 2 (.slice none 0 0)
     simp only [List.set_cons_zero,List.set_cons_succ] at pZ
     have z0:=pZ.cell 0
     have z1:=pZ.cell 1
     have z2:=pZ.cell 2
     simp only [List.getElem?_cons_zero,List.getElem?_cons_succ] at z0 z1 z2 r0 r1 r2
     have bz:=((bw.setCell (p:=⟨w.heap.size,0,none⟩) (Nat.le_refl _) (.string ⟨#[]⟩)).setCell (p:=⟨w.heap.size,1,none⟩) (Nat.le_refl _) (.slice none 0 0)).setCell (p:=⟨w.heap.size,2,none⟩) (Nat.le_refl _) (.slice none 0 0)
     clear pZ pR pE
     go_wp2
     refine bodyPost_ret (by simp [results,Tryz.results75,go_sem,z0,z1,z2];try rfl) rfl ?_
     first | exact ⟨HN.out _,bz⟩ | exact ⟨HN.out _,by go_grown⟩
    ·have hRd:=HR.out hok
     have x0:=pE.cell 0
     have x1:=pE.cell 1
     have x2:=pE.cell 2
     simp only [List.getElem?_cons_zero,List.getElem?_cons_succ] at x0 x1 x2
     have r0:=pR.cell 0
     have r1:=pR.cell 1
     have r2:=pR.cell 2
     have fr0:=pR.frozen 0
     have fr1:=pR.frozen 1
     have fr2:=pR.frozen 2
     have pZ:=((pR.set 0 (.string kk)).set 1 (.slice sa sn sc)).set 2 (.slice fa fn fc)
     simp only [List.set_cons_zero,List.set_cons_succ] at pZ
     have z0:=pZ.cell 0
     have z1:=pZ.cell 1
     have z2:=pZ.cell 2
     simp only [List.getElem?_cons_zero,List.getElem?_cons_succ] at z0 z1 z2 r0 r1 r2
     have bz:=((bw.setCell (p:=⟨w.heap.size,0,none⟩) (Nat.le_refl _) (.string kk)).setCell (p:=⟨w.heap.size,1,none⟩) (Nat.le_refl _) (.slice sa sn sc)).setCell (p:=⟨w.heap.size,2,none⟩) (Nat.le_refl _) (.slice fa fn fc)
     have hOF9:=(((hOF.low3 (p:=⟨w.heap.size,0,none⟩) hlo (.string kk)).low3 (p:=⟨w.heap.size,1,none⟩) hlo (.slice sa sn sc)).low3 (p:=⟨w.heap.size,2,none⟩) hlo (.slice fa fn fc)).wide (B':=w.heap.size) (T':=((w4.setCell ⟨w.heap.size,0,none⟩ (.string kk)).setCell ⟨w.heap.size,1,none⟩ (.slice sa sn sc)).setCell ⟨w.heap.size,2,none⟩ (.slice fa fn fc) |>.heap.size) (Nat.le_of_lt hlo) (by simp;exact hT4)
     have HE:Hid (RdGF t (.returned (.tuple #[entV (entZ kk zs).1 ((sa,sn,sc),(fa,fn,fc)),.int .i64 0])) (((w4.setCell ⟨w.heap.size,0,none⟩ (.string kk)).setCell ⟨w.heap.size,1,none⟩ (.slice sa sn sc)).setCell ⟨w.heap.size,2,none⟩ (.slice fa fn fc)) w.heap.size):=.inl ⟨_,_,hRd,rfl,hOF9⟩
     clear hOF hOF9 pZ pR pE hRd HR HQ hok
     go_wp2
     refine bodyPost_ret (by simp [results,Tryz.results75,go_sem,z0,z1,z2];try rfl) rfl ?_
     exact ⟨HE.out,bz⟩
  ·have HN9:=HN.out (fun e he=>by
    obtain ⟨_,_,ys,g1,_⟩:=he
    rw [← HK.out.2] at g1
    exact hNL ys g1)
   replace HN:Hid (∀ W,RdGF t (.returned (.tuple #[.agg #[.string ⟨#[]⟩,.slice none 0 0,.slice none 0 0],.int .i64 (3)])) W w.heap.size):=HN9
   clear HN9 hOw
   have r0:=pR.cell 0
   have r1:=pR.cell 1
   have r2:=pR.cell 2
   have fr0:=pR.frozen 0
   have fr1:=pR.frozen 1
   have fr2:=pR.frozen 2
   have pZ:=((pR.set 0 (.string ⟨#[]⟩)).set 1 (.slice none 0 0)).set 2 (.slice none 0 0)
   simp only [List.set_cons_zero,List.set_cons_succ] at pZ
   have z0:=pZ.cell 0
   have z1:=pZ.cell 1
   have z2:=pZ.cell 2
   simp only [List.getElem?_cons_zero,List.getElem?_cons_succ] at z0 z1 z2 r0 r1 r2
   have bz:=((bw.setCell (p:=⟨w.heap.size,0,none⟩) (Nat.le_refl _) (.string ⟨#[]⟩)).setCell (p:=⟨w.heap.size,1,none⟩) (Nat.le_refl _) (.slice none 0 0)).setCell (p:=⟨w.heap.size,2,none⟩) (Nat.le_refl _) (.slice none 0 0)
   clear pZ pR
   go_wp2
   refine bodyPost_ret (by simp [results,Tryz.results75,go_sem,z0,z1,z2];try rfl) rfl ?_
   first | exact ⟨HN.out _,bz⟩ | exact ⟨HN.out _,by go_grown⟩
 ·have HN9:=HN.out (fun e he=>hno ⟨he.more,he.dig⟩)
  replace HN:Hid (∀ W,RdGF t (.returned (.tuple #[.agg #[.string ⟨#[]⟩,.slice none 0 0,.slice none 0 0],.int .i64 (3)])) W w.heap.size):=HN9
  clear HN9
  have kU1:=fun W (hb:Below w.heap.size w W)=>kU ⟨#[]⟩ W hb (show (0:Nat)≤65536 by omega)
  clear kU
  go_wp2_with fail
  refine (kU1 _ bw).mono ?_
  rintro x w2 ⟨⟨ua,uc,zs,cd,hun,rfl,hOw⟩,hb⟩
  replace bw:=bel8 bw hb
  replace pR:=pR.below hb
  clear hb kU1
  rcases hun with ⟨rfl,hL⟩ | ⟨rfl,hNL,rfl⟩
  ·exact absurd hL (noList_nil (by rfl) zs)
  clear hOw
  have r0:=pR.cell 0
  have r1:=pR.cell 1
  have r2:=pR.cell 2
  have fr0:=pR.frozen 0
  have fr1:=pR.frozen 1
  have fr2:=pR.frozen 2
  have pZ:=((pR.set 0 (.string ⟨#[]⟩)).set 1 (.slice none 0 0)).set 2 (.slice none 0 0)
  simp only [List.set_cons_zero,List.set_cons_succ] at pZ
  have z0:=pZ.cell 0
  have z1:=pZ.cell 1
  have z2:=pZ.cell 2
  simp only [List.getElem?_cons_zero,List.getElem?_cons_succ] at z0 z1 z2 r0 r1 r2
  have bz:=((bw.setCell (p:=⟨w.heap.size,0,none⟩) (Nat.le_refl _) (.string ⟨#[]⟩)).setCell (p:=⟨w.heap.size,1,none⟩) (Nat.le_refl _) (.slice none 0 0)).setCell (p:=⟨w.heap.size,2,none⟩) (Nat.le_refl _) (.slice none 0 0)
  clear pZ pR
  go_wp2
  refine bodyPost_ret (by simp [results,Tryz.results75,go_sem,z0,z1,z2];try rfl) rfl ?_
  first | exact ⟨HN.out _,bz⟩ | exact ⟨HN.out _,by go_grown⟩
end Go.Proofs.YtdopgkbegjfhjaaGreatDoor
