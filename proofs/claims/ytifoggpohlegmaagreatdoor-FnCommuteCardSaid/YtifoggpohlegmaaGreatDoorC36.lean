/-
  Joined: EvC, EvD.
-/
import Derived.Deep.MidRow
import Derived.Test.YtifoggpohlegmaaGreatDoorC35

namespace Go.Proofs.YtifoggpohlegmaaGreatDoor
set_option maxRecDepth 100000
set_option maxHeartbeats 16000000
open Go.RowKit
set_option linter.unusedVariables false
set_option linter.unusedSimpArgs false

def evsM (rows:List (List I3)):V4→List Int→List I4
 | _,[]=>[]
 | m,k::ks=>eventM rows m k.toNat::evsM rows (goM rows m k).1 ks
def evE (rows:List (List I3)) (ks:List Int):List I4:=if 4096<ks.length then [] else if progOk rows then (if (runI rows zeroV [] ks).2.2=0 then evsM rows zeroV ks else []) else []
def evK (rows:List (List I3)) (ks:List Int):Int:=if 4096<ks.length then 2 else if progOk rows then (runI rows zeroV [] ks).2.2 else 1
def EvGot (e:Ending) (w:World) (B:Nat) (es:List I4) (c:Int):Prop:=∃ v,e=.returned (.tuple #[v,.int .i64 c])∧w.ownsRow B 38 4 v es.length (flat4 es)
theorem info_event:(Tryz.prog.info? 38).map (fun i=>(i.zero,i.size,i.bytes))=some (some (.agg #[.int .i64 0,.int .i64 0,.int .i64 0,.int .i64 0]),4,32):=by kernel_rfl
theorem runI_one (rows:List (List I3)) (m:V4) (fs:List I3) (k:Int):runI rows m fs [k]=if haltM rows m k=0 then ((goM rows m k).1,fs++ownM rows m k,0) else (m,fs,haltM rows m k):=by
 show (if haltM rows m k=0 then _ else _)=_
 rfl
theorem machR_app (fv c0 c1 c2:Value) (m:V4):Rp.machR fv c0 c1 c2 m=machCells c0 c1 c2 m++[fv]:=rfl
theorem Blk.rangeE {w:World} {g t:Nat} {cs xs:List Value} (h:Blk w g t (cs++xs)):w.rangeAt g 0 cs:=fun j v hj=>by
 rw [Nat.zero_add,h.cell,List.getElem?_append_left (List.getElem?_eq_some_iff.1 hj).1]
 exact hj
theorem four_at {w:World} {G:Nat} {a b c d:Value} (h:Blk w G 38 [a,b,c,d]):∀ j u,[a,b,c,d][j]?=some u→w.cell? ((⟨G,0,none⟩:Addr).add j)=some u:=by
 intro j u hj
 rw [Addr.add_mid,Nat.zero_add,h.cell]
 exact hj
theorem four_one (a b c d:Int):∀ u ∈ [Value.int .i64 a,Value.int .i64 b,Value.int .i64 c,Value.int .i64 d],u.oneCell'=true:=by
 intro u hu
 simp at hu
 rcases hu with rfl | rfl | rfl | rfl<;>rfl
theorem ints_cellE {w:World} {a:Option Addr} {n c:Nat} {ks:List Int} (h:Ints .i64 w a n c ks) {i:Nat} (hi:i<n):∃ b off,a=some ⟨b,off,none⟩∧w.cell? ⟨b,off+i,none⟩=some (.int .i64 (ks.getD i 0))∧b<w.heap.size:=by
 obtain ⟨h1,h2,h3,h4⟩:=h
 rcases h4 with h4 | ⟨b,off,ha,hl,hc⟩
 ·omega
 ·exact ⟨b,off,ha,hc i hi,hl⟩
theorem ownM_lenE (rows:List (List I3)) (m:V4) (k:Int):(ownM rows m k).length≤1:=by unfold ownM;split<;>simp
def OnEv (w wr:World) (g:Nat) (cs:Sl × Sl × Sl) (rows:List (List I3)) (ks:List Int) (n i:Nat) (fin:V4 × List I3 × Int) (tot:List I4) (m:V4) (fs:List I3) (es:List I4) (v:Value):Prop:=
 i≤n∧runI rows m fs (ks.drop i)=fin∧shapeOk m=true∧RanTo wr g w.heap.size cs m fs∧Below w.heap.size w wr∧wr.ownsRow w.heap.size 38 4 v es.length (flat4 es)∧es++evsM rows m (ks.drop i)=tot∧fs.length≤i∧es.length=i

theorem implEventsOf_ok (a:Option Addr) (cap:Nat) (rows:List (List I3)) (la:Option Addr) (n c:Nat) (ks:List Int) (w:World) (hC:Codes w a 3 cap rows) (hV:VmShape w) (hp:progOk rows=true) (hL:Ints .i64 w la n c ks) (hn:¬ 4096<n) :
  Calls Tryz.prog 12 #[.agg #[.slice a 3 cap],.slice la n c] w fun e w'=>EvGot e w' w.heap.size (if (runI rows zeroV [] ks).2.2=0 then evsM rows zeroV ks else []) (runI rows zeroV [] ks).2.2∧Below w.heap.size w w':=by
 obtain ⟨i0,hi9,hz0,hz1,hz2⟩:=info_parts info_event
 have hn':¬ (4096:Int)<(n:Int):=by omega
 have hll:=hL.1
 obtain ⟨_,cs,hR⟩:=hC.rowsAt hp
 have kN:=fun W (b:Below w.heap.size w W)=>newReplay_ok (hC.below b) (hV.below b) hp (hR.below b)
 have HF0:Hid (runI rows zeroV [] (ks.drop 0)=runI rows zeroV [] ks):=rfl
 have HT0:Hid ([]++evsM rows zeroV (ks.drop 0)=evsM rows zeroV ks):=rfl
 obtain ⟨fin,hfin⟩:∃ fin,fin=runI rows zeroV [] ks:=⟨_,rfl⟩
 obtain ⟨tot,htot⟩:∃ tot,tot=evsM rows zeroV ks:=⟨_,rfl⟩
 rw [← hfin] at HF0 ⊢
 rw [← htot] at HT0 ⊢
 obtain ⟨es9,hes⟩:∃ es9,es9=(if fin.2.2=0 then tot else []):=⟨_,rfl⟩
 obtain ⟨cd9,hcd⟩:∃ cd9,cd9=fin.2.2:=⟨_,rfl⟩
 rw [← hes,← hcd]
 have HE:Hid (es9=(if fin.2.2=0 then tot else [])∧cd9=fin.2.2):=⟨hes,hcd⟩
 clear hfin htot hes hcd
 have bw:Below w.heap.size w (w.alloc (.cells #[.slice a 3 cap] 25)):=by go_grown
 have pP:Blk (w.alloc (.cells #[.slice a 3 cap] 25)) w.heap.size 25 [.slice a 3 cap]:=blkAt _ _ _ rfl
 clear hC hV
 go_enter Tryz.func12,Tryz.ntmps12
 go_wp2_with fail
 generalize (w.alloc (.cells #[.slice a 3 cap] 25))=U at *
 go_wp2_with (first | refine wpList_load_blk rfl 25 _ rfl w.heap.size rfl pP _ Tryz.underlying25 rfl (by kernel_rfl) ?_)
 refine (kN _ bw).mono ?_
 rintro e w1 ⟨rfl,hb⟩
 replace bw:=bel_trans bw hb
 have pN:=Blk.new w1 91 [.slice none 0 0,.int .i64 0,.int .i64 0,.int .i64 0,.slice none 0 0,.int .i64 0,.int .i64 0,.int .i64 0,.slice none 0 0,.int .i64 0,.int .i64 0,.int .i64 0,.int .i64 0,.int .i64 0,.int .i64 0,.int .i64 0,.int .i64 0,.int .i64 0,.slice none 0 0]
 have ha:Below w1.heap.size w1 (w1.alloc (.cells #[.slice none 0 0,.int .i64 0,.int .i64 0,.int .i64 0,.slice none 0 0,.int .i64 0,.int .i64 0,.int .i64 0,.slice none 0 0,.int .i64 0,.int .i64 0,.int .i64 0,.int .i64 0,.int .i64 0,.int .i64 0,.int .i64 0,.int .i64 0,.int .i64 0,.slice none 0 0] 91)):=by go_grown
 have hgw:w.heap.size≤w1.heap.size:=bw.size
 clear kN hb pP
 go_wp2_with (refine wpList_store_blk rfl 91 _ _ rfl w1.heap.size (Rp.machR (.slice none 0 0) cs.1.val cs.2.1.val cs.2.2.val zeroV) rfl rfl pN (by kernel_rfl) rfl rfl ?_)
 intro W9 pM g1
 replace bw:=(bel_trans bw ha).grown g1 (by simp;omega) (fun x hx=>by cases hx;omega)
 have st:OnEv w W9 w1.heap.size cs rows ks n 0 fin tot zeroV [] [] (.slice none 0 0):=⟨by omega,HF0.out,zero_shape,⟨_,pM.out,World.ownsRow_nil _ _ _ _⟩,bw,World.ownsRow_nil _ _ _ _,HT0.out,by simp,rfl⟩
 clear g1 ha pN pM HF0 HT0 bw
 generalize w1.heap.size=g at *
 go_wp2_with fail
 go_loopw [8,26] (fun so si wr=>∃ (i:Nat) (m:V4) (fs:List I3) (es:List I4) (vo:Value),vo=so∧si=.int .i64 i∧OnEv w wr g cs rows ks n i fin tot m fs es vo) (fun _ si _=>n - (intOf si).toNat)
 case atStart=>exact ⟨0,_,_,_,_,rfl,rfl,st⟩
 case round =>
  clear st
  obtain ⟨i,m,fs,es,so,rfl,rfl,hi,hr,hs,⟨fv,hM,hF⟩,bw,q,ht,hfl,hel⟩:=hrel
  by_cases hlt:i<n
  ·obtain ⟨lb,lo,rfl,hc,hlb⟩:=ints_cellE hL hlt
   replace hc:=cells_kept bw _ _ hc
   have e9:ks.drop i=ks.getD i 0::ks.drop (i+1):=by rw [List.drop_eq_getElem_cons (by omega)];simp [List.getD,show i<ks.length by omega]
   have HR:Hid (runI rows m fs (ks.getD i 0::ks.drop (i+1))=fin):=by rw [Hid,← e9];exact hr
   have HT:Hid (es++(eventM rows m (ks.getD i 0).toNat::evsM rows (goM rows m (ks.getD i 0)).1 (ks.drop (i+1)))=tot):=by rw [e9] at ht;exact ht
   have hlt':(i:Int)<(n:Int):=by omega
   have hi0:(0:Int)≤(i:Int):=by omega
   generalize ks.getD i 0=kk at *
   clear hr ht e9
   have hgl:=hM.lt
   have hrg:=Blk.rangeE (machR_app fv cs.1.val cs.2.1.val cs.2.2.val m▸hM)
   have pN:=Blk.new wr 89 [.slice none 0 0,.int .i64 0,.int .i64 0,.int .i64 0,.slice none 0 0,.int .i64 0,.int .i64 0,.int .i64 0,.slice none 0 0,.int .i64 0,.int .i64 0,.int .i64 0,.int .i64 0,.int .i64 0,.int .i64 0,.int .i64 0,.int .i64 0,.int .i64 0]
   have ha:Below wr.heap.size wr (wr.alloc (.cells #[.slice none 0 0,.int .i64 0,.int .i64 0,.int .i64 0,.slice none 0 0,.int .i64 0,.int .i64 0,.int .i64 0,.slice none 0 0,.int .i64 0,.int .i64 0,.int .i64 0,.int .i64 0,.int .i64 0,.int .i64 0,.int .i64 0,.int .i64 0,.int .i64 0] 89)):=by go_grown
   go_wp2_with (first | refine wpList_load_mid rfl 89 _ rfl g 0 rfl (machCells cs.1.val cs.2.1.val cs.2.2.val m) _ hrg Tryz.underlying89 rfl (by kernel_rfl) ?_ | refine wpList_store_blk rfl 89 _ _ rfl wr.heap.size (machCells cs.1.val cs.2.1.val cs.2.2.val m) rfl rfl pN (by kernel_rfl) rfl rfl ?_)
   intro W pW g1
   have ng:(some wr.heap.size:Option Nat)≠some g:=by simp;omega
   have hF1:=(owns_below hF ha).kept g1 (.inr (own_ne_blkR (owns_below hF ha) pN (by decide)).symm)
   have q1:=(owns_below q ha).kept g1 (.inr (own_ne_blkR (owns_below q ha) pN (by decide)).symm)
   have hM1:=(hM.below ha).kept g1 ng
   have bw1:=(bel_trans bw ha).grown g1 (Nat.le_trans bw.size ha.size) (fun x hx=>by cases hx;exact bw.size)
   have hWg:w.heap.size≤wr.heap.size:=bw.size
   clear hrg pN ha g1 ng hM hF q bw hc
   have pW2:=pW.out
   clear pW
   generalize wr.heap.size=gw at *
   have ha:Below W.heap.size W (W.alloc (.cells #[.int .i64 kk] 3)):=by go_grown
   have pK:Blk (W.alloc (.cells #[.int .i64 kk] 3)) W.heap.size 3 [.int .i64 kk]:=blkAt _ _ _ rfl
   have hLk:ListAt (W.alloc (.cells #[.int .i64 kk] 3)) w.heap.size (some ⟨W.heap.size,0,none⟩) 1 1 [kk]:=⟨⟨rfl,by omega,by unfold maxLen;omega,.inr ⟨_,_,rfl,pK.lt,fun t ht9=>by
    obtain rfl:t=0:=by omega
    simp⟩⟩,fun b o hb _=>by cases hb;exact .inr ⟨_,_,pK⟩⟩
   have kR:=run_is (w0:=w) hR (bel_trans bw1 ha) hgw hp hs ⟨fv,hM1.below ha,owns_below hF1 ha⟩ hLk (by omega)
   rw [runI_one] at kR
   replace q1:=owns_below q1 ha
   replace pW2:=pW2.below ha
   clear ha pK hLk hM1 hF1 bw1
   by_cases hz:haltM rows m kk=0
   ·rw [if_pos hz] at kR
    simp only at kR
    obtain ⟨h0,h2,hd,hcn⟩:=halt_can hz
    have hs2:=goM_shape hp hs hz
    have hr2:runI rows (goM rows m kk).1 (fs++ownM rows m kk) (ks.drop (i+1))=fin:=by
     have:=HR.out
     rw [show runI rows m fs (kk::ks.drop (i+1))=runI rows (goM rows m kk).1 (fs++ownM rows m kk) (ks.drop (i+1)) by show (if haltM rows m kk=0 then _ else _)=_;rw [if_pos hz]] at this
     exact this
    obtain ⟨k,rfl⟩:∃ k:Nat,kk=k:=⟨kk.toNat,by omega⟩
    rw [Int.toNat_natCast] at hd
    have hk:k<3:=by omega
    have ht2:=HT.out
    rw [Int.toNat_natCast] at ht2
    have hol:=ownM_lenE rows m (k:Int)
    clear HR HT hz h0 h2 hcn
    go_wp2_with fail
    refine kR.mono ?_
    rintro e w3 ⟨rfl,hRan,bw3,kp⟩
    replace q1:=kp.owns q1 (by decide) (by decide)
    replace pW2:=kp.blk pW2 (by decide) (by decide)
    have kV:=event_is ((hR.below bw3).mach pW2) hp hs hk hd
    obtain ⟨ev,hev⟩:∃ ev,ev=eventM rows m k:=⟨_,rfl⟩
    rw [← hev] at kV ht2
    obtain ⟨v0,v1,v2,v3⟩:=ev
    simp only at kV
    clear kR kp hd hev
    go_wp2_with fail
    refine kV.mono ?_
    rintro e w4 ⟨rfl,hb⟩
    have bw4:=bel_trans bw3 hb
    have hRan4:RanTo w4 g w.heap.size cs (goM rows m k).1 (fs++ownM rows m k):=by obtain ⟨f9,h9,h8⟩:=hRan;exact ⟨f9,h9.below hb,owns_below h8 hb⟩
    replace q1:=owns_below q1 hb
    clear kV hb pW2 hRan bw3
    have ha:Below w4.heap.size w4 (w4.alloc (.cells #[.int .i64 v0,.int .i64 v1,.int .i64 v2,.int .i64 v3] 38)):=by go_grown
    have pV:Blk (w4.alloc (.cells #[.int .i64 v0,.int .i64 v1,.int .i64 v2,.int .i64 v3] 38)) w4.heap.size 38 [.int .i64 v0,.int .i64 v1,.int .i64 v2,.int .i64 v3]:=blkAt _ _ _ rfl
    have hsz4:=bw4.size
    go_wp2_with (at_builtin;refine wpList_append_own _ rfl _ _ 29 rfl w.heap.size 38 i0 (.agg #[.int .i64 0,.int .i64 0,.int .i64 0,.int .i64 0]) 4 32 Tryz.underlying29 hi9 hz0 hz1 hz2 rfl (by decide) _ _ _ rfl (q1.alloc _) ⟨w4.heap.size,0,none⟩ 1 1 [.int .i64 v0,.int .i64 v1,.int .i64 v2,.int .i64 v3] rfl rfl (four_at pV) (four_one _ _ _ _) ?c3 ?c4 ?c5 ?_)
    case c3=>unfold maxLen;omega
    case c4=>omega
    case c5=>simp;omega
    intro v9 wn q9 g9 _
    have R:wn.ownsRow w.heap.size 38 4 v9 (es++[(v0,v1,v2,v3)]).length (flat4 (es++[(v0,v1,v2,v3)])):=by
     rw [List.length_append,flat4_snoc,hel]
     exact q9
    have bn:=(bel_trans bw4 ha).grown g9 (Nat.le_trans hsz4 ha.size) (fun k hk=>(q1.lt k hk).1)
    have hRn:RanTo wn g w.heap.size cs (goM rows m k).1 (fs++ownM rows m k):=by
     obtain ⟨f9,h9,h8⟩:=hRan4
     have q1a:=owns_below q1 ha
     exact ⟨f9,(h9.below ha).kept g9 (own_ne_blkR q1a (h9.below ha) (by decide)).symm,(owns_below h8 ha).kept g9 (owns_ne (owns_below h8 ha) q1a (by decide))⟩
    have st2:OnEv w wn g cs rows ks n (i+1) fin tot (goM rows m k).1 (fs++ownM rows m k) (es++[(v0,v1,v2,v3)]) v9:=⟨by omega,hr2,hs2,hRn,bn,R,by rw [List.append_assoc];exact ht2,by rw [List.length_append];omega,by rw [List.length_append];simp;omega⟩
    clear R bn hRn q9 g9 q1 ha pV hRan4 bw4 hr2 hs2 ht2 hs
    go_wp2
    go_roundw
    case rel=>exact ⟨i+1,_,_,_,_,rfl,by go_num,st2⟩
    case measure=>simp [intOf];omega
   ·rw [if_neg hz] at kR
    simp only at kR
    have hfe:fin=(m,fs,haltM rows m kk):=by
     rw [← HR.out]
     show (if haltM rows m kk=0 then _ else _)=_
     rw [if_neg hz]
    have hne:(haltM rows m kk != 0)=true:=by simp [hz]
    have HZ:Hid (es9=[]∧cd9=haltM rows m kk):=by
     obtain ⟨h8,h9⟩:=HE.out
     rw [hfe] at h8 h9
     exact ⟨h8.trans (if_neg hz),h9⟩
    clear HR HT hz hfe HE
    go_wp2_with fail
    refine kR.mono ?_
    rintro e w3 ⟨rfl,hRan,bw3,kp⟩
    clear kR kp hRan q1 pW2
    go_wp2
    go_ret2
    rw [HZ.out.1,HZ.out.2]
    exact ⟨⟨_,rfl,World.ownsRow_nil _ _ _ _⟩,bw3⟩
  ·obtain rfl:i=n:=by omega
   have hfe:fin=(m,fs,0):=by rw [← hr,List.drop_of_length_le (by omega)];rfl
   have hte:es=tot:=by rw [← ht,List.drop_of_length_le (by omega)];simp [evsM]
   have HZ:Hid (es9=es∧cd9=0):=by
    obtain ⟨h8,h9⟩:=HE.out
    rw [hfe] at h8 h9
    exact ⟨h8.trans ((if_pos rfl).trans hte.symm),h9⟩
   clear hr ht hfe hte HE
   go_wp2
   go_ret2
   rw [HZ.out.1,HZ.out.2]
   exact ⟨⟨_,rfl,q⟩,bw⟩


theorem l05Event_raw (b9 off9 cap b0 o0 c0:Nat) (a1:Option Addr) (n1 c1:Nat) (a2:Option Addr) (n2 c2:Nat) (a3:Option Addr) (n3 c3:Nat) (k p b off n c:Nat) (x0 x1 x2:Int) (w:World) (hk:k<3) (hp:p<n) (hx:-1000≤x1∧x1≤1000)
  (f0:w.cell? ⟨b9,off9+k,none⟩=some (.slice (some ⟨b,off,none⟩) n c)) (e1:w.cell? ⟨b0,o0+k,none⟩=some (.int .i64 p)) (q0:w.cell? ⟨b,off+p*3,none⟩=some (.int .i64 x0)) (q1:w.cell? ⟨b,off+p*3+1,none⟩=some (.int .i64 x1)) (q2:w.cell? ⟨b,off+p*3+2,none⟩=some (.int .i64 x2)) :
  Calls Tryz.prog 122 #[.agg #[.slice (some ⟨b9,off9,none⟩) 3 cap],.agg #[.slice (some ⟨b0,o0,none⟩) 3 c0,.slice a1 n1 c1,.slice a2 n2 c2,.slice a3 n3 c3],.int .i64 k] w fun e w'=>e=.returned (.agg #[.int .i64 k,.int .i64 p,.int .i64 x0,.int .i64 (objM (x0,x1,x2))])∧Below w.heap.size w w':=by
 have hk3:(k:Int)<3:=by omega
 have hpn:(p:Int)<(n:Int):=by omega
 have kO:=l05Obj_is x0 x1 x2 hx
 generalize objM (x0,x1,x2)=ob at *
 have hl0:b0<w.heap.size:=World.block_lt_of_cell? _ _ e1
 have bw:Below w.heap.size w (((w.alloc (.cells #[.slice (some ⟨b9,off9,none⟩) 3 cap] 25)).alloc (.cells #[.slice (some ⟨b0,o0,none⟩) 3 c0,.slice a1 n1 c1,.slice a2 n2 c2,.slice a3 n3 c3] 33)).alloc (.cells #[.int .i64 0,.int .i64 0,.int .i64 0,.int .i64 0] 38)):=by go_grown
 have pP:Blk (((w.alloc (.cells #[.slice (some ⟨b9,off9,none⟩) 3 cap] 25)).alloc (.cells #[.slice (some ⟨b0,o0,none⟩) 3 c0,.slice a1 n1 c1,.slice a2 n2 c2,.slice a3 n3 c3] 33)).alloc (.cells #[.int .i64 0,.int .i64 0,.int .i64 0,.int .i64 0] 38)) w.heap.size 25 [.slice (some ⟨b9,off9,none⟩) 3 cap]:=blkOld _ (blkOld _ (blkAt _ _ _ rfl))
 have pS:Blk (((w.alloc (.cells #[.slice (some ⟨b9,off9,none⟩) 3 cap] 25)).alloc (.cells #[.slice (some ⟨b0,o0,none⟩) 3 c0,.slice a1 n1 c1,.slice a2 n2 c2,.slice a3 n3 c3] 33)).alloc (.cells #[.int .i64 0,.int .i64 0,.int .i64 0,.int .i64 0] 38)) (w.heap.size+1) 33 [.slice (some ⟨b0,o0,none⟩) 3 c0,.slice a1 n1 c1,.slice a2 n2 c2,.slice a3 n3 c3]:=blkOld _ (blkAt _ _ _ (by simp))
 have pR:Blk (((w.alloc (.cells #[.slice (some ⟨b9,off9,none⟩) 3 cap] 25)).alloc (.cells #[.slice (some ⟨b0,o0,none⟩) 3 c0,.slice a1 n1 c1,.slice a2 n2 c2,.slice a3 n3 c3] 33)).alloc (.cells #[.int .i64 0,.int .i64 0,.int .i64 0,.int .i64 0] 38)) (w.heap.size+2) 38 [.int .i64 0,.int .i64 0,.int .i64 0,.int .i64 0]:=blkAt _ _ _ (by simp)
 replace f0:=cells_kept bw _ _ f0
 replace e1:=cells_kept bw _ _ e1
 replace q0:=cells_kept bw _ _ q0
 replace q1:=cells_kept bw _ _ q1
 replace q2:=cells_kept bw _ _ q2
 have cP:=pP.cell 0
 have cS:=pS.cell 0
 simp only [List.getElem?_cons_zero] at cP cS
 go_enter Tryz.func122,Tryz.ntmps122
 go_wp2_with fail
 have hX9:w.heap.size+2<(((w.alloc (.cells #[.slice (some ⟨b9,off9,none⟩) 3 cap] 25)).alloc (.cells #[.slice (some ⟨b0,o0,none⟩) 3 c0,.slice a1 n1 c1,.slice a2 n2 c2,.slice a3 n3 c3] 33)).alloc (.cells #[.int .i64 0,.int .i64 0,.int .i64 0,.int .i64 0] 38)).heap.size:=pR.lt
 generalize (((w.alloc (.cells #[.slice (some ⟨b9,off9,none⟩) 3 cap] 25)).alloc (.cells #[.slice (some ⟨b0,o0,none⟩) 3 c0,.slice a1 n1 c1,.slice a2 n2 c2,.slice a3 n3 c3] 33)).alloc (.cells #[.int .i64 0,.int .i64 0,.int .i64 0,.int .i64 0] 38))=W at *
 refine wp_region_held_drew (S:=(fun w'=>w'.cell? ⟨w.heap.size,0,none⟩=some (.slice (some ⟨b9,off9,none⟩) 3 cap)∧w'.cell? ⟨b9,off9+k,none⟩=some (.slice (some ⟨b,off,none⟩) n c)∧w'.cell? ⟨w.heap.size+1,0,none⟩=some (.slice (some ⟨b0,o0,none⟩) 3 c0)∧w'.cell? ⟨b0,o0+k,none⟩=some (.int .i64 p)∧w'.cell? ⟨b,off+p*3,none⟩=some (.int .i64 x0)∧w'.cell? ⟨b,off+p*3+1,none⟩=some (.int .i64 x1)∧w'.cell? ⟨b,off+p*3+2,none⟩=some (.int .i64 x2))) (by kernel_rfl) ⟨cP,f0,cS,e1,q0,q1,q2⟩ (fun hS0=>?_)
 refine tkm 0 8 (.pointer (some ⟨w.heap.size,0,none⟩)) ?_
 refine tkm 1 9 (.slice (some ⟨b9,off9,none⟩) 3 cap) ?_
 refine tkm 2 10 (.int .i64 (k:Int)) ?_
 refine tkm 3 11 (.pointer (some ⟨b9,off9+k,none⟩)) ?_
 refine tkm 4 12 (.slice (some ⟨b,off,none⟩) n c) ?_
 refine tkm 5 13 (.pointer (some ⟨w.heap.size+1,0,none⟩)) ?_
 refine tkm 6 14 (.slice (some ⟨b0,o0,none⟩) 3 c0) ?_
 refine tkm 7 15 (.int .i64 (k:Int)) ?_
 refine tkm 8 16 (.pointer (some ⟨b0,o0+k,none⟩)) ?_
 refine tkm 9 17 (.int .i64 p) ?_
 refine tkm 10 18 (.pointer (some ⟨b,off+p*3,none⟩)) ?_
 refine tkm 11 19 (.agg #[.int .i64 x0,.int .i64 x1,.int .i64 x2]) ?_
 refine tkr 12 7 (fun K hK=>?_)
 have hal:Below W.drew.heap.size W.drew (W.drew.alloc (.cells #[.int .i64 0,.int .i64 0,.int .i64 0] 159)):=by go_grown
 go_simp
 refine hK.out _ _ ?_ (fun hS1=>?_)
 ·exact ⟨cells_kept hal _ _ hS0.1,cells_kept hal _ _ hS0.2.1,cells_kept hal _ _ hS0.2.2.1,cells_kept hal _ _ hS0.2.2.2.1,cells_kept hal _ _ hS0.2.2.2.2.1,cells_kept hal _ _ hS0.2.2.2.2.2.1,cells_kept hal _ _ hS0.2.2.2.2.2.2⟩
 clear hK
 try simp only [Act.put,tka,tkb,tkc]
 refine tkz 13 (fun K hK=>?_)
 have hal2:Below W.drew.heap.size W.drew (W.drew.alloc (.cells #[.int .i64 x0,.int .i64 x1,.int .i64 x2] 159)):=by go_grown
 go_simp
 refine hK.out _ _ ?_ (fun hS2=>?_)
 ·exact ⟨cells_kept hal2 _ _ hS0.1,cells_kept hal2 _ _ hS0.2.1,cells_kept hal2 _ _ hS0.2.2.1,cells_kept hal2 _ _ hS0.2.2.2.1,cells_kept hal2 _ _ hS0.2.2.2.2.1,cells_kept hal2 _ _ hS0.2.2.2.2.2.1,cells_kept hal2 _ _ hS0.2.2.2.2.2.2⟩
 clear hK
 try simp only [Act.put,tka,tkb,tkc]
 refine wpAnyH_done (by kernel_rfl) ?_ _
 have hb:Below W.heap.size W (W.alloc (.cells #[.int .i64 x0,.int .i64 x1,.int .i64 x2] 159)).drew:=by go_grown
 have pX:Blk (W.alloc (.cells #[.int .i64 x0,.int .i64 x1,.int .i64 x2] 159)).drew W.heap.size 159 [.int .i64 x0,.int .i64 x1,.int .i64 x2]:=blkAt _ _ _ rfl
 replace bw:=bel_trans bw hb
 replace pR:=pR.below hb
 replace e1:=cells_kept hb _ _ e1
 replace cS:=cells_kept hb _ _ cS
 clear hal hal2 hS0 hS1 hS2 f0 q0 q1 q2 hb cP pP pS
 go_wp2_with fail
 generalize (W.alloc (.cells #[.int .i64 x0,.int .i64 x1,.int .i64 x2] 159)).drew=V at *
 generalize W.heap.size=X at *
 have d0:=pX.cell 0
 have d1:=pX.cell 1
 have d2:=pX.cell 2
 simp only [List.getElem?_cons_zero,List.getElem?_cons_succ] at d0 d1 d2
 have hdr:Below V.heap.size V V.drew:=by go_grown
 refine wp_region_held_drew (S:=(fun w'=>w'.cell? ⟨w.heap.size+1,0,none⟩=some (.slice (some ⟨b0,o0,none⟩) 3 c0)∧w'.cell? ⟨b0,o0+k,none⟩=some (.int .i64 p)∧w'.cell? ⟨X,0,none⟩=some (.int .i64 x0)∧w'.cell? ⟨X,1,none⟩=some (.int .i64 x1)∧w'.cell? ⟨X,2,none⟩=some (.int .i64 x2))) (by kernel_rfl) ⟨cS,e1,d0,d1,d2⟩ (fun hS0=>?_)
 refine tkm 0 20 (.int .i64 (k:Int)) ?_
 refine tkm 1 21 (.pointer (some ⟨w.heap.size+1,0,none⟩)) ?_
 refine tkm 2 22 (.slice (some ⟨b0,o0,none⟩) 3 c0) ?_
 refine tkm 3 23 (.int .i64 (k:Int)) ?_
 refine tkm 4 24 (.pointer (some ⟨b0,o0+k,none⟩)) ?_
 refine tkm 5 25 (.int .i64 p) ?_
 refine tkm 6 26 (.pointer (some ⟨X,0,none⟩)) ?_
 refine tkm 7 27 (.int .i64 x0) ?_
 refine tkm 8 28 (.agg #[.int .i64 x0,.int .i64 x1,.int .i64 x2]) ?_
 refine tkr 9 29 (fun K hK=>?_)
 go_simp
 refine (kO _).mono ?_
 rintro e U ⟨rfl,hb8⟩
 go_wp2_with fail
 refine hK.out _ _ ?_ (fun hS1=>?_)
 ·exact ⟨cells_kept hb8 _ _ hS0.1,cells_kept hb8 _ _ hS0.2.1,cells_kept hb8 _ _ hS0.2.2.1,cells_kept hb8 _ _ hS0.2.2.2.1,cells_kept hb8 _ _ hS0.2.2.2.2⟩
 clear hK
 refine tkm 10 30 (.agg #[.int .i64 (k:Int),.int .i64 p,.int .i64 x0,.int .i64 ob]) ?_
 replace pR:=pR.below (bel_trans hdr hb8)
 replace bw:=bel_trans bw (bel_trans hdr hb8)
 refine tkz 11 (fun K hK=>?_)
 refine step_store_blkD rfl 38 _ _ rfl (w.heap.size+2) [.int .i64 (k:Int),.int .i64 p,.int .i64 x0,.int .i64 ob] rfl rfl pR (by kernel_rfl) rfl rfl ?_
 intro U2 pR2 g2
 have bz:=bw.grown g2 bw.size (fun j hj=>by cases hj;omega)
 have n0:(some (w.heap.size+1):Option Nat)≠some (w.heap.size+2):=by simp
 have n1:(some b0:Option Nat)≠some (w.heap.size+2):=by simp;omega
 have n2:(some X:Option Nat)≠some (w.heap.size+2):=by simp;omega
 refine hK.out _ _ ⟨cell_grownB g2 hS1.1 n0,cell_grownB g2 hS1.2.1 n1,cell_grownB g2 hS1.2.2.1 n2,cell_grownB g2 hS1.2.2.2.1 n2,cell_grownB g2 hS1.2.2.2.2 n2⟩ (fun hS2=>?_)
 clear hK
 try simp only [Act.put,tka,tkb,tkc]
 refine wpAnyH_done (by kernel_rfl) ?_ _
 clear hS0 hS1 hS2 n0 n1 n2 g2 bw pR hdr hb8 kO d0 d1 d2 e1 pX cS
 go_wp2_with fail
 refine bodyPost_ret (results_blk1 Tryz.results122 _ _ _ _ _ _ rfl pR2.out Tryz.underlying38 rfl (by kernel_rfl)) rfl ?_
 exact ⟨rfl,bz⟩

theorem l05Event_is {w:World} {a9:Option Addr} {cap:Nat} {cs:Sl × Sl × Sl} {rows:List (List I3)} {s:S4} {m:V4} (hR:RowsAt w a9 cs rows) (h:Vmem w s m) (hp:progOk rows=true) (hs:shapeOk m=true) {k:Nat} (hk:k<3) (hd:doneM rows m k=false) :
  Calls Tryz.prog 122 #[.agg #[.slice a9 3 cap],s.val,.int .i64 k] w fun e w'=>e=.returned (.agg #[.int .i64 (eventM rows m k).1,.int .i64 (eventM rows m k).2.1,.int .i64 (eventM rows m k).2.2.1,.int .i64 (eventM rows m k).2.2.2])∧Below w.heap.size w w':=by
 obtain ⟨p,ep,hlt,hi,hok⟩:=at_ins hp hs hk hd
 obtain ⟨b9,off9,rfl,_,hrow⟩:=hR
 obtain ⟨f0,hI⟩:=hrow k hk
 obtain ⟨b,off,ea,hpn,q0,q1,q2⟩:=ins_at hI hlt
 rw [← hi] at q0 q1 q2
 rw [ea] at f0
 have hm:=okI_mid hok
 obtain ⟨⟨j0,_⟩,_⟩:=h
 obtain ⟨l0,_⟩:=shape_parts hs
 obtain ⟨⟨a0,n0,c0⟩,⟨a1,n1,c1⟩,⟨a2,n2,c2⟩,⟨a3,n3,c3⟩⟩:=s
 simp only at j0
 obtain ⟨rfl,b0,o0,rfl⟩:=some_of_ints j0 l0 (by decide)
 have r1:=ints_at9 j0 (t:=k) hk
 rw [ep] at r1
 unfold eventM
 rw [ep]
 generalize insM rows m k=x at *
 obtain ⟨x0,x1,x2⟩:=x
 exact l05Event_raw b9 off9 cap b0 o0 c0 a1 n1 c1 a2 n2 c2 a3 n3 c3 k p b off _ _ x0 x1 x2 w hk hpn hm f0 r1 q0 q1 q2
end Go.Proofs.YtifoggpohlegmaaGreatDoor
