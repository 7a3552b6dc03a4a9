/-
  Joined: RecG, RecH, RclI, RcmI.
-/
import Derived.Test.YtdopgkbegjfhjaaGreatDoorR37
import Derived.Test.YtdopgkbegjfhjaaGreatDoorR39
import Derived.Test.YtdopgkbegjfhjaaGreatDoorR40
import Derived.Test.YtdopgkbegjfhjaaGreatDoorR46

namespace Go.Proofs.YtdopgkbegjfhjaaGreatDoor
set_option maxRecDepth 100000
set_option maxHeartbeats 16000000
open Go.RowKit
set_option linter.unusedVariables false
set_option linter.unusedSimpArgs false

def LogGot (t:ByteArray) (e:Ending) (w':World) (B:Nat):Prop:=∃ (v:Value) (rs:List R2) (n:Nat),LogAt t 0 rs n∧e=.returned (.tuple #[v,.int .i64 (n:Int)])∧OwnR w' B v rs
theorem info_rec:(Tryz.prog.info? 24).map (fun i=>(i.zero,i.size,i.bytes))=some (some (.agg #[.int .i64 0,.string ⟨#[]⟩]),2,24):=by kernel_rfl
theorem no_nxt_code {s:ByteArray} {e:Ending} {x:ByteArray} {b c:Int} (h:Unframed s e) (he:e=.returned (.tuple #[.string x,.int .i64 b,.int .i64 c])) (hc:c≠0∨x.size=0) (r:R2) (n:Nat):¬ Nxt s r n:=by
 rintro ⟨m,k,hf,hs,h0,_⟩
 have:=unframed_good h hf hs
 rw [this] at he
 simp only [Ending.returned.injEq,Value.tuple.injEq] at he
 have h1:(#[Value.string (frameText s m k),.int .i64 ((k+2+m:Nat):Int),.int .i64 0]:Array Value).toList=#[.string x,.int .i64 b,.int .i64 c].toList:=by rw [he]
 simp at h1
 rcases hc with hc | hc
 ·exact hc h1.2.2.symm
 ·have hz:=frameText_size s m k hf.2.2
  rw [h1.1] at hz
  omega
def OpenGot (s:ByteArray) (e:Ending):Prop:=∃ (x:ByteArray) (b:Nat) (c:Int),e=.returned (.tuple #[.string x,.int .i64 (b:Int),.int .i64 c])∧b≤s.size∧x.size≤s.size ∧
 ((c≠0∨x.size=0)→∀ r n,¬ Nxt s r n)∧(c=0→0<x.size→(∀ r n,Nxt s r n→r=((bt x 0:Int) - 48,x.extract 1 x.size))∧(RecOk ((bt x 0:Int) - 48,x.extract 1 x.size)→Nxt s ((bt x 0:Int) - 48,x.extract 1 x.size) b))
theorem openGot_of {s:ByteArray} {e:Ending} (h:Unframed s e):OpenGot s e:=by
 have h0:=h
 rcases h with ⟨n,k,hf,hs,rfl⟩ | ⟨n,k,hf,hs,rfl⟩ | ⟨hn,rfl⟩
 ·have hz:=frameText_size s n k hf.2.2
  refine ⟨_,k+2+n,0,rfl,hf.2.2,by rw [hz];have:=hf.2.2;omega,fun hc=>no_nxt_code h0 rfl hc,fun _ hx=>⟨?_,?_⟩⟩
  ·rintro r m ⟨m',k',gf,_,_,rfl,_,_⟩
   obtain ⟨rfl,rfl⟩:=hf.only gf
   rw [hz]
  ·intro hr
   rw [hz] at hr hx ⊢
   exact ⟨n,k,hf,hs,hx,rfl,hr,rfl⟩
 ·exact ⟨_,0,9,rfl,Nat.zero_le _,Nat.zero_le _,fun hc=>no_nxt_code h0 rfl (.inl (by decide)),fun hc=>by cases hc⟩
 ·exact ⟨_,0,3,rfl,Nat.zero_le _,Nat.zero_le _,fun hc=>no_nxt_code h0 rfl (.inl (by decide)),fun hc=>by cases hc⟩
theorem two_rec (k:Int) (t:ByteArray):∀ u ∈ [Value.int .i64 k,Value.string t],u.oneCell'=true:=by
 intro u hu
 simp at hu
 rcases hu with rfl | rfl<;>rfl
theorem two_new (w:World) (x y:Value) (t:TypeId):∀ j u,[x,y][j]?=some u→(w.alloc (.cells #[x,y] t)).cell? ((⟨w.heap.size,0,none⟩:Addr).add j)=some u:=by
 intro j u hj
 have hb:=Blk.new w t [x,y]
 match j,hj with
 | 0,hj=>simp at hj;subst hj;rw [show (⟨w.heap.size,0,none⟩:Addr).add 0=⟨w.heap.size,0,none⟩ from rfl];exact hb.cell 0
 | 1,hj=>simp at hj;subst hj;rw [show (⟨w.heap.size,0,none⟩:Addr).add 1=⟨w.heap.size,1,none⟩ from by simp [Addr.add]];exact hb.cell 1
 | (j+2),hj=>simp at hj

theorem l13Read_is (t:ByteArray) (w:World) (ht:t.size≤60000) :
  Calls Tryz.prog 53 #[.string t] w fun e w'=>LogGot t e w' w.heap.size∧Below w.heap.size w w':=by
 obtain ⟨i0,hi,hz0,hz1,hz2⟩:=info_parts info_rec
 go_enter Tryz.func53,Tryz.ntmps53
 go_wp2
 go_loopw [4,5] (fun sv sa wr=>∃ (rs:List R2) (a:Nat),a≤t.size∧rs.length≤a∧sa=.int .i64 (a:Int)∧Hid (∀ qs e,LogAt t a qs e→LogAt t 0 (rs++qs) e)∧OwnR wr w.heap.size sv rs∧Below w.heap.size w wr) (fun _ sa _=>t.size - (intOf sa).toNat)
 case atStart=>exact ⟨[],0,Nat.zero_le _,Nat.zero_le _,rfl,fun qs e h=>h,World.ownsRow_lit w #[] 0 (Nat.le_refl _) (by unfold maxLen;omega) rfl,by go_grown⟩
 case round =>
  obtain ⟨rs,a,ha,hra,rfl,HL,hr,hb⟩:=hrel
  by_cases hlt:a<t.size
  ·have hlt2:(a:Int)<(t.size:Int):=by omega
   have ha0:(0:Int)≤(a:Int):=by omega
   have ha1:(a:Int)≤(t.size:Int):=by omega
   have hxs:(t.extract a t.size).size=t.size - a:=by simp
   have kO:=fun W=>l01Open_any (t.extract a t.size) W (by omega)
   have HStop:Hid ((∀ r n,¬ Nxt (t.extract a t.size) r n)→LogAt t 0 rs a):=fun hn=>by
    have:=HL.out [] a (.stop ha hn)
    rwa [List.append_nil] at this
   have HMore:Hid (∀ r n,Nxt (t.extract a t.size) r n→∀ qs e,LogAt t (a+n) qs e→LogAt t 0 ((rs++[r])++qs) e):=fun r n hx qs e hq=>by
    have:=HL.out (r::qs) e (.more ha hx hq)
    rwa [List.append_assoc]
   clear HL
   go_wp2_with fail
   refine (kO _).mono ?_
   rintro e w1 ⟨hU,b1⟩
   obtain ⟨x,b,c,rfl,hbs,hxz,hNo,hYes⟩:=openGot_of hU
   have HNo:Hid ((c≠0∨x.size=0)→LogAt t 0 rs a):=fun h=>HStop.out (hNo h)
   have HYes:Hid (c=0→0<x.size→(¬ RecOk ((bt x 0:Int) - 48,x.extract 1 x.size)→LogAt t 0 rs a)∧(RecOk ((bt x 0:Int) - 48,x.extract 1 x.size)→3≤b∧∀ qs e,LogAt t (a+b) qs e→LogAt t 0 ((rs++[((bt x 0:Int) - 48,x.extract 1 x.size)])++qs) e)):=fun h0 h1 =>
    ⟨fun hn=>HStop.out (fun r n hx=>hn (by have:=(hYes h0 h1).1 r n hx;rw [← this];exact hx.ok)),fun hr=>⟨((hYes h0 h1).2 hr).le.1,HMore.out _ _ ((hYes h0 h1).2 hr)⟩⟩
   replace hr:=owns_below hr b1
   replace hb:=hb.trans (b1.mono hb.size)
   have hab:a+b≤t.size:=by omega
   have hx6:x.size≤65536:=by omega
   clear hU kO hNo hYes HStop HMore b1
   by_cases hc:c=0
   ·subst hc
    by_cases hx0:x.size=0
    ·have HD:=HNo.out (.inr hx0)
     have he:=isEmpty_yes hx0
     clear HNo HYes
     have HDD:Hid (LogAt t 0 rs a):=HD
     clear HD
     go_wp2
     go_ret2
     exact ⟨⟨_,rs,a,HDD.out,rfl,hr⟩,hb⟩
    ·have he:=isEmpty_no (x:=x) (by omega)
     have HY:=HYes.out rfl (by omega)
     have HYY:Hid ((¬ RecOk ((bt x 0:Int) - 48,x.extract 1 x.size)→LogAt t 0 rs a)∧(RecOk ((bt x 0:Int) - 48,x.extract 1 x.size)→3≤b∧∀ qs e,LogAt t (a+b) qs e→LogAt t 0 ((rs++[((bt x 0:Int) - 48,x.extract 1 x.size)])++qs) e)):=HY
     clear HNo HYes HY
     have hx1:0<x.size:=by omega
     have hx2:(1:Int)≤(x.size:Int):=by omega
     have hbl:=bt_lt x 0
     have hw1:IntKind.i64.wrap ((bt x 0:Int))=(bt x 0:Int):=IntWalk.i64_in _ ⟨by omega,by omega⟩
     have hw2:IntKind.i64.wrap ((bt x 0:Int) - 48)=(bt x 0:Int) - 48:=IntWalk.i64_in _ ⟨by omega,by omega⟩
     have hix:∀ W:World,(Instr.index 9 (.string x) (.int .i64 0)).run Tryz.prog W=.ok (.int .u8 (bt x 0:Int)) W:=fun W=>by
      rw [run_index_string (P:=Tryz.prog) W 9 x .i64 0 Tryz.underlying9]
      rw [dif_pos ⟨by omega,by omega⟩]
      simp only [Int.toNat_zero]
      rw [bt_get]
     have htx:(x.extract 1 x.size).size≤1048576:=by rw [ByteArray.size_extract];omega
     go_wp2_with fail
     have pr:=Blk.new w1 24 [.int .i64 ((bt x 0:Int) - 48),.string (x.extract 1 x.size)]
     have pb:=drewD (bel_new w1 (.cells #[.int .i64 ((bt x 0:Int) - 48),.string (x.extract 1 x.size)] 24))
     replace hr:=owns_below hr pb
     replace hb:=hb.trans (pb.mono hb.size)
     replace pr:Blk (w1.alloc (.cells #[.int .i64 ((bt x 0:Int) - 48),.string (x.extract 1 x.size)] 24)).drew w1.heap.size 24 [.int .i64 ((bt x 0:Int) - 48),.string (x.extract 1 x.size)]:=pr
     go_region
     clear pb hix hw1 hw2
     generalize (w1.alloc (.cells #[.int .i64 ((bt x 0:Int) - 48),.string (x.extract 1 x.size)] 24)).drew=w2 at *
     generalize ((bt x 0:Int) - 48)=k9 at *
     generalize x.extract 1 x.size=tx at *
     generalize w1.heap.size=g9 at *
     have kR:=fun W=>specRecordOK_is (k9,tx) W htx
     unfold R2.val at kR
     simp only at kR
     have c0:=pr.cell 0
     have c1:=pr.cell 1
     simp only [List.getElem?_cons_zero,List.getElem?_cons_succ] at c0 c1
     go_wp2_with fail
     clear c0 c1
     refine (kR _).mono ?_
     rintro e w3 ⟨rfl,b1⟩
     replace hr:=owns_below hr b1
     replace pr:=pr.below b1
     replace hb:=hb.trans (b1.mono hb.size)
     clear b1 kR
     by_cases hok:RecOk (k9,tx)
     ·have hk:=recB_yes hok
      obtain ⟨h3b,HM⟩:=HYY.out.2 hok
      have HL2:Hid (∀ qs e,LogAt t (a+b) qs e→LogAt t 0 ((rs++[(k9,tx)])++qs) e):=HM
      clear HM HYY hok
      simp only [hk]
      have c0:=pr.cell 0
      have c1:=pr.cell 1
      simp only [List.getElem?_cons_zero,List.getElem?_cons_succ] at c0 c1
      have hbis:=hb.size
      have qw:IntKind.i64.wrap ((a:Int)+(b:Int))=((a+b:Nat):Int):=(IntWalk.i64_in _ ⟨by omega,by omega⟩).trans (by omega)
      unfold OwnR at hr
      go_wp2_with (at_builtin;refine wpList_append_own _ rfl _ _ 35 rfl w.heap.size 24 i0 (.agg #[.int .i64 0,.string ⟨#[]⟩]) 2 24 Tryz.underlying35 hi hz0 hz1 hz2 rfl (by decide) _ _ _ rfl (hr.alloc _) ⟨w3.heap.size,0,none⟩ 1 1 [.int .i64 k9,.string tx] rfl rfl (two_new _ _ _ _) (two_rec _ _) ?c3 ?c4 ?c5 ?_)
      case c3=>unfold maxLen;omega
      case c4=>omega
      case c5=>simp;omega
      intro v' w4 hown' hgrow _
      have hb4:Below w.heap.size w w4:=(hb.alloc hbis _).grown hgrow (by simp;omega) (fun i hi=>(hr.lt _ hi).1)
      have R:OwnR w4 w.heap.size v' (rs++[(k9,tx)]):=by
       unfold OwnR
       rw [flatR_snoc,List.length_append]
       exact hown'
      clear hown' hgrow hr c0 c1 pr
      go_wp2
      go_roundw
      case rel=>exact ⟨rs++[(k9,tx)],a+b,hab,by simp;omega,by go_num,HL2,R,hb4⟩
      case measure=>simp [intOf];omega
     ·have hk:=recB_no hok
      have HDD:Hid (LogAt t 0 rs a):=HYY.out.1 hok
      clear HYY hok
      simp only [hk]
      go_wp2
      go_ret2
      exact ⟨⟨_,rs,a,HDD.out,rfl,hr⟩,hb⟩
   ·have hcn:(c != 0)=true:=by simp [hc]
    have HDD:Hid (LogAt t 0 rs a):=HNo.out (.inl hc)
    clear HNo HYes
    go_wp2
    go_ret2
    exact ⟨⟨_,rs,a,HDD.out,rfl,hr⟩,hb⟩
  ·obtain rfl:a=t.size:=by omega
   have HDD:Hid (LogAt t 0 rs t.size):=by
    have:=HL.out [] t.size (.stop (Nat.le_refl _) (no_nxt_short (by simp)))
    rwa [List.append_nil] at this
   clear HL
   go_wp2
   go_ret2
   exact ⟨⟨_,rs,_,HDD.out,rfl,hr⟩,hb⟩


def ReadIs (d:D2) (rs:List R2) (n:Nat) (c:Int):Prop:=(¬ d.1.size+d.2.size≤60000∧rs=[]∧n=0∧c=1)∨(d.1.size+d.2.size≤60000∧LogAt d.1 0 rs n∧c=0)
theorem ReadIs.only {d:D2} {rs qs:List R2} {n m:Nat} {c e:Int} (h:ReadIs d rs n c) (g:ReadIs d qs m e):rs=qs∧n=m∧c=e:=by
 rcases h with ⟨h0,rfl,rfl,rfl⟩ | ⟨h0,hL,rfl⟩<;>rcases g with ⟨g0,rfl,rfl,rfl⟩ | ⟨g0,gL,rfl⟩
 ·exact ⟨rfl,rfl,rfl⟩
 ·exact absurd g0 h0
 ·exact absurd h0 g0
 ·obtain ⟨rfl,rfl⟩:=hL.only gL
  exact ⟨rfl,rfl,rfl⟩
theorem ReadIs.count {d:D2} {rs:List R2} {n:Nat} {c:Int} (h:ReadIs d rs n c):rs.length≤60000:=by
 rcases h with ⟨h0,rfl,rfl,rfl⟩ | ⟨h0,hL,rfl⟩
 ·simp
 ·have:=hL.count
  have:=hL.le
  omega
def ReadGot (d:D2) (e:Ending) (w':World) (B:Nat):Prop:=∃ (v:Value) (rs:List R2) (n:Nat) (c:Int),ReadIs d rs n c∧e=.returned (.tuple #[v,.int .i64 (n:Int),.int .i64 c])∧OwnR w' B v rs
def RecovIs (d:D2) (r:D2 × Int):Prop:=(¬ (d.1.size+d.2.size≤60000∧d.2.size=0)∧r=(noD,1))∨(d.1.size+d.2.size≤60000∧d.2.size=0∧∃ rs n,LogAt d.1 0 rs n∧r=((d.1.extract 0 n,noT),0))
theorem RecovIs.only {d:D2} {r s:D2 × Int} (h:RecovIs d r) (g:RecovIs d s):r=s:=by
 rcases h with ⟨h0,rfl⟩ | ⟨h0,h1,rs,n,hL,rfl⟩<;>rcases g with ⟨g0,rfl⟩ | ⟨g0,g1,qs,m,gL,rfl⟩
 ·rfl
 ·exact absurd ⟨g0,g1⟩ h0
 ·exact absurd ⟨h0,h1⟩ g0
 ·obtain ⟨_,rfl⟩:=hL.only gL
  rfl
def RecovGot (d:D2) (e:Ending):Prop:=∃ r,RecovIs d r∧e=ResD r

theorem specReadLog_is (d:D2) (w:World) (hd:d.1.size+d.2.size≤1048576) :
  Calls Tryz.prog 28 #[d.val] w fun e w'=>ReadGot d e w' w.heap.size∧Below w.heap.size w w':=by
 obtain ⟨s,q⟩:=d
 simp only at hd
 have hB:=boxD_new w (s,q)
 have b0:=bel_new w (.cells #[.string s,.string q] 27)
 have kD:=fun W=>specDiskOK_is (s,q) W hd
 unfold D2.val at kD ⊢
 simp only at kD hB ⊢
 go_enter Tryz.func28,Tryz.ntmps28
 go_wp2_with fail
 refine (kD _).mono ?_
 rintro e w1 ⟨rfl,b1⟩
 replace hB:=hB.below b1
 replace b0:=belD b0 b1
 clear b1 kD
 have c0:=hB.c0
 simp only at c0
 by_cases h:s.size+q.size≤60000
 ·have hk:decide (s.size+q.size≤60000)=true:=decide_eq_true h
  simp only [hk]
  go_wp2_with fail
  refine (l13Read_is s _ (by omega)).mono ?_
  rintro e w2 ⟨⟨v,rs,n,hL,rfl,hO⟩,b2⟩
  have HR:Hid (ReadIs (s,q) rs n 0):=.inr ⟨h,hL,rfl⟩
  have hO2:OwnR w2 w.heap.size v rs:=owns_lower hO b0.size
  clear hL hO
  go_wp2
  go_ret3
  exact ⟨⟨v,rs,n,0,HR.out,rfl,hO2⟩,belD b0 b2⟩
 ·have hk:decide (s.size+q.size≤60000)=false:=decide_eq_false h
  have HR:Hid (ReadIs (s,q) [] 0 1):=.inl ⟨h,rfl,rfl,rfl⟩
  simp only [hk]
  clear c0
  go_wp2
  go_ret3
  exact ⟨⟨_,[],0,1,HR.out,rfl,World.ownsRow_lit w1 #[] 0 b0.size (by unfold maxLen;omega) rfl⟩,b0.alloc b0.size _⟩

theorem specRecoverLog_is (d:D2) (w:World) (hd:d.1.size+d.2.size≤1048576) :
  Calls Tryz.prog 32 #[d.val] w fun e w'=>RecovGot d e∧Below w.heap.size w w':=by
 obtain ⟨s,q⟩:=d
 simp only at hd
 have hF:=FrD.new w (s,q)
 have kD:=fun W=>specDiskOK_is (s,q) W hd
 unfold D2.val at kD ⊢
 simp only at kD ⊢
 go_enter Tryz.func32,Tryz.ntmps32
 go_wp2_with fail
 refine (kD _).mono ?_
 rintro e w1 ⟨rfl,b1⟩
 replace hF:=hF.below b1
 clear b1 kD
 by_cases h:s.size+q.size≤60000
 ·have hk:decide (s.size+q.size≤60000)=true:=decide_eq_true h
  simp only [hk]
  obtain ⟨c0,c1,c2,c3,c4,c5⟩:=hF.cells
  by_cases hq:q.size=0
  ·have he:=isEmpty_yes hq
   go_wp2_with fail
   refine (l13Read_is s _ (by omega)).mono ?_
   rintro e w2 ⟨⟨v,rs,n,hL,rfl,_⟩,b2⟩
   have HR:Hid (RecovIs (s,q) ((s.extract 0 n,noT),0)):=.inr ⟨h,hq,rs,n,hL,rfl⟩
   have hn:=hL.le.2
   have hn0:(0:Int)≤(n:Int):=by omega
   have hn1:(n:Int)≤(s.size:Int):=by omega
   replace hF:=hF.below b2
   clear hL b2 c0 c1 c2 c3 c4 c5
   obtain ⟨c0,c1,c2,c3,c4,c5⟩:=hF.cells
   go_wp2
   obtain ⟨W,hW,e0,e1,bW⟩:=hF.fin (s.extract 0 n) noT
   rw [← hW]
   clear hW
   refine bodyPost_ret (by simp [results,Tryz.results32,go_sem,e0,e1];try rfl) rfl ?_
   exact ⟨⟨_,HR.out,rfl⟩,bW⟩
  ·have he:=isEmpty_no (x:=q) (by omega)
   have HR:Hid (RecovIs (s,q) (noD,1)):=.inl ⟨fun h9=>hq h9.2,rfl⟩
   go_wp2
   obtain ⟨W,hW,e0,e1,bW⟩:=hF.fin noT noT
   rw [← hW]
   clear hW
   refine bodyPost_ret (by simp [results,Tryz.results32,go_sem,e0,e1];try rfl) rfl ?_
   exact ⟨⟨_,HR.out,rfl⟩,bW⟩
 ·have hk:decide (s.size+q.size≤60000)=false:=decide_eq_false h
  have HR:Hid (RecovIs (s,q) (noD,1)):=.inl ⟨fun h9=>h h9.1,rfl⟩
  simp only [hk]
  obtain ⟨c0,c1,c2,c3,c4,c5⟩:=hF.cells
  go_wp2
  obtain ⟨W,hW,e0,e1,bW⟩:=hF.fin noT noT
  rw [← hW]
  clear hW
  refine bodyPost_ret (by simp [results,Tryz.results32,go_sem,e0,e1];try rfl) rfl ?_
  exact ⟨⟨_,HR.out,rfl⟩,bW⟩


theorem recOk_pos {k:Int} {t:ByteArray} (h:RecOk (k,t)):0<t.size:=by
 rcases Nat.eq_zero_or_pos t.size with h0 | h0
 ·rcases h.2 with ⟨_,rows,h⟩ | ⟨_,e,h⟩ | ⟨_,zs,h,_⟩
  ·rcases h with ⟨_,zs,hL,_⟩ | ⟨h,_⟩
   ·exact absurd hL (noList_nil h0 zs)
   ·cases h
  ·have:=h.2.1;simp only at this;omega
  ·exact absurd h (noList_nil h0 zs)
 ·exact h0
def Told13 (x:ByteArray) (r:R2):Prop:=r.2.size≤x.size∧(RecOk r→0<x.size∧r=((bt x 0:Int) - 48,x.extract 1 x.size))∧(0<x.size→RecOk ((bt x 0:Int) - 48,x.extract 1 x.size)→r=((bt x 0:Int) - 48,x.extract 1 x.size))
theorem Told13.none {x:ByteArray} (h:0<x.size→¬ RecOk ((bt x 0:Int) - 48,x.extract 1 x.size)):Told13 x (0,⟨#[]⟩):=by
 refine ⟨Nat.zero_le _,fun g=>?_,fun h0 g=>absurd g (h h0)⟩
 have:=g.kind
 simp only at this
 omega
theorem Told13.high {x:ByteArray} {k:Int} {t:ByteArray} (h:128≤bt x 0) (hk:4≤k) (ht:t.size≤x.size):Told13 x (k,t):=by
 refine ⟨ht,fun g=>?_,fun h0 g=>?_⟩
 ·have:=g.kind
  simp only at this
  omega
 ·have:=g.kind
  simp only at this
  omega
theorem Told13.one {x:ByteArray} (h:0<x.size):Told13 x ((bt x 0:Int) - 48,x.extract 1 x.size):=
 ⟨by rw [ByteArray.size_extract];omega,fun _=>⟨h,rfl⟩,fun _ _=>rfl⟩
theorem wrap32 {z:Int} (h:-1000≤z) (g:z≤2147483647):IntKind.i32.wrap z=z:=by
 exact IntWalk.i32_in _ ⟨by omega,by omega⟩
theorem recFin13 {w w':World} {k0:Int} {t0:ByteArray} (hB:Blk w' w.heap.size 24 [.int .i64 k0,.string t0]) (h:Below w.heap.size w w') (k:Int) (t:ByteArray):∃ W,W=(w'.setCell ⟨w.heap.size,0,none⟩ (.int .i64 k)).setCell ⟨w.heap.size,1,none⟩ (.string t)∧W.cell? ⟨w.heap.size,0,none⟩=some (.int .i64 k)∧W.cell? ⟨w.heap.size,1,none⟩=some (.string t)∧Below w.heap.size w W:=
 ⟨_,rfl,((hB.set 0 (.int .i64 k)).set 1 (.string t)).cell 0,((hB.set 0 (.int .i64 k)).set 1 (.string t)).cell 1,(h.setCell (Nat.le_refl _) _).setCell (Nat.le_refl _) _⟩

theorem recordOf_is (x:ByteArray) (w:World) (hs:x.size≤65536) :
  Calls Tryz.prog 95 #[.string x] w fun e w'=>(∃ r,Told13 x r∧e=.returned r.val)∧Below w.heap.size w w':=by
 have pB:=Blk.new w 24 [.int .i64 0,.string ⟨#[]⟩]
 have b0:=bel_new w (.cells #[.int .i64 0,.string ⟨#[]⟩] 24)
 have hsz:(w.alloc (.cells #[.int .i64 0,.string ⟨#[]⟩] 24)).heap.size=w.heap.size+1:=by simp
 have HF:Hid (∀ (wr:World) (k:Int) (t:ByteArray) (pos:Nat),wr=(w.alloc (.cells #[.int .i64 0,.string ⟨#[]⟩] 24)).iter x pos→∃ W,W=(wr.setCell ⟨w.heap.size,0,none⟩ (.int .i64 k)).setCell ⟨w.heap.size,1,none⟩ (.string t)∧W.cell? ⟨w.heap.size,0,none⟩=some (.int .i64 k)∧W.cell? ⟨w.heap.size,1,none⟩=some (.string t)∧Below w.heap.size w W):=by
  intro wr k t pos e
  subst e
  exact recFin13 (pB.below (iter_below _ x pos)) (belD b0 (iter_below _ x pos)) k t
 have HC:Hid (∀ pos,Blk ((w.alloc (.cells #[.int .i64 0,.string ⟨#[]⟩] 24)).iter x pos) w.heap.size 24 [.int .i64 0,.string ⟨#[]⟩]):=fun pos=>pB.below (iter_below _ x pos)
 obtain ⟨m,hm⟩:∃ m:Nat,m=x.size:=⟨_,rfl⟩
 have HXS:Hid (x.size=m):=hm.symm
 have hmb:m≤65536:=by omega
 clear hm pB
 unfold R2.val
 go_enter Tryz.func95,Tryz.ntmps95
 go_wp2
 generalize hW:w.alloc (.cells #[.int .i64 0,.string ⟨#[]⟩] 24)=W0 at *
 go_loopw [3] (fun kv wr=>∃ (pos:Nat) (k:Int),pos≤m∧wr=W0.iter x pos∧kv=.int .i64 k∧Hid ((pos=0∧k=0)∨(0<pos∧((pos=1∧k=(bt x 0:Int) - 48)∨(128≤bt x 0∧4≤k))))) (fun _ wr=>m - wr.iterPos W0.heap.size)
 case atStart=>exact ⟨0,0,by omega,rfl,rfl,.inl ⟨rfl,rfl⟩⟩
 case round =>
  obtain ⟨pos,k,hpl,rfl,rfl,HK⟩:=hrel
  by_cases hp:pos<m
  ·have hp':pos<x.size:=by rw [HXS.out];exact hp
   have hg:=bt_get x pos hp'
   rcases HK.out with ⟨rfl,rfl⟩ | ⟨h0,hK⟩
   ·by_cases ha:(x[0]'hp').toNat<128
    ·have hnx:∀ ty,(Instr.next (.pointer (some ⟨W0.heap.size,0,none⟩)) true ty).run Tryz.prog (W0.iter x 0)=_:=fun ty=>run_next_ascii W0 x 0 ty hp' ha
     have HD:Hid (((x[0]'hp').toNat:Int) - 48=(bt x 0:Int) - 48):=by rw [Hid,hg]
     have hw1:IntKind.i32.wrap (((x[0]'hp').toNat:Int) - 48)=((x[0]'hp').toNat:Int) - 48:=wrap32 (by omega) (by omega)
     have hw2:IntKind.i64.wrap (((x[0]'hp').toNat:Int) - 48)=((x[0]'hp').toNat:Int) - 48:=IntWalk.i64_in _ ⟨by omega,by omega⟩
     rw [hsz] at hnx
     clear hg HK
     generalize ((x[0]'hp').toNat:Int)=b at *
     go_wp2
     go_roundw
     case rel=>exact ⟨1,b - 48,by omega,rfl,rfl,.inr ⟨by omega,.inl ⟨rfl,HD.out⟩⟩⟩
     case measure=>simp;omega
    ·have hnx:∀ ty,(Instr.next (.pointer (some ⟨W0.heap.size,0,none⟩)) true ty).run Tryz.prog (W0.iter x 0)=_:=fun ty=>run_next_any W0 x 0 ty hp'
     obtain ⟨hd1,hd2⟩:=decode_high x 0 hp' (by omega)
     have hd3:=decode_le x 0
     have hsp:=decode_span x 0 hp' (by omega) ((Utf8.decode x 0).2 - 1) (by omega)
     have hb128:Hid (128≤bt x 0):=by rw [Hid,← hg];omega
     rw [hsz] at hnx
     clear hg HK
     generalize (Utf8.decode x 0).2=n at *
     have hw1:IntKind.i32.wrap (((Utf8.decode x 0).1:Int) - 48)=((Utf8.decode x 0).1:Int) - 48:=wrap32 (by omega) (by omega)
     have hw2:IntKind.i64.wrap (((Utf8.decode x 0).1:Int) - 48)=((Utf8.decode x 0).1:Int) - 48:=IntWalk.i64_in _ ⟨by omega,by omega⟩
     have hq:4≤((Utf8.decode x 0).1:Int) - 48:=by omega
     have hnm:n≤m:=by rw [HXS.out] at hsp;omega
     simp only [Nat.zero_add] at hnx
     clear hsp
     generalize ((Utf8.decode x 0).1:Int)=b at *
     go_wp2
     go_roundw
     case rel=>exact ⟨n,b - 48,hnm,rfl,rfl,.inr ⟨by omega,.inr ⟨hb128.out,hq⟩⟩⟩
     case measure=>simp;omega
   ·have hcut:(x.extract pos x.size).size≤x.size:=by rw [ByteArray.size_extract];omega
    have HT:Hid (Told13 x (k,x.extract pos x.size)):=by
     rcases hK with ⟨rfl,rfl⟩ | ⟨hb,hk⟩
     ·exact Told13.one (by omega)
     ·exact Told13.high hb hk hcut
    have hz0:(0:Int)<(pos:Int):=by omega
    have hz1:(pos:Int)≤(x.size:Int):=by omega
    have hz2:(0:Int)≤(pos:Int):=by omega
    have hnx:∀ ty,(Instr.next (.pointer (some ⟨W0.heap.size,0,none⟩)) true ty).run Tryz.prog (W0.iter x pos)=_:=fun ty=>run_next_any W0 x pos ty hp'
    rw [hsz] at hnx
    generalize ((Utf8.decode x pos).1:Int)=b at *
    generalize pos+(Utf8.decode x pos).2=p2 at *
    have hB:=HC.out p2
    have r0:=hB.cell 0
    have r1:=hB.cell 1
    have fr0:=hB.frozen 0
    have fr1:=hB.frozen 1
    simp only [List.getElem?_cons_zero,List.getElem?_cons_succ] at r0 r1
    obtain ⟨W,hW9,e0,e1,bW⟩:=HF.out _ k (x.extract pos x.size) p2 rfl
    clear HF HC HK hB hg hK hcut
    go_wp2
    rw [← hW9]
    clear hW9
    refine bodyPost_ret (by simp [results,Tryz.results95,go_sem,e0,e1];try rfl) rfl ?_
    exact ⟨⟨_,HT.out,rfl⟩,bW⟩
  ·have hp':¬ pos<x.size:=by rw [HXS.out];exact hp
   have hnx:∀ ty,(Instr.next (.pointer (some ⟨W0.heap.size,0,none⟩)) true ty).run Tryz.prog (W0.iter x pos)=_:=fun ty=>run_next_end W0 x pos ty hp'
   rw [hsz] at hnx
   have HT:Hid (Told13 x (0,⟨#[]⟩)):=by
    refine Told13.none (fun h0 hr=>?_)
    have hk:=hr.kind
    have hs1:=recOk_pos hr
    rw [ByteArray.size_extract] at hs1
    simp only at hk
    rcases HK.out with ⟨rfl,rfl⟩ | ⟨h1,⟨rfl,_⟩ | ⟨hb,_⟩⟩<;>omega
   have hB:=HC.out pos
   have r0:=hB.cell 0
   have r1:=hB.cell 1
   have fr0:=hB.frozen 0
   have fr1:=hB.frozen 1
   simp only [List.getElem?_cons_zero,List.getElem?_cons_succ] at r0 r1
   obtain ⟨W,hW9,e0,e1,bW⟩:=HF.out _ 0 ⟨#[]⟩ pos rfl
   clear HF HC HK hB
   go_wp2
   rw [← hW9]
   clear hW9
   refine bodyPost_ret (by simp [results,Tryz.results95,go_sem,e0,e1];try rfl) rfl ?_
   exact ⟨⟨_,HT.out,rfl⟩,bW⟩


def At13 (t:ByteArray) (r:R2) (n:Nat) (b:Bool):Prop:=r.2.size≤t.size∧n≤t.size∧(b=true→Nxt t r n)∧(b=false→∀ r n,¬ Nxt t r n)
def AtGot13 (t:ByteArray) (e:Ending):Prop:=∃ (r:R2) (n:Nat) (b:Bool),e=.returned (.tuple #[.agg #[.int .i64 r.1,.string r.2],.int .i64 (n:Int),.bool b])∧At13 t r n b

theorem recordAt_is (t:ByteArray) (w:World) (ht:t.size≤60000) (hV:VmShape w) (hE:ErrType w) :
  Calls Tryz.prog 70 #[.string t] w fun e w'=>AtGot13 t e∧Below w.heap.size w w':=by
 have pR:=Blk.new w 24 [.int .i64 0,.string ⟨#[]⟩]
 have b0:=bel_new w (.cells #[.int .i64 0,.string ⟨#[]⟩] 24)
 have kR0:=fun (k:Int) (u:ByteArray) W hz (hb:Below w.heap.size w W)=>implRecordOK_is (k,u) W hz (hV.below hb) (hE.below hb)
 replace hE:=hE.below b0
 unfold R2.val at kR0
 clear hV
 go_enter Tryz.func70,Tryz.ntmps70
 go_wp2_with fail
 simp only [List.toArray] at pR b0 hE
 generalize w.alloc (.cells #[.int .i64 0,.string ⟨#[]⟩] 24)=W0 at *
 refine (implUnframeText_any t _ (by omega) hE).mono ?_
 rintro e w1 ⟨hU,b1⟩
 obtain ⟨x,b,c,rfl,hbs,hxz,hNo,hYes⟩:=openGot_of hU
 replace pR:=pR.below b1
 replace b0:=belD b0 b1
 clear b1 hU hE
 by_cases hc:c=0
 ·subst hc
  go_wp2_with fail
  refine (recordOf_is x _ (by omega)).mono ?_
  rintro e w2 ⟨⟨⟨k,u⟩,hT,rfl⟩,b1⟩
  unfold R2.val
  simp only
  replace pR:=pR.below b1
  replace b0:=belD b0 b1
  clear b1
  have hux:=hT.1
  simp only at hux
  have kR:=fun W (hb:Below w.heap.size w W)=>kR0 k u W (show u.size≤1048576 by omega) hb
  have HG:Hid (AtGot13 t (.returned (.tuple #[.agg #[.int .i64 k,.string u],.int .i64 (b:Int),.bool (recB (k,u))]))):=by
   refine ⟨(k,u),b,recB (k,u),rfl,show u.size≤t.size by omega,hbs,fun h=>?_,fun h=>?_⟩
   ·have hr:=(recB_iff _).1 h
    obtain ⟨h0,he⟩:=hT.2.1 hr
    rw [he] at hr ⊢
    exact (hYes (by first | rfl | trivial) h0).2 hr
   ·intro r n hx
    rcases Nat.eq_zero_or_pos x.size with h0 | h0
    ·exact hNo (.inr h0) r n hx
    ·have e9:=(hYes (by first | rfl | trivial) h0).1 r n hx
     have hr:=hx.ok
     rw [e9] at hr
     have:=hT.2.2 h0 hr
     rw [← this] at hr
     rw [recB_yes hr] at h
     cases h
  try simp only at kR
  generalize recB (k,u)=ok at *
  clear kR0 hNo hYes hT hxz
  have hlt:=pR.lt
  have p8:=Blk.new w2 24 [.int .i64 k,.string u]
  have b8:=bel_new w2 (.cells #[.int .i64 k,.string u] 24)
  replace pR:=pR.below b8
  replace b0:=belD b0 b8
  clear b8
  go_wp2_with fail
  simp only [List.toArray] at p8 pR b0
  generalize w2.alloc (.cells #[.int .i64 k,.string u] 24)=W2 at *
  generalize w2.heap.size=g8 at *
  refine wp_region_held_drew (S:=(fun w'=>w'.cell? ⟨g8,0,none⟩=some (.int .i64 k)∧w'.cell? ⟨g8,1,none⟩=some (.string u))) (by kernel_rfl) ⟨by simpa using p8.cell 0,by simpa using p8.cell 1⟩ (fun hS0=>?_)
  refine tky 0 20 (.agg #[.int .i64 k,.string u]) ?_
  try simp only [Act.put,tka,tkb,tkc]
  refine tky 1 21 (.int .i64 (b:Int)) ?_
  try simp only [Act.put,tka,tkb,tkc]
  refine tky 2 22 (.agg #[.int .i64 k,.string u]) ?_
  try simp only [Act.put,tka,tkb,tkc]
  have hdr:Below W2.heap.size W2 W2.drew:=by go_grown
  replace pR:=pR.below hdr
  replace b0:=belD b0 hdr
  clear hdr p8
  generalize W2.drew=V at *
  refine tkr 3 23 (fun K hK=>?_)
  go_simp
  refine (kR V b0).mono ?_
  rintro e V1 ⟨rfl,b1⟩
  replace pR:=pR.below b1
  replace b0:=belD b0 b1
  replace hS0:=And.intro (cells_kept b1 _ _ hS0.1) (cells_kept b1 _ _ hS0.2)
  go_wp2_with fail
  refine hK.out _ _ hS0 (fun hS1=>?_)
  clear hK
  try simp only [Act.put,tka,tkb,tkc]
  refine tkz 4 (fun K hK=>?_)
  refine step_store_blkD rfl 24 _ _ rfl w.heap.size [.int .i64 k,.string u] rfl rfl pR (by kernel_rfl) rfl rfl ?_
  intro V9 pX9 g9
  have bz:=b0.grown g9 b0.size (fun q e=>by cases e;exact Nat.le_refl _)
  refine hK.out _ _ ⟨cell_grownB g9 hS1.1 (by simp;omega),cell_grownB g9 hS1.2 (by simp;omega)⟩ (fun hS4=>?_)
  clear hK
  try simp only [Act.put,tka,tkb,tkc]
  refine tky 5 3 (.int .i64 (b:Int)) ?_
  try simp only [Act.put,tka,tkb,tkc]
  refine tky 6 4 (.bool ok) ?_
  try simp only [Act.put,tka,tkb,tkc]
  refine wpAnyH_done (by kernel_rfl) ?_ _
  have e0:=pX9.out.cell 0
  have e1:=pX9.out.cell 1
  simp only [List.getElem?_cons_zero,List.getElem?_cons_succ] at e0 e1
  clear hS0 hS1 hS4 pX9 pR g9 b1 b0 kR
  go_wp2
  refine bodyPost_ret (by simp [results,Tryz.results70,go_sem,e0,e1];try rfl) rfl ?_
  exact ⟨HG.out,bz⟩
 ·have hcn:(c != 0)=true:=by simp [hc]
  have HG:Hid (AtGot13 t (.returned (.tuple #[.agg #[.int .i64 0,.string ⟨#[]⟩],.int .i64 ((0:Nat):Int),.bool false]))):=
   ⟨(0,⟨#[]⟩),0,false,rfl,Nat.zero_le _,Nat.zero_le _,fun h=>by (cases h),fun _=>hNo (.inl hc)⟩
  clear kR0 hNo hYes
  have r0:=pR.cell 0
  have r1:=pR.cell 1
  have fr0:=pR.frozen 0
  have fr1:=pR.frozen 1
  simp only [List.getElem?_cons_zero,List.getElem?_cons_succ] at r0 r1
  obtain ⟨W,hW,e0,e1,bW⟩:=recFin13 pR b0 0 ⟨#[]⟩
  go_wp2
  rw [← hW]
  clear hW
  refine bodyPost_ret (by simp [results,Tryz.results70,go_sem,e0,e1];try rfl) rfl ?_
  exact ⟨HG.out,bW⟩
end Go.Proofs.YtdopgkbegjfhjaaGreatDoor
