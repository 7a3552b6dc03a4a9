/-
  Joined: RcnI.
-/
import Derived.Test.YtdopgkbegjfhjaaGreatDoorL44
import Derived.Test.YtdopgkbegjfhjaaGreatDoorL48

namespace Go.Proofs.YtdopgkbegjfhjaaGreatDoor
set_option maxRecDepth 100000
set_option maxHeartbeats 16000000
open Go.RowKit
set_option linter.unusedVariables false
set_option linter.unusedSimpArgs false

theorem two_new9 (w:World) (o:Obj) (x y:Value) (t:TypeId):∀ j u,[x,y][j]?=some u→((w.alloc o).alloc (.cells #[x,y] t)).cell? ((⟨w.heap.size+1,0,none⟩:Addr).add j)=some u:=by
 have:=two_new (w.alloc o) x y t
 rw [size_al] at this
 exact this

theorem recordsOf_is (t:ByteArray) (w:World) (ht:t.size≤60000) (hV:VmShape w) (hE:ErrType w) :
  Calls Tryz.prog 42 #[.string t] w fun e w'=>LogGot t e w' w.heap.size∧Below w.heap.size w w':=by
 obtain ⟨i0,hi,hz0,hz1,hz2⟩:=info_parts info_rec
 have kA0:=fun (x:ByteArray) W hz (hb:Below w.heap.size w W)=>recordAt_is x W hz (hV.below hb) (hE.below hb)
 clear hV hE
 go_enter Tryz.func42,Tryz.ntmps42
 go_wp2
 go_loopw [4,5] (fun sv sa wr=>∃ (rs:List R2) (a:Nat),a≤t.size∧rs.length≤a∧sa=.int .i64 (a:Int)∧Hid (∀ qs e,LogAt t a qs e→LogAt t 0 (rs++qs) e)∧OwnR wr w.heap.size sv rs∧Below w.heap.size w wr) (fun _ sa _=>t.size+1 - (intOf sa).toNat)
 case atStart=>exact ⟨[],0,Nat.zero_le _,Nat.zero_le _,rfl,fun qs e h=>h,World.ownsRow_nil _ _ _ _,Below.refl _ _⟩
 case round =>
  obtain ⟨rs,a,ha,hra,rfl,HL,hr,hb⟩:=hrel
  have ha0:(0:Int)≤(a:Int):=by omega
  have ha1:(a:Int)≤(t.size:Int):=by omega
  have hxs:(t.extract a t.size).size=t.size - a:=by simp
  have kA:=fun W hb=>kA0 (t.extract a t.size) W (by omega) hb
  have HStop:Hid ((∀ r n,¬ Nxt (t.extract a t.size) r n)→LogAt t 0 rs a):=fun hn=>by
   have:=HL.out [] a (.stop ha hn)
   rwa [List.append_nil] at this
  have HMore:Hid (∀ r n,Nxt (t.extract a t.size) r n→3≤n∧∀ qs e,LogAt t (a+n) qs e→LogAt t 0 ((rs++[r])++qs) e):=fun r n hx=>⟨hx.le.1,fun qs e hq=>by
   have:=HL.out (r::qs) e (.more ha hx hq)
   rwa [List.append_assoc]⟩
  clear HL
  go_wp2_with fail
  refine (kA _ hb).mono ?_
  rintro e w1 ⟨⟨⟨k,u⟩,n,b,rfl,hu,hn,hY,hN⟩,b1⟩
  have HY:Hid (b=true→3≤n∧∀ qs e,LogAt t (a+n) qs e→LogAt t 0 ((rs++[(k,u)])++qs) e):=fun h=>HMore.out _ _ (hY h)
  have HN:Hid (b=false→LogAt t 0 rs a):=fun h=>HStop.out (hN h)
  rw [hxs] at hn
  replace hr:=owns_below hr b1
  replace hb:=hb.trans (b1.mono hb.size)
  have pr:=Blk.new w1 24 [.int .i64 k,.string u]
  have pb:=bel_new w1 (.cells #[.int .i64 k,.string u] 24)
  have hbis:=hb.size
  replace hr:=owns_below hr pb
  replace hb:=hb.trans (pb.mono hb.size)
  have c0:=pr.cell 0
  have c1:=pr.cell 1
  simp only [List.getElem?_cons_zero,List.getElem?_cons_succ] at c0 c1
  clear kA kA0 HStop HMore hY hN b1 hu pr pb
  cases b
  ·have HDD:Hid (LogAt t 0 rs a):=HN.out rfl
   clear HN HY c0 c1
   go_wp2
   go_ret2
   exact ⟨⟨_,rs,a,HDD.out,rfl,hr⟩,hb⟩
  ·obtain ⟨h3b,HM⟩:=HY.out rfl
   have HL2:Hid (∀ qs e,LogAt t (a+n) qs e→LogAt t 0 ((rs++[(k,u)])++qs) e):=HM
   clear HM HY HN
   have qw:IntKind.i64.wrap ((a:Int)+(n:Int))=((a+n:Nat):Int):=(IntWalk.i64_in _ ⟨by omega,by omega⟩).trans (by omega)
   have hbis:=hb.size
   unfold OwnR at hr
   go_wp2_with (at_builtin;refine wpList_append_own _ rfl _ _ 35 rfl w.heap.size 24 i0 (.agg #[.int .i64 0,.string ⟨#[]⟩]) 2 24 Tryz.underlying35 hi hz0 hz1 hz2 rfl (by decide) _ _ _ rfl (hr.alloc _) ⟨w1.heap.size+1,0,none⟩ 1 1 [.int .i64 k,.string u] rfl rfl (two_new9 _ _ _ _ _) (two_rec _ _) ?c3 ?c4 ?c5 ?_)
   case c3=>unfold maxLen;omega
   case c4=>omega
   case c5=>simp;omega
   intro v' w4 hown' hgrow _
   have hb4:Below w.heap.size w w4:=(hb.alloc hbis _).grown hgrow (by simp;omega) (fun i hi=>(hr.lt _ hi).1)
   have R:OwnR w4 w.heap.size v' (rs++[(k,u)]):=by
    unfold OwnR
    rw [flatR_snoc,List.length_append]
    exact hown'
   clear hown' hgrow hr c0 c1
   go_wp2
   go_roundw
   case rel=>exact ⟨rs++[(k,u)],a+n,by omega,by simp;omega,by go_num,HL2,R,hb4⟩
   case measure=>simp [intOf];omega

theorem implReadLog_is (d:D2) (w:World) (hd:d.1.size+d.2.size≤1048576) (hV:VmShape w) (hE:ErrType w) :
  Calls Tryz.prog 16 #[d.val] w fun e w'=>ReadGot d e w' w.heap.size∧Below w.heap.size w w':=by
 obtain ⟨s,q⟩:=d
 simp only at hd
 have hB:=boxD_new w (s,q)
 have b0:=bel_new w (.cells #[.string s,.string q] 27)
 have kD:=fun W=>implDiskOK_is (s,q) W hd
 have kL0:=fun W hz (hb:Below w.heap.size w W)=>recordsOf_is s W hz (hV.below hb) (hE.below hb)
 clear hV hE
 unfold D2.val at kD ⊢
 simp only at kD hB ⊢
 go_enter Tryz.func16,Tryz.ntmps16
 go_wp2_with fail
 refine (kD _).mono ?_
 rintro e w1 ⟨rfl,b1⟩
 replace hB:=hB.below b1
 replace b0:=belD b0 b1
 clear b1 kD
 have c0:=hB.c0
 simp only at c0
 by_cases h:s.size+q.size≤60000
 ·have hk:decide (s.size+q.size≤60000)=true:=decide_eq_true h
  simp only [hk]
  go_wp2_with fail
  refine (kL0 _ (by omega) b0).mono ?_
  rintro e w2 ⟨⟨v,rs,n,hL,rfl,hO⟩,b2⟩
  have HR:Hid (ReadIs (s,q) rs n 0):=.inr ⟨h,hL,rfl⟩
  have hO2:OwnR w2 w.heap.size v rs:=owns_lower hO b0.size
  clear hL hO kL0
  go_wp2
  go_ret3
  exact ⟨⟨v,rs,n,0,HR.out,rfl,hO2⟩,belD b0 b2⟩
 ·have hk:decide (s.size+q.size≤60000)=false:=decide_eq_false h
  have HR:Hid (ReadIs (s,q) [] 0 1):=.inl ⟨h,rfl,rfl,rfl⟩
  simp only [hk]
  clear c0 kL0
  go_wp2
  go_ret3
  exact ⟨⟨_,[],0,1,HR.out,rfl,World.ownsRow_nil _ _ _ _⟩,b0⟩

theorem recov_bad {d:D2} (h:¬ d.1.size+d.2.size≤60000):RecovIs d (noD,1):=.inl ⟨fun g=>h g.1,rfl⟩
theorem recov_cut {d:D2} {rs:List R2} {n:Nat} (h:d.1.size+d.2.size≤60000) (hL:LogAt d.1 0 rs n):RecovIs d (cutD d (n:Int)):=by
 have hn:=hL.le.2
 unfold cutD
 rw [if_neg (fun g=>g h)]
 by_cases hq:d.2.size=0
 ·rw [if_neg (fun g=>g hq),if_neg (fun g=>g ⟨by omega,by omega⟩)]
  exact .inr ⟨h,hq,rs,n,hL,rfl⟩
 ·rw [if_pos hq]
  exact .inl ⟨fun g=>hq g.2,rfl⟩

theorem implRecoverLog_is (d:D2) (w:World) (hd:d.1.size+d.2.size≤1048576) (hV:VmShape w) (hE:ErrType w) :
  Calls Tryz.prog 17 #[d.val] w fun e w'=>RecovGot d e∧Below w.heap.size w w':=by
 obtain ⟨s,q⟩:=d
 simp only at hd
 have hF:=FrD.new w (s,q)
 have kR0:=fun W (hb:Below w.heap.size w W)=>implReadLog_is (s,q) W hd (hV.below hb) (hE.below hb)
 have kC:=fun (n:Int) W=>implCutDisk_is s q n W hd
 clear hV hE
 unfold D2.val at kR0 ⊢
 simp only at kR0 ⊢
 go_enter Tryz.func17,Tryz.ntmps17
 obtain ⟨c0,c1,c2,c3,c4,c5⟩:=hF.cells
 go_wp2_with fail
 refine (kR0 _ hF.2.2).mono ?_
 rintro e w1 ⟨⟨v,rs,n,c,hR,rfl,_⟩,b1⟩
 replace hF:=hF.below b1
 clear b1 kR0 c0 c1 c2 c3 c4 c5
 obtain ⟨c0,c1,c2,c3,c4,c5⟩:=hF.cells
 rcases hR with ⟨hb,_,_,rfl⟩ | ⟨hg,hL,rfl⟩
 ·have HR:Hid (RecovIs (s,q) (noD,1)):=recov_bad hb
  clear kC
  go_wp2
  obtain ⟨W,hW,e0,e1,bW⟩:=hF.fin noT noT
  rw [← hW]
  clear hW
  refine bodyPost_ret (by simp [results,Tryz.results17,go_sem,e0,e1];try rfl) rfl ?_
  exact ⟨⟨_,HR.out,rfl⟩,bW⟩
 ·have HR:Hid (RecovIs (s,q) (cutD (s,q) (n:Int))):=recov_cut hg hL
  have kC:=kC (n:Int)
  generalize cutD (s,q) (n:Int)=R at *
  obtain ⟨⟨x,y⟩,d⟩:=R
  unfold ResD D2.val at kC
  simp only at kC
  clear hL hg
  go_wp2_with fail
  refine (kC _).mono ?_
  rintro e w2 ⟨rfl,b2⟩
  replace hF:=hF.below b2
  clear b2 c0 c1 c2 c3 c4 c5 kC
  obtain ⟨c0,c1,c2,c3,c4,c5⟩:=hF.cells
  go_wp2
  obtain ⟨W,hW,e0,e1,bW⟩:=hF.fin x y
  rw [← hW]
  clear hW
  refine bodyPost_ret (by simp [results,Tryz.results17,go_sem,e0,e1];try rfl) rfl ?_
  exact ⟨⟨_,HR.out,rfl⟩,bW⟩
end Go.Proofs.YtdopgkbegjfhjaaGreatDoor
