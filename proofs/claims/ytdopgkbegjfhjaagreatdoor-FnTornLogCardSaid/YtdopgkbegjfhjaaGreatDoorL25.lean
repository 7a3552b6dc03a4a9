/-
  Joined: FramesPlain, RecG, RecH, RecK, MachI, MachP.
-/
import Derived.Test.YtdopgkbegjfhjaaGreatDoorL24

namespace Go.Proofs.YtdopgkbegjfhjaaGreatDoor
set_option maxRecDepth 100000
set_option maxHeartbeats 16000000

theorem unframed_good {s:ByteArray} {n k:Nat} {e:Ending} (h:Unframed s e) (hf:Framed s n k) (hs:sumAt s k=sumTo (frameText s n k) (frameText s n k).size):e=.returned (.tuple #[.string (frameText s n k),.int .i64 ((k+2+n:Nat):Int),.int .i64 0]):=
 h.same (.inl ⟨n,k,hf,hs,rfl⟩)
theorem bent_size (f u:ByteArray) (k:Nat) (hk:k<f.size) (hu:u.size=1):(f.extract 0 k++u++f.extract (k+1) f.size).size=f.size:=by
 simp [ByteArray.size_append,hu]
 omega
theorem bent_bt (f u:ByteArray) (k i:Nat) (hk:k<f.size) (hi:i<k):bt (f.extract 0 k++u++f.extract (k+1) f.size) i=bt f i:=by
 have h1:(f.extract 0 k).size=k:=by simp;omega
 rw [bt_app _ _ i (by rw [ByteArray.size_append,h1];omega),bt_app _ _ i (by omega),bt_head f k i hi (by omega)]

open Go.RowKit
set_option linter.unusedVariables false
set_option linter.unusedSimpArgs false

def LogGot (t:ByteArray) (e:Ending) (w':World) (B:Nat):Prop:=∃ (v:Value) (rs:List R2) (n:Nat),LogAt t 0 rs n∧e=.returned (.tuple #[v,.int .i64 (n:Int)])∧OwnR w' B v rs
theorem info_rec:(Tryz.prog.info? 24).map (fun i=>(i.zero,i.size,i.bytes))=some (some (.agg #[.int .i64 0,.string ⟨#[]⟩]),2,24):=by kernel_rfl
theorem no_nxt_code {s:ByteArray} {e:Ending} {x:ByteArray} {b c:Int} (h:Unframed s e) (he:e=.returned (.tuple #[.string x,.int .i64 b,.int .i64 c])) (hc:c≠0∨x.size=0) (r:R2) (n:Nat):¬ Nxt s r n:=by
 rintro ⟨m,k,hf,hs,h0,_⟩
 have:=unframed_good h hf hs
 rw [this] at he
 simp only [Ending.returned.injEq,Value.tuple.injEq] at he
 have h1:(#[Value.string (frameText s m k),.int .i64 ((k+2+m:Nat):Int),.int .i64 0]:Array Value).toList=#[.string x,.int .i64 b,.int .i64 c].toList:=by rw [he]
 simp at h1
 rcases hc with hc | hc
 ·exact hc h1.2.2.symm
 ·have hz:=frameText_size s m k hf.2.2
  rw [h1.1] at hz
  omega
def OpenGot (s:ByteArray) (e:Ending):Prop:=∃ (x:ByteArray) (b:Nat) (c:Int),e=.returned (.tuple #[.string x,.int .i64 (b:Int),.int .i64 c])∧b≤s.size∧x.size≤s.size ∧
 ((c≠0∨x.size=0)→∀ r n,¬ Nxt s r n)∧(c=0→0<x.size→(∀ r n,Nxt s r n→r=((bt x 0:Int) - 48,x.extract 1 x.size))∧(RecOk ((bt x 0:Int) - 48,x.extract 1 x.size)→Nxt s ((bt x 0:Int) - 48,x.extract 1 x.size) b))
theorem openGot_of {s:ByteArray} {e:Ending} (h:Unframed s e):OpenGot s e:=by
 have h0:=h
 rcases h with ⟨n,k,hf,hs,rfl⟩ | ⟨n,k,hf,hs,rfl⟩ | ⟨hn,rfl⟩
 ·have hz:=frameText_size s n k hf.2.2
  refine ⟨_,k+2+n,0,rfl,hf.2.2,by rw [hz];have:=hf.2.2;omega,fun hc=>no_nxt_code h0 rfl hc,fun _ hx=>⟨?_,?_⟩⟩
  ·rintro r m ⟨m',k',gf,_,_,rfl,_,_⟩
   obtain ⟨rfl,rfl⟩:=hf.only gf
   rw [hz]
  ·intro hr
   rw [hz] at hr hx ⊢
   exact ⟨n,k,hf,hs,hx,rfl,hr,rfl⟩
 ·exact ⟨_,0,9,rfl,Nat.zero_le _,Nat.zero_le _,fun hc=>no_nxt_code h0 rfl (.inl (by decide)),fun hc=>by cases hc⟩
 ·exact ⟨_,0,3,rfl,Nat.zero_le _,Nat.zero_le _,fun hc=>no_nxt_code h0 rfl (.inl (by decide)),fun hc=>by cases hc⟩
theorem two_rec (k:Int) (t:ByteArray):∀ u ∈ [Value.int .i64 k,Value.string t],u.oneCell'=true:=by
 intro u hu
 simp at hu
 rcases hu with rfl | rfl<;>rfl
theorem two_new (w:World) (x y:Value) (t:TypeId):∀ j u,[x,y][j]?=some u→(w.alloc (.cells #[x,y] t)).cell? ((⟨w.heap.size,0,none⟩:Addr).add j)=some u:=by
 intro j u hj
 have hb:=Blk.new w t [x,y]
 match j,hj with
 | 0,hj=>simp at hj;subst hj;rw [show (⟨w.heap.size,0,none⟩:Addr).add 0=⟨w.heap.size,0,none⟩ from rfl];exact hb.cell 0
 | 1,hj=>simp at hj;subst hj;rw [show (⟨w.heap.size,0,none⟩:Addr).add 1=⟨w.heap.size,1,none⟩ from by simp [Addr.add]];exact hb.cell 1
 | (j+2),hj=>simp at hj


def ReadIs (d:D2) (rs:List R2) (n:Nat) (c:Int):Prop:=(¬ d.1.size+d.2.size≤60000∧rs=[]∧n=0∧c=1)∨(d.1.size+d.2.size≤60000∧LogAt d.1 0 rs n∧c=0)
theorem ReadIs.only {d:D2} {rs qs:List R2} {n m:Nat} {c e:Int} (h:ReadIs d rs n c) (g:ReadIs d qs m e):rs=qs∧n=m∧c=e:=by
 rcases h with ⟨h0,rfl,rfl,rfl⟩ | ⟨h0,hL,rfl⟩<;>rcases g with ⟨g0,rfl,rfl,rfl⟩ | ⟨g0,gL,rfl⟩
 ·exact ⟨rfl,rfl,rfl⟩
 ·exact absurd g0 h0
 ·exact absurd h0 g0
 ·obtain ⟨rfl,rfl⟩:=hL.only gL
  exact ⟨rfl,rfl,rfl⟩
def ReadGot (d:D2) (e:Ending) (w':World) (B:Nat):Prop:=∃ (v:Value) (rs:List R2) (n:Nat) (c:Int),ReadIs d rs n c∧e=.returned (.tuple #[v,.int .i64 (n:Int),.int .i64 c])∧OwnR w' B v rs
def RecovIs (d:D2) (r:D2 × Int):Prop:=(¬ (d.1.size+d.2.size≤60000∧d.2.size=0)∧r=(noD,1))∨(d.1.size+d.2.size≤60000∧d.2.size=0∧∃ rs n,LogAt d.1 0 rs n∧r=((d.1.extract 0 n,noT),0))
theorem RecovIs.only {d:D2} {r s:D2 × Int} (h:RecovIs d r) (g:RecovIs d s):r=s:=by
 rcases h with ⟨h0,rfl⟩ | ⟨h0,h1,rs,n,hL,rfl⟩<;>rcases g with ⟨g0,rfl⟩ | ⟨g0,g1,qs,m,gL,rfl⟩
 ·rfl
 ·exact absurd ⟨g0,g1⟩ h0
 ·exact absurd ⟨h0,h1⟩ g0
 ·obtain ⟨_,rfl⟩:=hL.only gL
  rfl
def RecovGot (d:D2) (e:Ending):Prop:=∃ r,RecovIs d r∧e=ResD r


def unT:List I3→List Int
 | []=>[]
 | x::xs=>x.1::x.2.1::x.2.2::unT xs
theorem unT_len:∀ xs:List I3,(unT xs).length=3*xs.length
 | []=>rfl
 | x::xs=>by
  simp only [unT,List.length_cons,unT_len xs]
  omega
theorem unT_app:∀ xs ys:List I3,unT (xs++ys)=unT xs++unT ys
 | [],ys=>rfl
 | x::xs,ys=>by simp [unT,unT_app xs ys]
theorem unT_take {xs:List I3} {k:Nat} (h:k<xs.length):unT (xs.take (k+1))=unT (xs.take k)++[(xs.getD k (0,0,0)).1,(xs.getD k (0,0,0)).2.1,(xs.getD k (0,0,0)).2.2]:=by
 rw [List.take_succ_eq_append_getElem h,unT_app]
 simp [unT,List.getD,h]
def cellsI (zs:List Int):List Value:=zs.map (Value.int .i64)
theorem cellsI_app (a b:List Int):cellsI (a++b)=cellsI a++cellsI b:=List.map_append

theorem l13Commit_is (a:Option Addr) (n cap:Nat) (xs:List I3) (w:World) (h:Instrs w a n cap xs) (hn:n≤1000) (hok:allOk (unT xs)) :
  Calls Tryz.prog 59 #[.slice a n cap] w fun e w'=>e=.returned (.string (strOfNums (packL (unT xs))))∧Below w.heap.size w w':=by
 obtain ⟨i0,hi,hz0,hz1,hz2⟩:=info_parts info_int
 obtain ⟨hl,hlc,hcm,_,hcase⟩:=h
 unfold maxLen at hcm
 have HK:Hid (allOk (unT xs)):=hok
 clear hok
 go_enter Tryz.func59,Tryz.ntmps59
 go_wp2
 go_loopw [3,4] (fun sv si wr=>∃ k q:Nat,k≤n∧Hid (q=3*k)∧si=.int .i64 (k:Int)∧wr.ownsRow w.heap.size 3 1 sv q (cellsI (unT (xs.take k)))∧Below w.heap.size w wr) (fun _ si _=>n - (intOf si).toNat)
 case atStart=>exact ⟨0,0,Nat.zero_le _,rfl,rfl,World.ownsRow_lit w #[] 0 (Nat.le_refl _) (by unfold maxLen;omega) rfl,by go_grown⟩
 case round =>
  obtain ⟨k,q,hk,hq,rfl,hr,hb⟩:=hrel
  by_cases hlt:k<n
  ·rcases hcase with h0 | ⟨b,off,rfl,hbl,hc⟩
   ·omega
   obtain ⟨d0,d1,d2⟩:=hc k hlt
   rw [← hb.cell (p:=⟨b,_,none⟩) hbl] at d0 d1 d2
   have hst:Hid (cellsI (unT (xs.take (k+1)))=cellsI (unT (xs.take k))++[.int .i64 (xs.getD k (0,0,0)).1,.int .i64 (xs.getD k (0,0,0)).2.1,.int .i64 (xs.getD k (0,0,0)).2.2]):=by
    rw [Hid,unT_take (by omega),cellsI_app]
    rfl
   clear hc
   generalize xs.getD k (0,0,0)=x at d0 d1 d2 hst
   have hlt2:(k:Int)<(n:Int):=by omega
   have hk0:(0:Int)≤(k:Int):=by omega
   have hq3:q≤3000:=by have:=hq.out;omega
   have hm1:q+3≤maxLen:=by unfold maxLen;omega
   have hm2:(q+3)*8≤140737488355328:=by omega
   have hm3:w.heap.size≤(wr.alloc (.cells #[.int .i64 x.1,.int .i64 x.2.1,.int .i64 x.2.2] 3)).drew.heap.size:=by have:=hb.size;simp;omega
   have hbis:=hb.size
   go_wp2_with fail
   go_region_held3 (fun w'=>w'.cell? ⟨b,off+k*3,none⟩=some (.int .i64 x.1)∧w'.cell? ⟨b,off+k*3+1,none⟩=some (.int .i64 x.2.1)∧w'.cell? ⟨b,off+k*3+2,none⟩=some (.int .i64 x.2.2)) (first | (exact ⟨d0,d1,d2⟩) | (exact ⟨q1,q2,q3⟩) | go_keep)
    (first | (refine step_append_mine rfl _ _ 40 rfl w.heap.size 3 i0 (.int .i64 0) 1 8 Tryz.underlying40 hi hz0 hz1 hz2 rfl (by decide) _ q (cellsI (unT (xs.take k))) rfl (own_dr (hr.alloc _)) ⟨wr.heap.size,0,none⟩ 3 3 [.int .i64 x.1,.int .i64 x.2.1,.int .i64 x.2.2] rfl rfl (three_dr wr _ _ _ _) (three_i64 _ _ _) hm1 hm2 hm3 ?_;intro v3 w3 hown3 hgrow3;have hB3:=below_app3 hbis hr hgrow3;have q1:=cells_lo3 hB3 hbl d0;have q2:=cells_lo3 hB3 hbl d1;have q3:=cells_lo3 hB3 hbl d2))
   have hr3:w3.ownsRow w.heap.size 3 1 v3 (q+3) (cellsI (unT (xs.take (k+1)))):=by rw [hst.out];exact hown3
   have hb3:Below w.heap.size w w3:=hb.trans hB3
   clear hown3 hgrow3 hB3 q1 q2 q3 d0 d1 d2 hr hb hm1 hm2 hm3 hbis hst
   go_wp2
   go_roundw
   case rel=>exact ⟨k+1,q+3,by omega,by have:=hq.out;rw [Hid];omega,by go_num,hr3,hb3⟩
   case measure=>simp [intOf];omega
  ·obtain rfl:k=n:=by omega
   rw [show xs.take k=xs by rw [← hl,List.take_length]] at hr
   have hql:(unT xs).length=q:=by rw [unT_len,hl,hq.out]
   have hqn:q≤4096:=by have:=hq.out;omega
   obtain ⟨a2,c2,rfl,hI⟩:∃ a2 c2,u3=.slice a2 q c2∧Ints .i64 wr a2 q c2 (unT xs):=by
    rcases id hr.2 with ⟨rfl,h0⟩ | ⟨g,c9,cur,rfl,_⟩
    ·have h00:unT xs=[]:=List.eq_nil_of_length_eq_zero (by omega)
     rw [h00]
     exact ⟨none,0,by rw [h0],by rw [h0];exact ⟨rfl,Nat.le_refl _,by unfold maxLen;omega,.inl rfl⟩⟩
    ·exact ⟨_,c9,rfl,Ints.of_owns hr⟩
   clear hr
   have hx9:¬ (k:Int)<(k:Int):=by omega
   go_wp2_with fail
   refine (l01List_any a2 q c2 (unT xs) _ hI hqn HK.out).mono ?_
   rintro e w4 ⟨rfl,b4⟩
   go_wp2
   go_ret
   exact ⟨rfl,belD hb b4⟩


theorem below_dN {w:World} (n:Nat):Below w.heap.size w (w.drewN n):=⟨rfl,rfl,rfl,Nat.le_refl _,fun _ _=>rfl⟩

def slK (cs:Sl × Sl × Sl):Nat→Sl
 | 0=>cs.1
 | 1=>cs.2.1
 | _=>cs.2.2
theorem ins_at {w:World} {a:Option Addr} {n c:Nat} {xs:List I3} (h:Instrs w a n c xs) {p:Nat} (hp:p<xs.length):∃ b off,a=some ⟨b,off,none⟩∧p<n ∧
  w.cell? ⟨b,off+p*3,none⟩=some (.int .i64 (xs.getD p (0,0,0)).1)∧w.cell? ⟨b,off+p*3+1,none⟩=some (.int .i64 (xs.getD p (0,0,0)).2.1)∧w.cell? ⟨b,off+p*3+2,none⟩=some (.int .i64 (xs.getD p (0,0,0)).2.2):=by
 obtain ⟨hl,_,_,_,h0 | ⟨b,off,ha,_,hc⟩⟩:=h
 ·omega
 ·exact ⟨b,off,ha,by omega,hc p (by omega)⟩
theorem codeM_len {rows:List (List I3)} (hp:progOk rows=true) {k:Nat} (hk:k<3):(codeM rows k).length≤6∧∀ x ∈ codeM rows k,okI x=true:=by
 obtain ⟨h3,hr⟩:=progOk_parts hp
 exact hr _ (by unfold codeM;simp [List.getD,show k<rows.length by omega])
theorem at_ins {rows:List (List I3)} {m:V4} (hp:progOk rows=true) (hs:shapeOk m=true) {k:Nat} (hk:k<3) (hd:doneM rows m k=false):∃ p:Nat,m.1.getD k 0=p∧p<(codeM rows k).length∧insM rows m k=(codeM rows k).getD p (0,0,0)∧okI (insM rows m k)=true:=by
 have hb:=getD_in (shape_bounds hs).1 (by decide) k
 unfold doneM at hd
 simp only [decide_eq_false_iff_not] at hd
 have e:m.1.getD k 0=((m.1.getD k 0).toNat:Int):=by omega
 refine ⟨(m.1.getD k 0).toNat,e,by omega,rfl,?_⟩
 refine (codeM_len hp hk).2 _ ?_
 unfold insM
 have hlt:(m.1.getD k 0).toNat<(codeM rows k).length:=by omega
 rw [List.getD,List.getElem?_eq_getElem hlt,Option.getD_some]
 exact List.getElem_mem hlt
theorem okI_lock {x:I3} (h:okI x=true) (h5:x.1=5):∃ q:Nat,x.2.1=q∧q<2:=by
 unfold okI at h
 simp only [h5] at h
 have h2:inB x.2.1 0 1=true:=by
  have:=h
  simp at this
  exact this.1
 rw [inB_true] at h2
 exact ⟨x.2.1.toNat,by omega,by omega⟩


def LenOk (m:V4):Prop:=m.1.length=3∧m.2.1.length=4∧m.2.2.1.length=2∧m.2.2.2.length=6
theorem LenOk.of {m:V4} (h:shapeOk m=true):LenOk m:=by
 obtain ⟨a,b,c,d,_⟩:=shape_parts h
 exact ⟨a,b,c,d⟩
section
variable (c0 c1 c2 : Value) (m : V4) (h : LenOk m)
include h
end
end Go.Proofs.YtdopgkbegjfhjaaGreatDoor
