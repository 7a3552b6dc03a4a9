/-
  Joined: VmDraw, MarkH, BugS, MrgA.
-/
import Derived.Test.YtjgffnlmjmibgaaDoorL27
import Derived.Test.YtjgffnlmjmibgaaDoorL29
import Derived.Test.YtjgffnlmjmibgaaDoorL31

namespace Go.Proofs.YtjgffnlmjmibgaaDoor
set_option maxRecDepth 100000
set_option maxHeartbeats 16000000
open Go.RowKit
set_option linter.unusedVariables false
set_option linter.unusedSimpArgs false

theorem Went.of_below {p:Nat} {w w':World} (h:Below w.heap.size w w'):Went p w w':=⟨h.os,h.tape,h.output,h.size,fun k hk _=>h.block k hk⟩
theorem Blk.went {p g t:Nat} {w w':World} {cs:List Value} (h:Blk w g t cs) (hw:Went p w w') (hne:g≠p):Blk w' g t cs:=h.kept hw (fun e=>hne (by cases e;rfl))
theorem OwnV.went {p B:Nat} {w w':World} {s:S4} {m:V4} (h:OwnV w B s m) (hw:Went p w w') (hp:p<B):OwnV w' B s m:=⟨⟨owns_wn h.1.1 hw hp,owns_wn h.1.2.1 hw hp,owns_wn h.1.2.2.1 hw hp,owns_wn h.1.2.2.2 hw hp⟩,h.2⟩
theorem OwnI.went {p B:Nat} {w w':World} {s:Sl} {zs:List Int} (h:OwnI w B s zs) (hw:Went p w w') (hp:p<B):OwnI w' B s zs:=owns_wn h hw hp
theorem OwnV.lowerB {B B':Nat} {w:World} {s:S4} {m:V4} (h:OwnV w B s m) (hB:B'≤B):OwnV w B' s m:=⟨⟨own_lower h.1.1 hB,own_lower h.1.2.1 hB,own_lower h.1.2.2.1 hB,own_lower h.1.2.2.2 hB⟩,h.2⟩
theorem Src.belowD {p T:Nat} {c:Value} {w w':World} (h:Src w p c T) (hb:Below w.heap.size w w'):Src w' p c T:=h.grown (row:=none) ⟨hb.os,hb.tape,hb.output,hb.size,fun k hk _=>hb.block k hk⟩ (fun k e=>by cases e)
theorem zero_shape:shapeOk zeroV=true:=by decide
def vmC (t:S4):List Value:=[.slice t.1.1 t.1.2.1 t.1.2.2,.slice t.2.1.1 t.2.1.2.1 t.2.1.2.2,.slice t.2.2.1.1 t.2.2.1.2.1 t.2.2.1.2.2,.slice t.2.2.2.1 t.2.2.2.2.1 t.2.2.2.2.2]
theorem step_store_blkD {P:Program} {ops:Array Oper} {o:Oper} {a:Act} {w:World} {K:Act→World→Prop} {Q:Exit→Act→World→Prop} {E:Prop} (hgd:o.guard=none) (ty:TypeId) (x y:Operand) (ho:o.op=.store ty x y) (g:Nat) (vs:List Value) (hx:a.eval x=.pointer (some ⟨g,0,none⟩)) (hy:a.eval y=.agg vs.toArray) {t:Nat} {cs:List Value} (hB:Blk w g t cs)
  (hi:(P.info? ty).map (·.size)=some vs.length) (hl:cs.length=vs.length) (h1:vs.all (·.oneCell')=true)
  (h:∀ w',Hid (Blk w' g t vs)→w.grownBy w' (some g)→K (a.put o.dst undef) w'):if Region.wanted o (yielded ops a.tmps)=true then Oper.wp P o a w K Q else E:=by
 have hw:Region.wanted o (yielded ops a.tmps)=true:=by simp [Region.wanted,hgd]
 rw [if_pos hw]
 exact wp_store_row ty x y ho g vs.toArray hx hy t cs.toArray hB (by simpa using hi) (by simpa using hl) (by simpa using h1) (h _ (blk_setRow vs hB) (grown_setRow _ _ _))


theorem flat_at {xs:List I3} {t:Nat} (ht:t<xs.length):(flat xs)[t*3]?=some (.int .i64 (xs.getD t (0,0,0)).1)∧(flat xs)[t*3+1]?=some (.int .i64 (xs.getD t (0,0,0)).2.1)∧(flat xs)[t*3+2]?=some (.int .i64 (xs.getD t (0,0,0)).2.2):=by
 have hsplit:flat xs=flat (xs.take t)++((xs.getD t (0,0,0)).cells++flat (xs.drop (t+1))):=by
  rw [← List.append_assoc,← flat_take_succ ht]
  unfold flat
  rw [← List.flatMap_append,List.take_append_drop]
 have hlt:(flat (xs.take t)).length=t*3:=by rw [flat_length,List.length_take];rw [Nat.min_eq_left (by omega)]
 have h:∀ j,j<3→(flat xs)[t*3+j]?=((xs.getD t (0,0,0)).cells)[j]?:=fun j hj=>by
  rw [hsplit,List.getElem?_append_right (by omega),hlt,Nat.add_sub_cancel_left,List.getElem?_append_left (by simp [I3.cells];omega)]
 exact ⟨by simpa [I3.cells] using h 0 (by omega),by simpa [I3.cells] using h 1 (by omega),by simpa [I3.cells] using h 2 (by omega)⟩


theorem info_bug:(Tryd.prog.info? 40).map (fun i=>(i.zero,i.size,i.bytes))=some (some (.agg #[.int .i64 0,.int .i64 0,.int .i64 0]),3,24):=by kernel_rfl


theorem l04Less_is (x y:I3) (w:World):Calls Tryd.prog 107 #[x.val,y.val] w fun e w'=>e=.returned (.bool (ltB x y))∧Below w.heap.size w w':=by
 obtain ⟨a0,a1,a2⟩:=x
 obtain ⟨b0,b1,b2⟩:=y
 unfold I3.val
 by_cases h0:a0=b0
 ·subst h0
  by_cases h1:a1=b1
  ·subst h1
   have e:ltB (a0,a1,a2) (a0,a1,b2)=decide (a2<b2):=by simp [ltB]
   rw [e]
   clear e
   go_enter Tryd.func107,Tryd.ntmps107
   go_wp2
   go_ret
   exact ⟨rfl,by go_grown⟩
  ·have e:ltB (a0,a1,a2) (a0,b1,b2)=decide (a1<b1):=by simp [ltB,h1]
   rw [e]
   clear e
   go_enter Tryd.func107,Tryd.ntmps107
   go_wp2
   go_ret
   exact ⟨rfl,by go_grown⟩
 ·have e:ltB (a0,a1,a2) (b0,b1,b2)=decide (a0<b0):=by simp [ltB,h0]
  rw [e]
  clear e
  go_enter Tryd.func107,Tryd.ntmps107
  go_wp2
  go_ret
  exact ⟨rfl,by go_grown⟩

def leadB:List I3→I3→Nat
 | [],_=>0
 | x::xs,b=>if ltB x b then leadB xs b+1 else 0
theorem leadB_le:∀ (xs:List I3) (b:I3),leadB xs b≤xs.length
 | [],_=>Nat.le_refl _
 | x::xs,b=>by
  have:=leadB_le xs b
  unfold leadB
  split<;>simp<;>omega
theorem leadB_yes:∀ (xs:List I3) (b:I3) (k:Nat),k<leadB xs b→ltB (xs.getD k (0,0,0)) b=true
 | [],_,k,h=>by simp [leadB] at h
 | x::xs,b,k,h=>by
  unfold leadB at h
  split at h
  ·rename_i hx
   match k,h with
   | 0,_=>simpa using hx
   | k+1,h=>rw [List.getD_cons_succ];exact leadB_yes xs b k (by omega)
  ·omega
theorem leadB_no:∀ (xs:List I3) (b:I3),leadB xs b<xs.length→ltB (xs.getD (leadB xs b) (0,0,0)) b=false
 | [],_,h=>by simp [leadB] at h
 | x::xs,b,h=>by
  unfold leadB at h ⊢
  split
  ·rename_i hx
   rw [if_pos hx] at h
   rw [List.getD_cons_succ]
   exact leadB_no xs b (by simpa using h)
  ·rename_i hx
   simpa using hx
theorem putB_lead:∀ (xs:List I3) (b:I3),putB xs b=if leadB xs b<xs.length∧xs.getD (leadB xs b) (0,0,0)=b then xs else (xs.take (leadB xs b)++[b])++xs.drop (leadB xs b)
 | [],b=>by simp [putB,leadB]
 | x::xs,b=>by
  have ih:=putB_lead xs b
  unfold putB leadB
  split
  ·rename_i hx
   rw [ih]
   simp only [List.getD_cons_succ,List.length_cons,Nat.add_lt_add_iff_right,List.take_succ_cons,List.drop_succ_cons,List.cons_append]
   split<;>simp
  ·simp only [List.getD_cons_zero,List.length_cons,List.take_zero,List.drop_zero,List.nil_append,Nat.zero_lt_succ,true_and]
   split<;>simp

theorem slice_h3 {w:World} {b off len cap hi:Nat} {xs:List I3} (h:Instrs w (some ⟨b,off,none⟩) len cap xs) (h2:hi≤len) :
  (∀ W,(Instr.slice 31 (.slice (some ⟨b,off,none⟩) len cap) none (some (.int .i64 (hi:Int))) none).run Tryd.prog W=.ok (.slice (some ⟨b,off,none⟩) hi cap) W)∧Instrs w (some ⟨b,off,none⟩) hi cap (xs.take hi):=by
 obtain ⟨hl,hlc,hcm,hf,hcase⟩:=h
 have hhc:(hi:Int)≤(cap:Int):=by omega
 refine ⟨fun W=>?_,by rw [List.length_take];omega,by omega,by omega,fun x hx=>hf x (List.mem_of_mem_take hx),?_⟩
 ·go_simp
 ·rcases hcase with h0 | ⟨b',off',he,hb,hc⟩
  ·exact .inl (by omega)
  ·cases he
   refine .inr ⟨b,off,rfl,hb,fun t ht=>?_⟩
   have:=hc t (by omega)
   have e:(xs.take hi).getD t (0,0,0)=xs.getD t (0,0,0):=by simp [List.getD,List.getElem?_take,ht]
   rw [e]
   exact this
theorem slice_l3 {w:World} {b off len cap lo:Nat} {xs:List I3} (h:Instrs w (some ⟨b,off,none⟩) len cap xs) (h1:lo≤len) :
  ∃ o2,(∀ W,(Instr.slice 31 (.slice (some ⟨b,off,none⟩) len cap) (some (.int .i64 (lo:Int))) none none).run Tryd.prog W=.ok (.slice (some ⟨b,o2,none⟩) (len - lo) (cap - lo)) W)∧Instrs w (some ⟨b,o2,none⟩) (len - lo) (cap - lo) (xs.drop lo):=by
 obtain ⟨hl,hlc,hcm,hf,hcase⟩:=h
 have hlh:(lo:Int)≤(len:Int):=by omega
 by_cases hz:cap - lo=0
 ·refine ⟨off,fun W=>?_,by rw [List.length_drop];omega,by omega,by omega,fun x hx=>hf x (List.mem_of_mem_drop hx),.inl (by omega)⟩
  go_simp
  omega
 ·refine ⟨off+lo*3,fun W=>?_,by rw [List.length_drop];omega,by omega,by omega,fun x hx=>hf x (List.mem_of_mem_drop hx),?_⟩
  ·go_simp
   omega
  ·rcases hcase with h0 | ⟨b',off',he,hb,hc⟩
   ·exact .inl (by omega)
   ·cases he
    refine .inr ⟨b,off+lo*3,rfl,hb,fun t ht=>?_⟩
    have:=hc (lo+t) (by omega)
    have e:(xs.drop lo).getD t (0,0,0)=xs.getD (lo+t) (0,0,0):=by simp [List.getD]
    rw [e,show off+lo*3+t*3=off+(lo+t)*3 by omega]
    exact this
theorem instrs_news {w:World} {b off len cap:Nat} {xs:List I3} (h:Instrs w (some ⟨b,off,none⟩) len cap xs):∀ j u,(flat xs)[j]?=some u→w.cell? ((⟨b,off,none⟩:Addr).add j)=some u:=by
 intro j u hj
 obtain ⟨hl,_,_,_,hcase⟩:=h
 have hjl:j<xs.length*3:=by
  have:=(List.getElem?_eq_some_iff.1 hj).1
  rwa [flat_length] at this
 have hA:(⟨b,off,none⟩:Addr).add j=⟨b,off+j,none⟩:=by unfold Addr.add;split<;>simp_all
 rw [hA]
 rcases hcase with h0 | ⟨b',off',he,hb,hc⟩
 ·omega
 ·cases he
  have hq:j / 3<xs.length:=by omega
  obtain ⟨f0,f1,f2⟩:=flat_at hq
  obtain ⟨c0,c1,c2⟩:=hc (j / 3) (by omega)
  have hr:j % 3=0∨j % 3=1∨j % 3=2:=by omega
  rcases hr with hr | hr | hr
  ·have e:j / 3*3=j:=by omega
   rw [e] at f0
   rw [f0] at hj
   cases hj
   rw [show off+j=off+j / 3*3 by omega]
   exact c0
  ·have e:j / 3*3+1=j:=by omega
   rw [e] at f1
   rw [f1] at hj
   cases hj
   rw [show off+j=off+j / 3*3+1 by omega]
   exact c1
  ·have e:j / 3*3+2=j:=by omega
   rw [e] at f2
   rw [f2] at hj
   cases hj
   rw [show off+j=off+j / 3*3+2 by omega]
   exact c2
theorem flat_one (xs:List I3):∀ u ∈ flat xs,u.oneCell'=true:=by
 intro u hu
 obtain ⟨x,hx,hu⟩:=List.mem_flatMap.1 hu
 unfold I3.cells at hu
 simp at hu
 rcases hu with rfl | rfl | rfl<;>rfl
theorem flat_append (xs ys:List I3):flat (xs++ys)=flat xs++flat ys:=by simp [flat]
end Go.Proofs.YtjgffnlmjmibgaaDoor
