/-
  Joined: As2.
-/
import Derived.Test.YtdopgkbegjfhjaaGreatDoorL05

namespace Go.Proofs.YtdopgkbegjfhjaaGreatDoor
set_option maxRecDepth 100000
set_option maxHeartbeats 16000000
open Go.RowKit Go.Extern.Stop Go.Stop Go.Extern

def ErrType (w:World):Prop:=w.cell? ⟨1,0,none⟩=some (.iface 225 (.agg #[.pointer (some ⟨5,163,none⟩)]))
theorem ErrType.lt {w:World} (h:ErrType w):1<w.heap.size:=by
 rcases Nat.lt_or_ge 1 w.heap.size with h' | h'
 ·exact h'
 ·unfold ErrType at h;simp [World.cell?,Array.getElem?_eq_none h'] at h
theorem ErrType.below {w w':World} (h:ErrType w) (hb:Below w.heap.size w w'):ErrType w':=by
 have hl:=h.lt
 unfold ErrType at h ⊢
 rw [hb.cell (p:=⟨1,0,none⟩) hl]
 exact h

theorem as_hit (tb:Nat) (x y:Int) (old:Array Value) (tt:TypeId) (w:World) (hE:ErrType w) (ht:w.heap[tb]?=some (.cells old tt (0,0))) (ho:old.size=2) :
  Calls Tryz.prog 151 #[.iface 189 (.agg #[.int .i64 x,.int .i64 y]),.iface 191 (.pointer (some ⟨tb,0,none⟩))] w fun ev w'=>ev=.returned (.bool true) ∧
   w'=((((w.alloc (.cells #[.pointer (some ⟨tb,0,none⟩)] 191)).alloc (.cells #[.pointer (some ⟨5,191,none⟩),.pointer (some ⟨w.heap.size,0,none⟩),.int .u64 150] 202)).alloc (.cells #[.pointer (some ⟨5,191,none⟩),.pointer (some ⟨w.heap.size,0,none⟩),.int .u64 150] 202)).alloc (.cells #[.int .i64 x,.int .i64 y] 189)).setRow tb #[.int .i64 x,.int .i64 y]:=by
 have h6:=@run_callFunc_extern Tryz.prog 166 _ (fun args=>ReflectliteValue.unpack (args.getD 0 (.tuple #[]))) Tryz.func166 (by kernel_rfl) (by kernel_rfl) (by kernel_rfl) (by kernel_rfl)
 have h7:=@run_callFunc_extern Tryz.prog 167 _ (ReflectliteValue.methodAny (ReflectliteValue.valueError "reflectlite.Value.Type" 0) (fun t _ _ _=>ReflectliteType.toType t)) Tryz.func167 (by kernel_rfl) (by kernel_rfl) (by kernel_rfl) (by kernel_rfl)
 have h8:=@run_callFunc_extern Tryz.prog 168 _ (ReflectliteValue.method (ReflectliteValue.valueError "reflectlite.Value.IsNil" 0) ReflectliteValue.isNil) Tryz.func168 (by kernel_rfl) (by kernel_rfl) (by kernel_rfl) (by kernel_rfl)
 have h27:=@run_callFunc_extern Tryz.prog 192 _ (ReflectliteType.abiMethod fun t=>do pure (.int .u8 (← Rtype.kind t))) Tryz.func192 (by kernel_rfl) (by kernel_rfl) (by kernel_rfl) (by kernel_rfl)
 have h37:=@run_callFunc_extern Tryz.prog 206 _ (ReflectliteType.method ReflectliteType.elem) Tryz.func206 (by kernel_rfl) (by kernel_rfl) (by kernel_rfl) (by kernel_rfl)
 have h38:=@run_callFunc_extern Tryz.prog 207 _ (ReflectliteType.relation "Implements" ReflectliteType.implements_) Tryz.func207 (by kernel_rfl) (by kernel_rfl) (by kernel_rfl) (by kernel_rfl)
 have h10:=@run_callFunc_extern Tryz.prog 174 _ ReflectliteType.typeOf Tryz.func174 (by kernel_rfl) (by kernel_rfl) (by kernel_rfl) (by kernel_rfl)
 have h35:=@run_callFunc_extern Tryz.prog 204 _ (ReflectliteType.relation "AssignableTo" ReflectliteType.assignableTo) Tryz.func204 (by kernel_rfl) (by kernel_rfl) (by kernel_rfl) (by kernel_rfl)
 have h11:=@run_callFunc_extern Tryz.prog 175 _ (ReflectliteValue.method (ReflectliteValue.valueError "reflectlite.Value.Elem" 0) ReflectliteValue.elem) Tryz.func175 (by kernel_rfl) (by kernel_rfl) (by kernel_rfl) (by kernel_rfl)
 have h12:=@run_callFunc_extern Tryz.prog 176 _ ReflectliteValue.set Tryz.func176 (by kernel_rfl) (by kernel_rfl) (by kernel_rfl) (by kernel_rfl)
 have tO:=as_typeOfC
 have mA:=as_methodAssignableTo
 have a25:=as_assignableC
 have v25:=as_valueOfC
 have f6:=as_valueOfP
 have f7:=as_typeP
 have mK:=as_methodKind
 have mE:=as_methodElem
 have mI:=as_methodImplements
 have k27:=as_kindP
 have k25:=as_kindC
 have e27:=as_elemP
 have i25:=as_implementsC
 have hlt:=hE.lt
 have htl:tb<w.heap.size:=(Array.getElem?_eq_some_iff.1 ht).1
 have n8:=as_isNilP ⟨w.heap.size,0,none⟩ ⟨tb,0,none⟩ ((w.alloc (.cells #[.pointer (some ⟨tb,0,none⟩)] 191)).alloc (.cells #[.pointer (some ⟨5,191,none⟩),.pointer (some ⟨w.heap.size,0,none⟩),.int .u64 150] 202)) (by simp)
 have hg2:((w.alloc (.cells #[.pointer (some ⟨tb,0,none⟩)] 191)).alloc (.cells #[.pointer (some ⟨5,191,none⟩),.pointer (some ⟨w.heap.size,0,none⟩),.int .u64 150] 202)).cell? ⟨1,0,none⟩=some (.iface 225 (.agg #[.pointer (some ⟨5,163,none⟩)])):=by
  rw [World.cell?_alloc_lt _ _ ⟨1,0,none⟩ (by simp<;>omega),World.cell?_alloc_lt _ _ ⟨1,0,none⟩ hlt];exact hE
 have el:=as_elemVP ⟨w.heap.size,0,none⟩ ⟨tb,0,none⟩ (((w.alloc (.cells #[.pointer (some ⟨tb,0,none⟩)] 191)).alloc (.cells #[.pointer (some ⟨5,191,none⟩),.pointer (some ⟨w.heap.size,0,none⟩),.int .u64 150] 202)).alloc (.cells #[.pointer (some ⟨5,191,none⟩),.pointer (some ⟨w.heap.size,0,none⟩),.int .u64 150] 202)) (by rw [World.cell?_alloc_lt _ _ ⟨w.heap.size,0,none⟩ (by simp;omega)];simp)
 have st:=as_setC tb (w.heap.size+1+1+1) x y old tt 189 ((((w.alloc (.cells #[.pointer (some ⟨tb,0,none⟩)] 191)).alloc (.cells #[.pointer (some ⟨5,191,none⟩),.pointer (some ⟨w.heap.size,0,none⟩),.int .u64 150] 202)).alloc (.cells #[.pointer (some ⟨5,191,none⟩),.pointer (some ⟨w.heap.size,0,none⟩),.int .u64 150] 202)).alloc (.cells #[.int .i64 x,.int .i64 y] 189))
  (by have:=heap_alloc_new (((w.alloc (.cells #[.pointer (some ⟨tb,0,none⟩)] 191)).alloc (.cells #[.pointer (some ⟨5,191,none⟩),.pointer (some ⟨w.heap.size,0,none⟩),.int .u64 150] 202)).alloc (.cells #[.pointer (some ⟨5,191,none⟩),.pointer (some ⟨w.heap.size,0,none⟩),.int .u64 150] 202)) (.cells #[.int .i64 x,.int .i64 y] 189);simpa using this)
  (by rw [Below.heap_alloc _ _ _ (by simp;omega),Below.heap_alloc _ _ _ (by simp;omega),Below.heap_alloc _ _ _ (by simp;omega),Below.heap_alloc _ _ _ htl];exact ht)
  ho
 clear ht hE
 go_enter Tryz.func151,Tryz.ntmps151
 go_wp2
 refine wp_loop_rounds 1 ?_
 rw [rounds_succ]
 go_wp2
 go_ret
 exact ⟨rfl,rfl⟩
end Go.Proofs.YtdopgkbegjfhjaaGreatDoor
