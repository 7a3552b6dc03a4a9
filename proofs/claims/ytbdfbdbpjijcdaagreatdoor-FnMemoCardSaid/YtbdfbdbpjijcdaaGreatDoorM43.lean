/-
  Joined: As, As2.
-/
import Derived.Test.YtbdfbdbpjijcdaaGreatDoorProg
import Derived.Deep.RegionHeld3
import Derived.KernelRfl
import Derived.Tactics
import Derived.WalkKit
import Derived.WalkSpells
import Derived.WalkLawsBesides
import Derived.LaidEql
import Derived.Stop.Asserts
import Derived.RowKitTokens
import Derived.Laws.CopyOwn

namespace Go.Proofs.YtbdfbdbpjijcdaaGreatDoor
set_option maxRecDepth 100000
set_option maxHeartbeats 16000000
open Go.RowKit Go.Extern.Stop Go.Stop Go.Extern

theorem as_nil (t:Value) (w:World) :
  Calls Tryz.prog 213 #[.nilIface,t] w fun e w'=>e=.returned (.bool false)∧w=w':=by
 go_enter Tryz.func213,Tryz.ntmps213
 go_wp2
 go_ret
 exact ⟨rfl,rfl⟩

theorem as_valueOfP (t:Addr) (w:World):(ReflectliteValue.unpack (.iface 277 (.pointer (some t)))).run Tryz.prog w
  = .ok (.agg #[.pointer (some ⟨3,277,none⟩),.pointer (some ⟨w.heap.size,0,none⟩),.int .u64 150]) (w.alloc (.cells #[.pointer (some t)] 277)):=by kernel_rfl
theorem as_typeP (a:Addr) (w:World):(ReflectliteValue.methodAny (ReflectliteValue.valueError "reflectlite.Value.Type" 0) (fun t _ _ _=>ReflectliteType.toType t) #[.agg #[.pointer (some ⟨3,277,none⟩),.pointer (some a),.int .u64 150]]).run Tryz.prog w
  = .ok (.iface 340 (.agg #[.pointer (some ⟨3,277,none⟩)])) w:=by kernel_rfl
theorem as_methodKind (h:Value) (w:World):(Go.method 515 340 (.agg #[h]) "Kind").run Tryz.prog w=.ok (325,h) w:=by kernel_rfl
theorem as_kindP (w:World):((ReflectliteType.abiMethod fun t=>(fun a:Nat=>Value.int IntKind.u8 (a:Int)) <$> Rtype.kind t) #[.pointer (some ⟨3,277,none⟩)]).run Tryz.prog w=.ok (.int .u8 22) w:=by kernel_rfl
theorem as_kindC (w:World):((ReflectliteType.abiMethod fun t=>(fun a:Nat=>Value.int IntKind.u8 (a:Int)) <$> Rtype.kind t) #[.pointer (some ⟨3,275,none⟩)]).run Tryz.prog w=.ok (.int .u8 25) w:=by kernel_rfl

theorem as_rlm (z:Sem Value) (f:TypeId→Addr→Nat→Nat→Sem Value) (v:Value) :
  ReflectliteValue.method z f #[v]=(do match ← ReflectliteValue.parts v with | none=>z | some (t,a,fl)=>f t a fl (fl % 32)):=rfl
theorem as_partsP (a:Addr) (w:World):(ReflectliteValue.parts (.agg #[.pointer (some ⟨3,277,none⟩),.pointer (some a),.int .u64 150])).run Tryz.prog w=.ok (some (277,a,150)) w:=by kernel_rfl
theorem as_isNilP (a p:Addr) (W:World) (ha:W.cell? a=some (.pointer (some p))) :
  (ReflectliteValue.method (ReflectliteValue.valueError "reflectlite.Value.IsNil" 0) ReflectliteValue.isNil #[.agg #[.pointer (some ⟨3,277,none⟩),.pointer (some a),.int .u64 150]]).run Tryz.prog W=.ok (.bool false) W:=by
 rw [as_rlm]
 simp only [Sem.run_bind,as_partsP,Result.andThen]
 simp [ReflectliteValue.isNil,loadVar,isAgg,underlying,Tryz.underlying277,ha,Result.andThen]

theorem as_methodElem (h:Value) (w:World):(Go.method 515 340 (.agg #[h]) "Elem").run Tryz.prog w=.ok (345,.agg #[h]) w:=by kernel_rfl
theorem as_methodImplements (h:Value) (w:World):(Go.method 515 340 (.agg #[h]) "Implements").run Tryz.prog w=.ok (346,.agg #[h]) w:=by kernel_rfl
theorem as_methodAssignableTo (h:Value) (w:World):(Go.method 515 340 (.agg #[h]) "AssignableTo").run Tryz.prog w=.ok (343,.agg #[h]) w:=by kernel_rfl
theorem as_elemP (w:World):(ReflectliteType.method ReflectliteType.elem #[.agg #[.pointer (some ⟨3,277,none⟩)]]).run Tryz.prog w=.ok (.iface 340 (.agg #[.pointer (some ⟨3,275,none⟩)])) w:=by kernel_rfl
theorem as_implementsC (w:World):(ReflectliteType.relation "Implements" ReflectliteType.implements_ #[.agg #[.pointer (some ⟨3,275,none⟩)],.iface 340 (.agg #[.pointer (some ⟨3,212,none⟩)])]).run Tryz.prog w=.ok (.bool true) w:=by kernel_rfl
theorem as_typeOfC (v:Value) (w:World):(ReflectliteType.typeOf #[.iface 275 v]).run Tryz.prog w=.ok (.iface 340 (.agg #[.pointer (some ⟨3,275,none⟩)])) w:=by kernel_rfl
theorem as_assignableC (w:World):(ReflectliteType.relation "AssignableTo" ReflectliteType.assignableTo #[.agg #[.pointer (some ⟨3,275,none⟩)],.iface 340 (.agg #[.pointer (some ⟨3,275,none⟩)])]).run Tryz.prog w=.ok (.bool true) w:=by kernel_rfl
theorem as_valueOfC (x y:Value) (w:World):(ReflectliteValue.unpack (.iface 275 (.agg #[x,y]))).run Tryz.prog w
  = .ok (.agg #[.pointer (some ⟨3,275,none⟩),.pointer (some ⟨w.heap.size,0,none⟩),.int .u64 153]) (w.alloc (.cells #[x,y] 275)):=by kernel_rfl

theorem as_elemOfP (w:World):(Rtype.elem? 277).run Tryz.prog w=.ok (some 275) w:=by kernel_rfl
theorem as_mkC (p:Addr) (w:World):(ReflectliteValue.mk 275 p ReflectliteValue.flagAddr).run Tryz.prog w=.ok (.agg #[.pointer (some ⟨3,275,none⟩),.pointer (some p),.int .u64 409]) w:=by kernel_rfl
theorem as_elemVP (a p:Addr) (W:World) (ha:W.cell? a=some (.pointer (some p))) :
  (ReflectliteValue.method (ReflectliteValue.valueError "reflectlite.Value.Elem" 0) ReflectliteValue.elem #[.agg #[.pointer (some ⟨3,277,none⟩),.pointer (some a),.int .u64 150]]).run Tryz.prog W
   = .ok (.agg #[.pointer (some ⟨3,275,none⟩),.pointer (some p),.int .u64 409]) W:=by
 rw [as_rlm]
 simp only [Sem.run_bind,as_partsP,Result.andThen]
 simp [ReflectliteValue.elem,loadVar,isAgg,underlying,Tryz.underlying277,ha,Result.andThen,as_elemOfP,as_mkC]
theorem as_rls (v x:Value):ReflectliteValue.set #[v,x]=(do
  let (some (dst,a,fl),some (src,b,_)):=(← ReflectliteValue.parts v,← ReflectliteValue.parts x)
   | unsupported (.noEntry "extern/(internal/reflectlite.Value).Set.zeroValue")
  if fl / ReflectliteValue.flagAddr % 2 == 0 then unsupported (.noEntry "extern/(internal/reflectlite.Value).Set.unaddressable")
  let val ← loadVar src b
  if ← Rtype.directlyAssignable dst src then storeVar dst a val
  else if ← Rtype.implements dst src then
   if (← Rtype.kind src) == 20 then
    match val with
    | .nilIface=>unsupported (.noEntry "extern/reflectlite: a nil value of one interface type handed on as a value of another")
    | _=>storeVar dst a val
   else storeVar dst a (.iface src val)
  else panicString ("reflectlite.Set: value of type "++(← Rtype.spelt src)++" is not assignable to type "++(← Rtype.spelt dst))
  pure (.tuple #[])):=rfl
theorem as_partsCa (a:Addr) (w:World):(ReflectliteValue.parts (.agg #[.pointer (some ⟨3,275,none⟩),.pointer (some a),.int .u64 409])).run Tryz.prog w=.ok (some (275,a,409)) w:=by kernel_rfl
theorem as_partsC (a:Addr) (w:World):(ReflectliteValue.parts (.agg #[.pointer (some ⟨3,275,none⟩),.pointer (some a),.int .u64 153])).run Tryz.prog w=.ok (some (275,a,153)) w:=by kernel_rfl
theorem as_directC (w:World):(Rtype.directlyAssignable 275 275).run Tryz.prog w=.ok true w:=by kernel_rfl
theorem as_infoC:(Tryz.prog.info? 275).map (·.size)=some 2:=by kernel_rfl
theorem as_setC (tb b:Nat) (x y:Int) (old:Array Value) (tt ts:TypeId) (W:World) (hb:W.heap[b]?=some (.cells #[.int .i64 x,.int .i64 y] ts (0,0))) (ht:W.heap[tb]?=some (.cells old tt (0,0))) (ho:old.size=2) :
  (ReflectliteValue.set #[.agg #[.pointer (some ⟨3,275,none⟩),.pointer (some ⟨tb,0,none⟩),.int .u64 409],.agg #[.pointer (some ⟨3,275,none⟩),.pointer (some ⟨b,0,none⟩),.int .u64 153]]).run Tryz.prog W
   = .ok (.tuple #[]) (W.setRow tb #[.int .i64 x,.int .i64 y]):=by
 have h1:=run_loadVar_row (P:=Tryz.prog) W b ts 275 #[.int .i64 x,.int .i64 y] (0,0) _ hb Tryz.underlying275 rfl as_infoC
 have h2:=run_storeVar_row (P:=Tryz.prog) W tb tt 275 old #[.int .i64 x,.int .i64 y] ht as_infoC (by simpa using ho) (by simp;exact ⟨rfl,rfl⟩)
 rw [as_rls]
 simp only [Sem.run_bind,as_partsCa,as_partsC,Result.andThen]
 simp [ReflectliteValue.flagAddr,h1,as_directC,h2,Result.andThen]


def ErrType (w:World):Prop:=w.cell? ⟨2,0,none⟩=some (.iface 340 (.agg #[.pointer (some ⟨3,212,none⟩)]))
theorem ErrType.lt {w:World} (h:ErrType w):2<w.heap.size:=by
 rcases Nat.lt_or_ge 2 w.heap.size with h' | h'
 ·exact h'
 ·unfold ErrType at h;simp [World.cell?,Array.getElem?_eq_none h'] at h
theorem ErrType.below {w w':World} (h:ErrType w) (hb:Below w.heap.size w w'):ErrType w':=by
 have hl:=h.lt
 unfold ErrType at h ⊢
 rw [hb.cell (p:=⟨2,0,none⟩) hl]
 exact h

theorem as_hit (tb:Nat) (x y:Int) (old:Array Value) (tt:TypeId) (w:World) (hE:ErrType w) (ht:w.heap[tb]?=some (.cells old tt (0,0))) (ho:old.size=2) :
  Calls Tryz.prog 213 #[.iface 275 (.agg #[.int .i64 x,.int .i64 y]),.iface 277 (.pointer (some ⟨tb,0,none⟩))] w fun ev w'=>ev=.returned (.bool true) ∧
   w'=((((w.alloc (.cells #[.pointer (some ⟨tb,0,none⟩)] 277)).alloc (.cells #[.pointer (some ⟨3,277,none⟩),.pointer (some ⟨w.heap.size,0,none⟩),.int .u64 150] 314)).alloc (.cells #[.pointer (some ⟨3,277,none⟩),.pointer (some ⟨w.heap.size,0,none⟩),.int .u64 150] 314)).alloc (.cells #[.int .i64 x,.int .i64 y] 275)).setRow tb #[.int .i64 x,.int .i64 y]:=by
 have h6:=@run_callFunc_extern Tryz.prog 244 _ (fun args=>ReflectliteValue.unpack (args.getD 0 (.tuple #[]))) Tryz.func244 (by kernel_rfl) (by kernel_rfl) (by kernel_rfl) (by kernel_rfl)
 have h7:=@run_callFunc_extern Tryz.prog 245 _ (ReflectliteValue.methodAny (ReflectliteValue.valueError "reflectlite.Value.Type" 0) (fun t _ _ _=>ReflectliteType.toType t)) Tryz.func245 (by kernel_rfl) (by kernel_rfl) (by kernel_rfl) (by kernel_rfl)
 have h8:=@run_callFunc_extern Tryz.prog 246 _ (ReflectliteValue.method (ReflectliteValue.valueError "reflectlite.Value.IsNil" 0) ReflectliteValue.isNil) Tryz.func246 (by kernel_rfl) (by kernel_rfl) (by kernel_rfl) (by kernel_rfl)
 have h27:=@run_callFunc_extern Tryz.prog 325 _ (ReflectliteType.abiMethod fun t=>do pure (.int .u8 (← Rtype.kind t))) Tryz.func325 (by kernel_rfl) (by kernel_rfl) (by kernel_rfl) (by kernel_rfl)
 have h37:=@run_callFunc_extern Tryz.prog 345 _ (ReflectliteType.method ReflectliteType.elem) Tryz.func345 (by kernel_rfl) (by kernel_rfl) (by kernel_rfl) (by kernel_rfl)
 have h38:=@run_callFunc_extern Tryz.prog 346 _ (ReflectliteType.relation "Implements" ReflectliteType.implements_) Tryz.func346 (by kernel_rfl) (by kernel_rfl) (by kernel_rfl) (by kernel_rfl)
 have h10:=@run_callFunc_extern Tryz.prog 264 _ ReflectliteType.typeOf Tryz.func264 (by kernel_rfl) (by kernel_rfl) (by kernel_rfl) (by kernel_rfl)
 have h35:=@run_callFunc_extern Tryz.prog 343 _ (ReflectliteType.relation "AssignableTo" ReflectliteType.assignableTo) Tryz.func343 (by kernel_rfl) (by kernel_rfl) (by kernel_rfl) (by kernel_rfl)
 have h11:=@run_callFunc_extern Tryz.prog 265 _ (ReflectliteValue.method (ReflectliteValue.valueError "reflectlite.Value.Elem" 0) ReflectliteValue.elem) Tryz.func265 (by kernel_rfl) (by kernel_rfl) (by kernel_rfl) (by kernel_rfl)
 have h12:=@run_callFunc_extern Tryz.prog 266 _ ReflectliteValue.set Tryz.func266 (by kernel_rfl) (by kernel_rfl) (by kernel_rfl) (by kernel_rfl)
 have tO:=as_typeOfC
 have mA:=as_methodAssignableTo
 have a25:=as_assignableC
 have v25:=as_valueOfC
 have f6:=as_valueOfP
 have f7:=as_typeP
 have mK:=as_methodKind
 have mE:=as_methodElem
 have mI:=as_methodImplements
 have k27:=as_kindP
 have k25:=as_kindC
 have e27:=as_elemP
 have i25:=as_implementsC
 have hlt:=hE.lt
 have htl:tb<w.heap.size:=(Array.getElem?_eq_some_iff.1 ht).1
 have n8:=as_isNilP ⟨w.heap.size,0,none⟩ ⟨tb,0,none⟩ ((w.alloc (.cells #[.pointer (some ⟨tb,0,none⟩)] 277)).alloc (.cells #[.pointer (some ⟨3,277,none⟩),.pointer (some ⟨w.heap.size,0,none⟩),.int .u64 150] 314)) (by simp)
 have hg2:((w.alloc (.cells #[.pointer (some ⟨tb,0,none⟩)] 277)).alloc (.cells #[.pointer (some ⟨3,277,none⟩),.pointer (some ⟨w.heap.size,0,none⟩),.int .u64 150] 314)).cell? ⟨2,0,none⟩=some (.iface 340 (.agg #[.pointer (some ⟨3,212,none⟩)])):=by
  rw [World.cell?_alloc_lt _ _ ⟨2,0,none⟩ (by simp<;>omega),World.cell?_alloc_lt _ _ ⟨2,0,none⟩ hlt];exact hE
 have el:=as_elemVP ⟨w.heap.size,0,none⟩ ⟨tb,0,none⟩ (((w.alloc (.cells #[.pointer (some ⟨tb,0,none⟩)] 277)).alloc (.cells #[.pointer (some ⟨3,277,none⟩),.pointer (some ⟨w.heap.size,0,none⟩),.int .u64 150] 314)).alloc (.cells #[.pointer (some ⟨3,277,none⟩),.pointer (some ⟨w.heap.size,0,none⟩),.int .u64 150] 314)) (by rw [World.cell?_alloc_lt _ _ ⟨w.heap.size,0,none⟩ (by simp;omega)];simp)
 have st:=as_setC tb (w.heap.size+1+1+1) x y old tt 275 ((((w.alloc (.cells #[.pointer (some ⟨tb,0,none⟩)] 277)).alloc (.cells #[.pointer (some ⟨3,277,none⟩),.pointer (some ⟨w.heap.size,0,none⟩),.int .u64 150] 314)).alloc (.cells #[.pointer (some ⟨3,277,none⟩),.pointer (some ⟨w.heap.size,0,none⟩),.int .u64 150] 314)).alloc (.cells #[.int .i64 x,.int .i64 y] 275))
  (by have:=heap_alloc_new (((w.alloc (.cells #[.pointer (some ⟨tb,0,none⟩)] 277)).alloc (.cells #[.pointer (some ⟨3,277,none⟩),.pointer (some ⟨w.heap.size,0,none⟩),.int .u64 150] 314)).alloc (.cells #[.pointer (some ⟨3,277,none⟩),.pointer (some ⟨w.heap.size,0,none⟩),.int .u64 150] 314)) (.cells #[.int .i64 x,.int .i64 y] 275);simpa using this)
  (by rw [Below.heap_alloc _ _ _ (by simp;omega),Below.heap_alloc _ _ _ (by simp;omega),Below.heap_alloc _ _ _ (by simp;omega),Below.heap_alloc _ _ _ htl];exact ht)
  ho
 clear ht hE
 go_enter Tryz.func213,Tryz.ntmps213
 go_wp2
 refine wp_loop_rounds 1 ?_
 rw [rounds_succ]
 go_wp2
 go_ret
 exact ⟨rfl,rfl⟩
end Go.Proofs.YtbdfbdbpjijcdaaGreatDoor
