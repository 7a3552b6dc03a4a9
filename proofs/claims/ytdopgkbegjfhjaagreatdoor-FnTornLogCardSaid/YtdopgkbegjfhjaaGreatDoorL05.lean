/-
  Joined: As.
-/
import Derived.Test.YtdopgkbegjfhjaaGreatDoorProg
import Derived.Deep.RegionHeld3
import Derived.KernelRfl
import Derived.Tactics
import Derived.WalkKit
import Derived.WalkSpells
import Derived.WalkLawsBesides
import Derived.LaidEql
import Derived.Stop.Asserts
import Derived.RowKitTokens
import Derived.Laws.CopyOwn

namespace Go.Proofs.YtdopgkbegjfhjaaGreatDoor
set_option maxRecDepth 100000
set_option maxHeartbeats 16000000
open Go.RowKit Go.Extern.Stop Go.Stop Go.Extern

theorem as_nil (t:Value) (w:World) :
  Calls Tryz.prog 151 #[.nilIface,t] w fun e w'=>e=.returned (.bool false)∧w=w':=by
 go_enter Tryz.func151,Tryz.ntmps151
 go_wp2
 go_ret
 exact ⟨rfl,rfl⟩

theorem as_valueOfP (t:Addr) (w:World):(ReflectliteValue.unpack (.iface 191 (.pointer (some t)))).run Tryz.prog w
  = .ok (.agg #[.pointer (some ⟨5,191,none⟩),.pointer (some ⟨w.heap.size,0,none⟩),.int .u64 150]) (w.alloc (.cells #[.pointer (some t)] 191)):=by kernel_rfl
theorem as_typeP (a:Addr) (w:World):(ReflectliteValue.methodAny (ReflectliteValue.valueError "reflectlite.Value.Type" 0) (fun t _ _ _=>ReflectliteType.toType t) #[.agg #[.pointer (some ⟨5,191,none⟩),.pointer (some a),.int .u64 150]]).run Tryz.prog w
  = .ok (.iface 225 (.agg #[.pointer (some ⟨5,191,none⟩)])) w:=by kernel_rfl
theorem as_methodKind (h:Value) (w:World):(Go.method 370 225 (.agg #[h]) "Kind").run Tryz.prog w=.ok (192,h) w:=by kernel_rfl
theorem as_kindP (w:World):((ReflectliteType.abiMethod fun t=>(fun a:Nat=>Value.int IntKind.u8 (a:Int)) <$> Rtype.kind t) #[.pointer (some ⟨5,191,none⟩)]).run Tryz.prog w=.ok (.int .u8 22) w:=by kernel_rfl
theorem as_kindC (w:World):((ReflectliteType.abiMethod fun t=>(fun a:Nat=>Value.int IntKind.u8 (a:Int)) <$> Rtype.kind t) #[.pointer (some ⟨5,189,none⟩)]).run Tryz.prog w=.ok (.int .u8 25) w:=by kernel_rfl

theorem as_rlm (z:Sem Value) (f:TypeId→Addr→Nat→Nat→Sem Value) (v:Value) :
  ReflectliteValue.method z f #[v]=(do match ← ReflectliteValue.parts v with | none=>z | some (t,a,fl)=>f t a fl (fl % 32)):=rfl
theorem as_partsP (a:Addr) (w:World):(ReflectliteValue.parts (.agg #[.pointer (some ⟨5,191,none⟩),.pointer (some a),.int .u64 150])).run Tryz.prog w=.ok (some (191,a,150)) w:=by kernel_rfl
theorem as_isNilP (a p:Addr) (W:World) (ha:W.cell? a=some (.pointer (some p))) :
  (ReflectliteValue.method (ReflectliteValue.valueError "reflectlite.Value.IsNil" 0) ReflectliteValue.isNil #[.agg #[.pointer (some ⟨5,191,none⟩),.pointer (some a),.int .u64 150]]).run Tryz.prog W=.ok (.bool false) W:=by
 rw [as_rlm]
 simp only [Sem.run_bind,as_partsP,Result.andThen]
 simp [ReflectliteValue.isNil,loadVar,isAgg,underlying,Tryz.underlying191,ha,Result.andThen]

theorem as_methodElem (h:Value) (w:World):(Go.method 370 225 (.agg #[h]) "Elem").run Tryz.prog w=.ok (206,.agg #[h]) w:=by kernel_rfl
theorem as_methodImplements (h:Value) (w:World):(Go.method 370 225 (.agg #[h]) "Implements").run Tryz.prog w=.ok (207,.agg #[h]) w:=by kernel_rfl
theorem as_methodAssignableTo (h:Value) (w:World):(Go.method 370 225 (.agg #[h]) "AssignableTo").run Tryz.prog w=.ok (204,.agg #[h]) w:=by kernel_rfl
theorem as_elemP (w:World):(ReflectliteType.method ReflectliteType.elem #[.agg #[.pointer (some ⟨5,191,none⟩)]]).run Tryz.prog w=.ok (.iface 225 (.agg #[.pointer (some ⟨5,189,none⟩)])) w:=by kernel_rfl
theorem as_implementsC (w:World):(ReflectliteType.relation "Implements" ReflectliteType.implements_ #[.agg #[.pointer (some ⟨5,189,none⟩)],.iface 225 (.agg #[.pointer (some ⟨5,163,none⟩)])]).run Tryz.prog w=.ok (.bool true) w:=by kernel_rfl
theorem as_typeOfC (v:Value) (w:World):(ReflectliteType.typeOf #[.iface 189 v]).run Tryz.prog w=.ok (.iface 225 (.agg #[.pointer (some ⟨5,189,none⟩)])) w:=by kernel_rfl
theorem as_assignableC (w:World):(ReflectliteType.relation "AssignableTo" ReflectliteType.assignableTo #[.agg #[.pointer (some ⟨5,189,none⟩)],.iface 225 (.agg #[.pointer (some ⟨5,189,none⟩)])]).run Tryz.prog w=.ok (.bool true) w:=by kernel_rfl
theorem as_valueOfC (x y:Value) (w:World):(ReflectliteValue.unpack (.iface 189 (.agg #[x,y]))).run Tryz.prog w
  = .ok (.agg #[.pointer (some ⟨5,189,none⟩),.pointer (some ⟨w.heap.size,0,none⟩),.int .u64 153]) (w.alloc (.cells #[x,y] 189)):=by kernel_rfl

theorem as_elemOfP (w:World):(Rtype.elem? 191).run Tryz.prog w=.ok (some 189) w:=by kernel_rfl
theorem as_mkC (p:Addr) (w:World):(ReflectliteValue.mk 189 p ReflectliteValue.flagAddr).run Tryz.prog w=.ok (.agg #[.pointer (some ⟨5,189,none⟩),.pointer (some p),.int .u64 409]) w:=by kernel_rfl
theorem as_elemVP (a p:Addr) (W:World) (ha:W.cell? a=some (.pointer (some p))) :
  (ReflectliteValue.method (ReflectliteValue.valueError "reflectlite.Value.Elem" 0) ReflectliteValue.elem #[.agg #[.pointer (some ⟨5,191,none⟩),.pointer (some a),.int .u64 150]]).run Tryz.prog W
   = .ok (.agg #[.pointer (some ⟨5,189,none⟩),.pointer (some p),.int .u64 409]) W:=by
 rw [as_rlm]
 simp only [Sem.run_bind,as_partsP,Result.andThen]
 simp [ReflectliteValue.elem,loadVar,isAgg,underlying,Tryz.underlying191,ha,Result.andThen,as_elemOfP,as_mkC]
theorem as_rls (v x:Value):ReflectliteValue.set #[v,x]=(do
  let (some (dst,a,fl),some (src,b,_)):=(← ReflectliteValue.parts v,← ReflectliteValue.parts x)
   | unsupported (.noEntry "extern/(internal/reflectlite.Value).Set.zeroValue")
  if fl / ReflectliteValue.flagAddr % 2 == 0 then unsupported (.noEntry "extern/(internal/reflectlite.Value).Set.unaddressable")
  let val ← loadVar src b
  if ← Rtype.directlyAssignable dst src then storeVar dst a val
  else if ← Rtype.implements dst src then
   if (← Rtype.kind src) == 20 then
    match val with
    | .nilIface=>unsupported (.noEntry "extern/reflectlite: a nil value of one interface type handed on as a value of another")
    | _=>storeVar dst a val
   else storeVar dst a (.iface src val)
  else panicString ("reflectlite.Set: value of type "++(← Rtype.spelt src)++" is not assignable to type "++(← Rtype.spelt dst))
  pure (.tuple #[])):=rfl
theorem as_partsCa (a:Addr) (w:World):(ReflectliteValue.parts (.agg #[.pointer (some ⟨5,189,none⟩),.pointer (some a),.int .u64 409])).run Tryz.prog w=.ok (some (189,a,409)) w:=by kernel_rfl
theorem as_partsC (a:Addr) (w:World):(ReflectliteValue.parts (.agg #[.pointer (some ⟨5,189,none⟩),.pointer (some a),.int .u64 153])).run Tryz.prog w=.ok (some (189,a,153)) w:=by kernel_rfl
theorem as_directC (w:World):(Rtype.directlyAssignable 189 189).run Tryz.prog w=.ok true w:=by kernel_rfl
theorem as_infoC:(Tryz.prog.info? 189).map (·.size)=some 2:=by kernel_rfl
theorem as_setC (tb b:Nat) (x y:Int) (old:Array Value) (tt ts:TypeId) (W:World) (hb:W.heap[b]?=some (.cells #[.int .i64 x,.int .i64 y] ts (0,0))) (ht:W.heap[tb]?=some (.cells old tt (0,0))) (ho:old.size=2) :
  (ReflectliteValue.set #[.agg #[.pointer (some ⟨5,189,none⟩),.pointer (some ⟨tb,0,none⟩),.int .u64 409],.agg #[.pointer (some ⟨5,189,none⟩),.pointer (some ⟨b,0,none⟩),.int .u64 153]]).run Tryz.prog W
   = .ok (.tuple #[]) (W.setRow tb #[.int .i64 x,.int .i64 y]):=by
 have h1:=run_loadVar_row (P:=Tryz.prog) W b ts 189 #[.int .i64 x,.int .i64 y] (0,0) _ hb Tryz.underlying189 rfl as_infoC
 have h2:=run_storeVar_row (P:=Tryz.prog) W tb tt 189 old #[.int .i64 x,.int .i64 y] ht as_infoC (by simpa using ho) (by simp;exact ⟨rfl,rfl⟩)
 rw [as_rls]
 simp only [Sem.run_bind,as_partsCa,as_partsC,Result.andThen]
 simp [ReflectliteValue.flagAddr,h1,as_directC,h2,Result.andThen]
end Go.Proofs.YtdopgkbegjfhjaaGreatDoor
