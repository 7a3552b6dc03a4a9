
/-
  tellsB: which instructions tell a second number.
-/
import Derived.Test.YtkmnnmgopnoffaaDoorInstrI
namespace Go.Proofs.YtkmnnmgopnoffaaDoor
open Go.RowKit


theorem tb_shared (v : Value) (w : World) : (Instr.typeAssert (.iface 213 v) 191 216 true).run Tryd.prog w = .ok (.tuple #[.int .i64 0, .bool false]) w := by kernel_rfl
theorem tb_register (v : Value) (w : World) : (Instr.typeAssert (.iface 212 v) 191 216 true).run Tryd.prog w = .ok (.tuple #[.int .i64 0, .bool false]) w := by kernel_rfl
theorem tb_value (v : Value) (w : World) : (Instr.typeAssert (.iface 214 v) 191 216 true).run Tryd.prog w = .ok (.tuple #[.int .i64 0, .bool false]) w := by kernel_rfl
theorem tb_target (v : Value) (w : World) : (Instr.typeAssert (.iface 194 v) 191 216 true).run Tryd.prog w = .ok (.tuple #[.int .i64 0, .bool false]) w := by kernel_rfl
theorem tb_no (v : Value) (w : World) : (Instr.typeAssert (.iface 216 v) 191 216 true).run Tryd.prog w = .ok (.tuple #[v, .bool true]) w := by kernel_rfl
theorem tb_nil (w : World) : (Instr.typeAssert .nilIface 191 216 true).run Tryd.prog w = .ok (.tuple #[.int .i64 0, .bool false]) w := by kernel_rfl


end Go.Proofs.YtkmnnmgopnoffaaDoor
