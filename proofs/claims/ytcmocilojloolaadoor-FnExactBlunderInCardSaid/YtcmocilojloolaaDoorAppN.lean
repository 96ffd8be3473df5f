/- append of nothing. -/
import Derived.Test.YtcmocilojloolaaDoorInts
import Derived.Lib.AppendZeros
import Derived.Lib.LazyBuf
import Derived.Deep.AppendLies
namespace Go.Proofs.YtcmocilojloolaaDoor
open Go.ChangeShapes Go.WideShapes Go.ChangeAt Go.RowKit
set_option linter.unusedVariables false
set_option linter.unusedSimpArgs false

theorem run_append_nothing {P : Program} (w : World) (t ty e : TypeId) (i : TypeInfo) (ht : P.underlying t = some (.slice e)) (hi : P.info? e = some i) (s a : Option Addr) (m c c2 : Nat) (hm : m ≤ c) :
    (Builtin.append_ #[t, t] ty #[.slice s m c, .slice a 0 c2]).run P w = .ok (.slice s m c) w := by
  have l0 : ∀ a : Addr, loadCells a 0 = pure #[] := fun _ => rfl
  have s0 : ∀ a : Addr, storeCells a ((#[] : Array Value).toList) = pure () := fun _ => rfl
  have s1 : ∀ a : Addr, storeCells a [] = pure () := fun _ => rfl
  cases s <;> cases a <;> simp [Builtin.append_, run_underlying ht, sizeOf, typeInfo, hi, hm, Builtin.lenOf, Builtin.firstCells, l0, s0, s1]
end Go.Proofs.YtcmocilojloolaaDoor
