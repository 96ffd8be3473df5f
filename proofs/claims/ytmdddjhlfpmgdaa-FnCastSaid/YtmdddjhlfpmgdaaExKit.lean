/- What the laws of exact answers share: helpers' contracts in one form. -/
import Derived.Test.YtmdddjhlfpmgdaaOrders
import Derived.Test.YtmdddjhlfpmgdaaWorkss
import Derived.Test.YtmdddjhlfpmgdaaInts
import Derived.Test.YtmdddjhlfpmgdaaOpens2
namespace Go.Proofs.Ytmdddjhlfpmgdaa
open Go.ChangeShapes Go.WideShapes Go.ChangeAt Go.RowKit
set_option linter.unusedVariables false
set_option linter.unusedSimpArgs false

theorem box1_0 (w : World) (o : Obj) : (w.alloc o).heap[w.heap.size]? = some o := heap_alloc_new w o
theorem box2_0 (w : World) (o p : Obj) : ((w.alloc o).alloc p).heap[w.heap.size]? = some o := (Below.heap_alloc _ _ _ (by simp)).trans (heap_alloc_new w o)
theorem box2_1 (w : World) (o p : Obj) : ((w.alloc o).alloc p).heap[w.heap.size + 1]? = some p := by
  have := heap_alloc_new (w.alloc o) p
  rwa [World.size_alloc] at this
theorem box3_0 (w : World) (o p q : Obj) : (((w.alloc o).alloc p).alloc q).heap[w.heap.size]? = some o := (Below.heap_alloc _ _ _ (by simp; omega)).trans (box2_0 w o p)
theorem box3_1 (w : World) (o p q : Obj) : (((w.alloc o).alloc p).alloc q).heap[w.heap.size + 1]? = some p := (Below.heap_alloc _ _ _ (by simp)).trans (box2_1 w o p)
theorem box3_2 (w : World) (o p q : Obj) : (((w.alloc o).alloc p).alloc q).heap[w.heap.size + 2]? = some q := by
  have := heap_alloc_new ((w.alloc o).alloc p) q
  rwa [World.size_alloc, World.size_alloc] at this

theorem own_far (v u : Value) (h : ∀ c, v.ownBlock = some c → u.ownBlock = some c → False) : v.ownBlock = none ∨ v.ownBlock ≠ u.ownBlock := by
  cases e : v.ownBlock with
  | none => exact .inl rfl
  | some k => exact .inr fun h' => h k e h'.symm

theorem OwnI.later {w w' : World} {B : Nat} {v : Value} {zs : List Int} (h : OwnI w B v zs) (hb : Below w.heap.size w w') : OwnI w' B v zs := h.below hb fun k e => (h.lt k e).2

theorem eqInt64S_same (a b : Value) (xs : List Int) (w : World) (ha : RdI w a xs) (hb : RdI w b xs) (lx : xs.length ≤ 4611686018427387904) :
    Calls Try.prog 23 #[a, b] w fun e w' => e = .returned (.bool true) ∧ Below w.heap.size w w' :=
  (eqInts_any a b xs xs w ha hb lx lx true (by simp)).mono fun e w' ⟨h, n, hw⟩ => ⟨h, by rw [hw]; exact ⟨rfl, rfl, rfl, Nat.le_refl _, fun _ _ => rfl⟩⟩
theorem toWorks_blw (q : Wk) (w : World) : Calls Try.prog 17 #[(.agg #[.int .i64 q.m, .int .i64 q.c, .int .i64 q.u])] w fun e w' => e = .returned (.agg #[.int .i64 q.m, .int .i64 q.c, .int .i64 q.u]) ∧ Below w.heap.size w w' :=
  (toWorks_any q w).mono fun e w' ⟨h, hw⟩ => ⟨h, by rw [hw]; go_grown⟩
theorem szOrderS_any (a : Option Addr) (n cap : Nat) (left : Int) (hl : 0 ≤ left) (hl2 : left ≤ 1099511627776) (hn : n ≤ 9223372036854775807) (w : World) :
    Calls Try.prog 11 #[.slice a n cap, .int .i64 left] w fun e w' => e = .returned (.int .i64 (if (n : Int) ≤ left then left - n else -1)) ∧ w = w' := by
  by_cases h : (n : Int) ≤ left
  · rw [if_pos h]
    have h1 : 0 ≤ left - n := by omega
    have h2 : IntKind.i64.wrap (left - n) = left - n := IntWalk.i64_in _ (by omega)
    go_enter Try.func11, Try.ntmps11
    go_wp2
    go_ret
    exact ⟨rfl, rfl⟩
  · rw [if_neg h]
    have h1 : left - n < 0 := by omega
    have h2 : IntKind.i64.wrap (left - n) = left - n := IntWalk.i64_in _ (by omega)
    go_enter Try.func11, Try.ntmps11
    go_wp2
    go_ret
    exact ⟨rfl, rfl⟩
end Go.Proofs.Ytmdddjhlfpmgdaa
