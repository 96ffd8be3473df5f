/- Valid axes. -/
import Derived.Test.YthhnnkgfnhggbaaPoses
import Derived.Test.YthhnnkgfnhggbaaCurves
namespace Go.Proofs.Ythhnnkgfnhggbaa
open Go.ChangeShapes Go.WideShapes Go.ChangeAt Go.RowKit
set_option linter.unusedVariables false
set_option linter.unusedSimpArgs false

/-- The pose behind n rings with the same turn. -/
def runsP (p : Ps) (b s : Int) : Nat → Ps
  | 0 => p
  | n + 1 => runsP (stepP p b s) b s n

/-- All poses behind the first one of n rings with the same turn are valid. -/
def OkRun (p : Ps) (b s : Int) : Nat → Prop
  | 0 => True
  | n + 1 => OkP (stepP p b s) ∧ OkRun (stepP p b s) b s n

/-- The curves cs may follow n rings that end with the pose p. -/
def OkRest (p : Ps) (n : Int) : List Cv → Prop
  | [] => True
  | c :: cs => (1 ≤ c.r ∧ c.r ≤ 60 - n) ∧ (OkTurn c.b ∧ OkTurn c.s) ∧ OkRun p c.b c.s c.r.toNat ∧ OkRest (runsP p c.b c.s c.r.toNat) (n + c.r) cs

def OkA (q : Ps) (cs : List Cv) : Prop := OkP q ∧ (1 ≤ (cs.length : Int) ∧ (cs.length : Int) ≤ 8) ∧ OkRest q 0 cs

/-- A box of an axis. -/
theorem boxA_at {w : World} {g : Nat} {t : TypeId} {q : Ps} {v : Value} (h : w.heap[g]? = some (.cells #[.int .i64 q.s, .int .i64 q.h, .int .i64 q.y, .int .i64 q.p, v] t (0, 0))) :
    (w.cell? ⟨g, 0, none⟩ = some (.int .i64 q.s) ∧ w.cell? ⟨g, 1, none⟩ = some (.int .i64 q.h) ∧ w.cell? ⟨g, 2, none⟩ = some (.int .i64 q.y) ∧ w.cell? ⟨g, 3, none⟩ = some (.int .i64 q.p) ∧ w.cell? ⟨g, 4, none⟩ = some v) ∧ g < w.heap.size :=
  ⟨⟨cell_of_row w g 0 _ t _ h, cell_of_row w g 1 _ t _ h, cell_of_row w g 2 _ t _ h, cell_of_row w g 3 _ t _ h, cell_of_row w g 4 _ t _ h⟩, (Array.getElem?_eq_some_iff.1 h).1⟩

theorem RdS.at3 {w : World} {a : Option Addr} {n cap : Nat} {xs : List Cv} (h : RdS 3 encCv w (.slice a n cap) xs) (i : Nat) (x : Cv) (hx : xs[i]? = some x) :
    ∃ b off, a = some ⟨b, off, none⟩ ∧ w.cell? ⟨b, off + i * 3, none⟩ = some (.int .i64 x.r) ∧ w.cell? ⟨b, off + i * 3 + 1, none⟩ = some (.int .i64 x.b) ∧ w.cell? ⟨b, off + i * 3 + 2, none⟩ = some (.int .i64 x.s) := by
  obtain ⟨a', c', hv, h⟩ := h
  simp only [Value.slice.injEq] at hv
  obtain ⟨rfl, -, -⟩ := hv
  obtain ⟨b, off, rfl, h2⟩ := h.resolve_left (by intro e; rw [e] at hx; simp at hx)
  exact ⟨b, off, rfl, h2 i x hx 0 _ rfl, h2 i x hx 1 _ rfl, h2 i x hx 2 _ rfl⟩
end Go.Proofs.Ythhnnkgfnhggbaa
