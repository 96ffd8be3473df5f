/- The blockers of one stack: the program's side. -/
import Derived.Test.YthfmmlpbflfpaacPileI
import Derived.Test.YthfmmlpbflfpaacSlI
import Derived.Test.YthfmmlpbflfpaacPutM
namespace Go.Proofs.Ythfmmlpbflfpaac
open Go.ChangeShapes Go.WideShapes Go.ChangeAt Go.RowKit
set_option linter.unusedVariables false
set_option linter.unusedSimpArgs false

/-- The numbers of a list, as they lie in a stack of four. -/
def In4 (t : List Int) (a b c d : Int) : Prop := ∀ (k : Nat) (x : Int), t[k]? = some x → [a, b, c, d][k]? = some x
theorem in4_pil (t : List Int) (h : t.length ≤ 4) : In4 t (t.getD 0 0) (t.getD 1 0) (t.getD 2 0) (t.getD 3 0) := by
  intro k x hk
  have hl := (List.getElem?_eq_some_iff.1 hk).1
  have e : t.getD k 0 = x := by rw [List.getD_eq_getElem?_getD, hk]; rfl
  have : k < 4 := by omega
  match k, this with
  | 0, _ => simpa using e
  | 1, _ => simpa using e
  | 2, _ => simpa using e
  | 3, _ => simpa using e
theorem In4.cell {t : List Int} {a b c d : Int} (h : In4 t a b c d) {w : World} {W : Nat} {n : Int} {ty : TypeId} (hW : w.heap[W]? = some (.cells #[.int .i64 a, .int .i64 b, .int .i64 c, .int .i64 d, .int .i64 n] ty (0, 0))) {k : Nat} {x : Int} (hk : t[k]? = some x) : w.cell? ⟨W, k, none⟩ = some (.int .i64 x) := by
  have e := h k x hk
  have hl := (List.getElem?_eq_some_iff.1 e).1
  simp only [List.length_cons, List.length_nil] at hl
  match k, hl with
  | 0, _ => obtain rfl : a = x := by simpa using e
            exact cell_of_row w W 0 _ ty _ hW
  | 1, _ => obtain rfl : b = x := by simpa using e
            exact cell_of_row w W 1 _ ty _ hW
  | 2, _ => obtain rfl : c = x := by simpa using e
            exact cell_of_row w W 2 _ ty _ hW
  | 3, _ => obtain rfl : d = x := by simpa using e
            exact cell_of_row w W 3 _ ty _ hW
theorem In4.rd {t : List Int} {a b c d : Int} (h : In4 t a b c d) {w : World} {W : Nat} {n : Int} {ty : TypeId} (hW : w.heap[W]? = some (.cells #[.int .i64 a, .int .i64 b, .int .i64 c, .int .i64 d, .int .i64 n] ty (0, 0))) {p : Nat} (hp : p ≤ t.length) : RdI w (.slice (some ⟨W, 0, none⟩) p 4) (t.take p) := by
  refine ⟨some ⟨W, 0, none⟩, 4, ?_, .inr ⟨W, 0, rfl, fun i x hi => ?_⟩⟩
  · rw [List.length_take, Nat.min_eq_left hp]
  · rw [Nat.zero_add]
    have hl := (List.getElem?_eq_some_iff.1 hi).1
    rw [List.length_take] at hl
    rw [List.getElem?_take_of_lt (by omega)] at hi
    exact h.cell hW hi
theorem low_least {t : List Int} (hb : ∀ x ∈ t, x ≤ 99) {k : Nat} (hk : k < t.length) : LeastOf (t.take (k + 1)) (low t (k + 1)) := by
  induction k with
  | zero =>
    obtain ⟨x, hx⟩ : ∃ x, t[0]? = some x := ⟨_, List.getElem?_eq_getElem hk⟩
    have := hb x (List.mem_of_getElem? hx)
    rw [low_succ hx, low_zero, Int.min_eq_right (by omega)]
    refine ⟨by rw [take_mem hx]; exact .inr rfl, fun y hy => ?_⟩
    rw [take_mem hx] at hy
    rcases hy with e | e
    · simp at e
    · omega
  | succ k ih =>
    obtain ⟨a, b⟩ := ih (by omega)
    obtain ⟨x, hx⟩ : ∃ x, t[k + 1]? = some x := ⟨_, List.getElem?_eq_getElem hk⟩
    rw [low_succ hx]
    refine ⟨?_, fun y hy => ?_⟩
    · rw [take_mem hx]
      rcases Int.le_total (low t (k + 1)) x with q | q
      · rw [Int.min_eq_left q]; exact .inl a
      · rw [Int.min_eq_right q]; exact .inr rfl
    · rw [take_mem hx] at hy
      rcases hy with e | e
      · have := b y e; omega
      · omega

theorem slice4 (w : World) (b o : Nat) (k : Nat) (z : Int) (hz : z = (k : Int)) (hk : k ≤ 4) : (Instr.sliceAt 50 (.pointer (some ⟨b, o, none⟩)) none (some (.int .i64 z)) none).run Try.prog w = .ok (.slice (some ⟨b, o, none⟩) k 4) w := by
  obtain ⟨i0, hi, hz0, hz1, hz2⟩ := info_parts info_i64
  have e1 : Try.prog.arrayLen 50 = 4 := by kernel_rfl
  have e2 : Try.prog.elem 50 = 2 := by kernel_rfl
  have e3 : Try.prog.underlying 50 = some (.array (Try.prog.arrayLen 50) (Try.prog.elem 50)) := by rw [e1, e2]; kernel_rfl
  subst hz
  rw [run_sliceAt_array_h w _ ⟨b, o, none⟩ e3 .i64 (k : Int) (by omega) (by rw [e1]; omega), e1, e2]
  simp [sizeOf, typeInfo, hi, hz1, Result.andThen, slicedAt, Int.toNat_natCast, Go.WideShapes.add_plain]

end Go.Proofs.Ythfmmlpbflfpaac
