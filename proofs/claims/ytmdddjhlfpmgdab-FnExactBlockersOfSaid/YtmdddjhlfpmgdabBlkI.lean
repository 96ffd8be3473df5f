/- The blockers of one stack: the program's side. -/
import Derived.Test.YtmdddjhlfpmgdabPileI
import Derived.Test.YtmdddjhlfpmgdabSlI
import Derived.Test.YtmdddjhlfpmgdabPutM
namespace Go.Proofs.Ytmdddjhlfpmgdab
open Go.ChangeShapes Go.WideShapes Go.ChangeAt Go.RowKit
set_option linter.unusedVariables false
set_option linter.unusedSimpArgs false

/-- The numbers of a list, as they lie in a stack of four. -/
def In4 (t : List Int) (a b c d : Int) : Prop := ∀ (k : Nat) (x : Int), t[k]? = some x → [a, b, c, d][k]? = some x
theorem in4_pil (t : List Int) (h : t.length ≤ 4) : In4 t (t.getD 0 0) (t.getD 1 0) (t.getD 2 0) (t.getD 3 0) := by
  intro k x hk
  have hl := (List.getElem?_eq_some_iff.1 hk).1
  have e : t.getD k 0 = x := by rw [List.getD_eq_getElem?_getD, hk]; rfl
  have : k < 4 := by omega
  match k, this with
  | 0, _ => simpa using e
  | 1, _ => simpa using e
  | 2, _ => simpa using e
  | 3, _ => simpa using e
theorem In4.cell {t : List Int} {a b c d : Int} (h : In4 t a b c d) {w : World} {W : Nat} {n : Int} {ty : TypeId} (hW : w.heap[W]? = some (.cells #[.int .i64 a, .int .i64 b, .int .i64 c, .int .i64 d, .int .i64 n] ty (0, 0))) {k : Nat} {x : Int} (hk : t[k]? = some x) : w.cell? ⟨W, k, none⟩ = some (.int .i64 x) := by
  have e := h k x hk
  have hl := (List.getElem?_eq_some_iff.1 e).1
  simp only [List.length_cons, List.length_nil] at hl
  match k, hl with
  | 0, _ => obtain rfl : a = x := by simpa using e
            exact cell_of_row w W 0 _ ty _ hW
  | 1, _ => obtain rfl : b = x := by simpa using e
            exact cell_of_row w W 1 _ ty _ hW
  | 2, _ => obtain rfl : c = x := by simpa using e
            exact cell_of_row w W 2 _ ty _ hW
  | 3, _ => obtain rfl : d = x := by simpa using e
            exact cell_of_row w W 3 _ ty _ hW
theorem In4.rd {t : List Int} {a b c d : Int} (h : In4 t a b c d) {w : World} {W : Nat} {n : Int} {ty : TypeId} (hW : w.heap[W]? = some (.cells #[.int .i64 a, .int .i64 b, .int .i64 c, .int .i64 d, .int .i64 n] ty (0, 0))) {p : Nat} (hp : p ≤ t.length) : RdI w (.slice (some ⟨W, 0, none⟩) p 4) (t.take p) := by
  refine ⟨some ⟨W, 0, none⟩, 4, ?_, .inr ⟨W, 0, rfl, fun i x hi => ?_⟩⟩
  · rw [List.length_take, Nat.min_eq_left hp]
  · rw [Nat.zero_add]
    have hl := (List.getElem?_eq_some_iff.1 hi).1
    rw [List.length_take] at hl
    rw [List.getElem?_take_of_lt (by omega)] at hi
    exact h.cell hW hi
theorem low_least {t : List Int} (hb : ∀ x ∈ t, x ≤ 99) {k : Nat} (hk : k < t.length) : LeastOf (t.take (k + 1)) (low t (k + 1)) := by
  induction k with
  | zero =>
    obtain ⟨x, hx⟩ : ∃ x, t[0]? = some x := ⟨_, List.getElem?_eq_getElem hk⟩
    have := hb x (List.mem_of_getElem? hx)
    rw [low_succ hx, low_zero, Int.min_eq_right (by omega)]
    refine ⟨by rw [take_mem hx]; exact .inr rfl, fun y hy => ?_⟩
    rw [take_mem hx] at hy
    rcases hy with e | e
    · simp at e
    · omega
  | succ k ih =>
    obtain ⟨a, b⟩ := ih (by omega)
    obtain ⟨x, hx⟩ : ∃ x, t[k + 1]? = some x := ⟨_, List.getElem?_eq_getElem hk⟩
    rw [low_succ hx]
    refine ⟨?_, fun y hy => ?_⟩
    · rw [take_mem hx]
      rcases Int.le_total (low t (k + 1)) x with q | q
      · rw [Int.min_eq_left q]; exact .inl a
      · rw [Int.min_eq_right q]; exact .inr rfl
    · rw [take_mem hx] at hy
      rcases hy with e | e
      · have := b y e; omega
      · omega

theorem slice4 (w : World) (b o : Nat) (k : Nat) (z : Int) (hz : z = (k : Int)) (hk : k ≤ 4) : (Instr.sliceAt 56 (.pointer (some ⟨b, o, none⟩)) none (some (.int .i64 z)) none).run Try.prog w = .ok (.slice (some ⟨b, o, none⟩) k 4) w := by
  obtain ⟨i0, hi, hz0, hz1, hz2⟩ := info_parts info_i64
  have e1 : Try.prog.arrayLen 56 = 4 := by kernel_rfl
  have e2 : Try.prog.elem 56 = 2 := by kernel_rfl
  have e3 : Try.prog.underlying 56 = some (.array (Try.prog.arrayLen 56) (Try.prog.elem 56)) := by rw [e1, e2]; kernel_rfl
  subst hz
  rw [run_sliceAt_array_h w _ ⟨b, o, none⟩ e3 .i64 (k : Int) (by omega) (by rw [e1]; omega), e1, e2]
  simp [sizeOf, typeInfo, hi, hz1, Result.andThen, slicedAt, Int.toNat_natCast, Go.WideShapes.add_plain]

set_option maxRecDepth 100000 in
set_option maxHeartbeats 8000000 in
theorem pBlk_any (a b c d : Int) (p : Nat) (t : List Int) (hp : p = t.length) (l4 : p ≤ 4) (h4 : In4 t a b c d) (hb : ∀ x ∈ t, x ≤ 99) (w : World) :
    Calls Try.prog 73 #[.agg #[.int .i64 a, .int .i64 b, .int .i64 c, .int .i64 d, .int .i64 p]] w fun e w' => ∃ u, e = .returned u ∧ OwnI w' w.heap.size u (blkTo t p) ∧ Below w.heap.size w w' := by
  obtain ⟨i0, hi, hz0, hz1, hz2⟩ := info_parts info_i64
  have HP := Lib.hid hp
  have H4 := Lib.hid h4
  have LS := Lib.hid (fun k (hk : k < p) => low_least hb (show k < t.length by omega))
  have S1 := Lib.hid (fun w b o => slice4 w b o p p rfl l4)
  have S1 := S1.out
  clear hp h4 hb
  go_enter Try.func73, Try.ntmps73
  have NB := Lib.hid (heap_alloc_new w (.cells #[.int .i64 a, .int .i64 b, .int .i64 c, .int .i64 d, .int .i64 p] 58))
  have BB : Hid (Below w.heap.size w (w.alloc (.cells #[.int .i64 a, .int .i64 b, .int .i64 c, .int .i64 d, .int .i64 p] 58))) := by show Below _ _ _; go_grown
  go_wp2
  go_loopw [3, 11] (fun ov iv wr => ∃ (k m c1 : Nat) (ad : Option Addr) (ys : List Int), k ≤ p ∧ m ≤ k ∧ iv = .int .i64 k ∧ ov = .slice ad m c1 ∧ Hid (m = ys.length) ∧ Hid (ys = blkTo t k) ∧ Hid (OwnI wr (w.heap.size + 1) (.slice ad m c1) ys) ∧ Hid (Below w.heap.size w wr) ∧ w.heap.size + 1 ≤ wr.heap.size ∧ Hid (wr.heap[w.heap.size]? = some (.cells #[.int .i64 a, .int .i64 b, .int .i64 c, .int .i64 d, .int .i64 p] 58 (0, 0)))) (fun _ iv _ => p - (intOf iv).toNat)
  case atStart => exact ⟨0, 0, 0, _, [], by omega, by omega, rfl, rfl, rfl, rfl, World.ownsRow_nil _ _ _ _, BB.out, by simp, NB.out⟩
  case round =>
    obtain ⟨k, m, c1, ad, ys, hk, mk, rfl, rfl, hm, hy, ho, B, zr, N⟩ := hrel
    clear BB NB
    by_cases hlt : k < p
    · obtain ⟨x, hx⟩ : ∃ x, t[k]? = some x := ⟨_, List.getElem?_eq_getElem (by have := HP.out; omega)⟩
      have e1 := H4.out.cell N.out hx
      have HX := Lib.hid hx
      have RM := Lib.hid (H4.out.rd N.out (show k + 1 ≤ t.length by have := HP.out; omega))
      have LE := Lib.hid (LS.out k hlt)
      have C := Lib.hid (min_any (some ⟨w.heap.size, 0, none⟩) 4 (k + 1) (t.take (k + 1)) wr (by rw [List.length_take]; have := HP.out; omega) (by omega) (by omega) RM.out _ LE.out)
      obtain ⟨lo, hlo⟩ : ∃ lo, lo = low t (k + 1) := ⟨_, rfl⟩
      have L2 : lo = min (low t k) x := by rw [hlo, low_succ hx]
      rw [← hlo] at C
      have S2 := fun w b o => slice4 w b o (k + 1) ((k : Int) + 1) (by omega) (by omega)
      clear hx hlo LE RM
      by_cases hl : lo < x
      · have Y2 : Hid (ys ++ [x] = blkTo t (k + 1)) := by show _ = _; rw [blkTo_yes HX.out (by omega), hy.out]
        have own := Lib.hid (own_len hm.out ho.out)
        have lgz := own.out.lt
        clear L2 hy ho
        go_wp2_with fail
        refine C.out.mono ?_
        rintro e w9 ⟨rfl, hw⟩
        obtain rfl : wr = w9 := hw
        go_wp2_with (at_builtin; refine wpList_append_lies _ rfl _ _ _ rfl (w.heap.size + 1) 2 i0 _ 1 8 Try.underlying31 hi hz0 hz1 hz2 rfl (by omega) _ _ _ rfl (own.out.alloc _) ⟨wr.heap.size, 0, none⟩ 1 1 [.int .i64 x] rfl rfl (World.news_of_block (cs := #[.int .i64 x]) (t := 2) (fr := (0, 0)) (heap_alloc_new wr _)) (by simp [Value.oneCell']) (by omega) (by unfold maxLen; omega) (by omega) (by simp only [World.size_alloc]; omega) _ rfl ?_)
        intro gg cap1 w5 hown1 hgrow hat hlt'
        have gb := grownBy_trans' (World.grownBy_alloc wr _ _) hgrow
        have B5 : Hid (Below w.heap.size w w5) := B.out.grown gb (by omega) (fun j e => by have := (lgz j e).1; omega)
        have N5 : Hid (w5.heap[w.heap.size]? = some (.cells #[.int .i64 a, .int .i64 b, .int .i64 c, .int .i64 d, .int .i64 p] 58 (0, 0))) := (((Below.refl (w.heap.size + 1) wr).grown gb (by omega) (fun j e => (lgz j e).1)).block w.heap.size (by omega)).trans N.out
        have z5 : w.heap.size + 1 ≤ w5.heap.size := by have := gb.size; omega
        have O5 := Lib.hid (own_of hm.out hown1)
        have M5 : Hid (m + 1 = (ys ++ [x]).length) := by show _ = _; rw [List.length_append, ← hm.out]; rfl
        clear hown1 hgrow hat hlt' own lgz gb B N e1 hm C S2
        go_wp2
        exact ⟨⟨k + 1, m + 1, cap1, _, _, by omega, by omega, by go_num, rfl, M5, Y2, O5, B5, z5, N5⟩, by simp only [intOf]; omega⟩
      · have Y2 : Hid (ys = blkTo t (k + 1)) := by show _ = _; rw [blkTo_no HX.out (by omega), hy.out]
        clear L2 hy
        go_wp2_with fail
        refine C.out.mono ?_
        rintro e w9 ⟨rfl, hw⟩
        obtain rfl : wr = w9 := hw
        clear e1 C S2
        go_wp2
        exact ⟨⟨k + 1, m, c1, _, _, by omega, by omega, by go_num, rfl, hm, Y2, ho, B, zr, N⟩, by simp only [intOf]; omega⟩
    · obtain rfl : k = p := by omega
      have O1 : Hid (OwnI wr (w.heap.size + 1) (.slice ad m c1) (blkTo t k)) := by have := ho.out; rwa [hy.out] at this
      clear ho
      go_wp2
      go_ret
      exact ⟨_, rfl, O1.out.mono (by omega), B.out⟩
end Go.Proofs.Ytmdddjhlfpmgdab
