/- Piles: the program's stacks as arrays. -/
import Derived.Test.YthfmmlpbflfpaacYardM
import Derived.Test.YthfmmlpbflfpaacExKit
import Derived.Test.YthfmmlpbflfpaacStorePl
import Derived.Laws.CopyOwn
namespace Go.Proofs.Ythfmmlpbflfpaac
open Go.ChangeShapes Go.WideShapes Go.ChangeAt Go.RowKit
set_option linter.unusedVariables false
set_option linter.unusedSimpArgs false

/-- A stack as a pile. -/
def pil (t : List Int) : Pl := ⟨t.getD 0 0, t.getD 1 0, t.getD 2 0, t.getD 3 0, t.length⟩
theorem splice_pil (t : List Int) (h : t.length ≤ 4) : (splice [.int .i64 0, .int .i64 0, .int .i64 0, .int .i64 0, .int .i64 (t.length : Int)] 0 (t.map (Value.int .i64))).toArray = #[.int .i64 (pil t).a, .int .i64 (pil t).b, .int .i64 (pil t).c, .int .i64 (pil t).d, .int .i64 (pil t).n] := by
  match t, h with
  | [], _ => rfl
  | [_], _ => rfl
  | [_, _], _ => rfl
  | [_, _, _], _ => rfl
  | [_, _, _, _], _ => rfl
/-- The topmost lot. -/
def topOf (t : List Int) : Int := t.getLastD (-1)

theorem info_i64c : (Try.prog.info? 2).map (fun i => i.size) = some 1 := by kernel_rfl

set_option maxRecDepth 100000 in
set_option maxHeartbeats 4000000 in
theorem pileOf_any (a : Option Addr) (m c : Nat) (t : List Int) (w : World) (h : RdI w (.slice a m c) t) (l4 : t.length ≤ 4) :
    Calls Try.prog 44 #[.slice a m c] w fun e w' => e = .returned (.agg #[.int .i64 (pil t).a, .int .i64 (pil t).b, .int .i64 (pil t).c, .int .i64 (pil t).d, .int .i64 (pil t).n]) ∧ Below w.heap.size w w' := by
  obtain ⟨a', c', e, h2⟩ := h
  simp only [Value.slice.injEq] at e
  obtain ⟨rfl, hm, rfl⟩ := e
  have m4 : m ≤ 4 := by omega
  have HM := Lib.hid hm
  have H2 := Lib.hid h2
  have SP := Lib.hid (splice_pil t l4)
  obtain ⟨p, hp⟩ : ∃ p, p = pil t := ⟨_, rfl⟩
  rw [← hp] at SP
  rw [← hp]
  rw [← hm] at SP
  clear h2 hm l4 hp
  go_enter Try.func44, Try.ntmps44
  go_upto_region 2 with (fail)
  have NR : Hid (((w.alloc (.cells #[.int .i64 0, .int .i64 0, .int .i64 0, .int .i64 0, .int .i64 0] 52)).alloc (.cells #[.int .i64 0, .int .i64 0, .int .i64 0, .int .i64 0, .int .i64 (m : Int)] 52)).heap[w.heap.size]? = some (.cells #[.int .i64 0, .int .i64 0, .int .i64 0, .int .i64 0, .int .i64 0] 52 (0, 0))) := box2_0 w _ _
  have NP : Hid (((w.alloc (.cells #[.int .i64 0, .int .i64 0, .int .i64 0, .int .i64 0, .int .i64 0] 52)).alloc (.cells #[.int .i64 0, .int .i64 0, .int .i64 0, .int .i64 0, .int .i64 (m : Int)] 52)).heap[w.heap.size + 1]? = some (.cells #[.int .i64 0, .int .i64 0, .int .i64 0, .int .i64 0, .int .i64 (m : Int)] 52 (0, 0))) := box2_1 w _ _
  have BB : Hid (Below w.heap.size w ((w.alloc (.cells #[.int .i64 0, .int .i64 0, .int .i64 0, .int .i64 0, .int .i64 0] 52)).alloc (.cells #[.int .i64 0, .int .i64 0, .int .i64 0, .int .i64 0, .int .i64 (m : Int)] 52))) := by show Below _ _ _; go_grown
  have zz : w.heap.size + 2 ≤ ((w.alloc (.cells #[.int .i64 0, .int .i64 0, .int .i64 0, .int .i64 0, .int .i64 0] 52)).alloc (.cells #[.int .i64 0, .int .i64 0, .int .i64 0, .int .i64 0, .int .i64 (m : Int)] 52)).heap.size := by simp
  generalize (w.alloc (.cells #[.int .i64 0, .int .i64 0, .int .i64 0, .int .i64 0, .int .i64 0] 52)).alloc (.cells #[.int .i64 0, .int .i64 0, .int .i64 0, .int .i64 0, .int .i64 (m : Int)] 52) = W2 at *
  have hn : (t.map (Value.int .i64)).length = Nat.min m 4 := by rw [List.length_map, ← HM.out]; exact (Nat.min_eq_left m4).symm
  have hpos : 0 < (t.map (Value.int .i64)).length → ∃ ad, a = some ad ∧ ∀ j v, (t.map (Value.int .i64))[j]? = some v → W2.cell? (ad.add j) = some v := by
    intro h0
    rw [List.length_map] at h0
    obtain ⟨b, off, e, h3⟩ := H2.out.resolve_left (by intro q; rw [q] at h0; simp at h0)
    refine ⟨⟨b, off, none⟩, e, fun j v hv => ?_⟩
    rw [List.getElem?_map] at hv
    obtain ⟨y, hy, rfl⟩ := Option.map_eq_some_iff.1 hv
    have k := h3 j y hy
    rw [Go.WideShapes.add_plain]
    exact (BB.out.cell (p := ⟨b, off + j, none⟩) (World.block_lt_of_cell? w ⟨b, off + j, none⟩ k)).trans k
  have HNn := Lib.hid hn
  have HP := Lib.hid hpos
  clear hn hpos
  go_wp2_with (first | (refine wpList_copy_splice rfl _ _ _ _ rfl 2 Try.underlying44 info_i64c _ _ _ _ _ _ rfl rfl (w.heap.size + 1) 0 [.int .i64 0, .int .i64 0, .int .i64 0, .int .i64 0, .int .i64 (m : Int)] 52 NP.out (t.map (Value.int .i64)) HNn.out (fun h => ⟨rfl, HP.out h⟩) (by rw [List.length_map, ← HM.out]; simp; omega) (by simp [Value.oneCell']) (w.heap.size + 1) W2 (Below.refl _ _) (Nat.le_refl _) ?_) | fail)
  intro w3 h3 b3
  have NP3 := h3.out
  rw [SP.out] at NP3
  have NP3h := Lib.hid NP3
  have NR3 := Lib.hid ((b3.block w.heap.size (by omega)).trans NR.out)
  have B3 : Hid (Below w.heap.size w w3) := BB.out.trans (b3.mono (by omega))
  have z3 : w.heap.size + 2 ≤ w3.heap.size := by have := b3.size; omega
  clear h3 b3 NP3 NR NP BB HP HNn zz SP
  obtain ⟨⟨p0, p1, p2, p3, p4⟩, -, -⟩ := boxPl_at NP3h.out
  go_wp2_with (first | (refine wpList_store_Pl rfl _ _ rfl w.heap.size ⟨0, 0, 0, 0, 0⟩ p _ rfl rfl NR3.out ?_; intro wE hE oE bE) | fail)
  obtain ⟨⟨r0, r1, r2, r3, r4⟩, -, -⟩ := boxPl_at hE
  go_wp2
  refine bodyPost_ret (v := (.agg #[.int .i64 p.a, .int .i64 p.b, .int .i64 p.c, .int .i64 p.d, .int .i64 p.n])) (by simp [results, Try.results44, go_sem, r0, r1, r2, r3, r4]; try rfl) rfl ?_
  exact ⟨rfl, B3.out.trans (bE.mono (Nat.le_refl _))⟩

set_option maxHeartbeats 4000000 in
theorem top_any (t : List Int) (l4 : t.length ≤ 4) (w : World) :
    Calls Try.prog 31 #[(.agg #[.int .i64 (pil t).a, .int .i64 (pil t).b, .int .i64 (pil t).c, .int .i64 (pil t).d, .int .i64 (pil t).n])] w fun e w' => e = .returned (.int .i64 (topOf t)) ∧ Below w.heap.size w w' := by
  match t, l4 with
  | [], _ =>
    show Calls Try.prog 31 #[.agg #[.int .i64 0, .int .i64 0, .int .i64 0, .int .i64 0, .int .i64 0]] w fun e w' => e = .returned (.int .i64 (-1)) ∧ Below w.heap.size w w'
    go_enter Try.func31, Try.ntmps31
    go_wp2
    go_ret
    exact ⟨rfl, by go_grown⟩
  | [x0], _ =>
    show Calls Try.prog 31 #[.agg #[.int .i64 x0, .int .i64 0, .int .i64 0, .int .i64 0, .int .i64 1]] w fun e w' => e = .returned (.int .i64 x0) ∧ Below w.heap.size w w'
    go_enter Try.func31, Try.ntmps31
    go_wp2
    go_ret
    exact ⟨rfl, by go_grown⟩
  | [x0, x1], _ =>
    show Calls Try.prog 31 #[.agg #[.int .i64 x0, .int .i64 x1, .int .i64 0, .int .i64 0, .int .i64 2]] w fun e w' => e = .returned (.int .i64 x1) ∧ Below w.heap.size w w'
    go_enter Try.func31, Try.ntmps31
    go_wp2
    go_ret
    exact ⟨rfl, by go_grown⟩
  | [x0, x1, x2], _ =>
    show Calls Try.prog 31 #[.agg #[.int .i64 x0, .int .i64 x1, .int .i64 x2, .int .i64 0, .int .i64 3]] w fun e w' => e = .returned (.int .i64 x2) ∧ Below w.heap.size w w'
    go_enter Try.func31, Try.ntmps31
    go_wp2
    go_ret
    exact ⟨rfl, by go_grown⟩
  | [x0, x1, x2, x3], _ =>
    show Calls Try.prog 31 #[.agg #[.int .i64 x0, .int .i64 x1, .int .i64 x2, .int .i64 x3, .int .i64 4]] w fun e w' => e = .returned (.int .i64 x3) ∧ Below w.heap.size w w'
    go_enter Try.func31, Try.ntmps31
    go_wp2
    go_ret
    exact ⟨rfl, by go_grown⟩
end Go.Proofs.Ythfmmlpbflfpaac
