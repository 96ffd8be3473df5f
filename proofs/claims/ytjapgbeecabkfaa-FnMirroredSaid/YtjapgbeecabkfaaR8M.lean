/- R8Machine draws a valid machine. -/
import Derived.Test.YtjapgbeecabkfaaDrawOk
namespace Go.Proofs.Ytjapgbeecabkfaa
open Go.ChangeShapes Go.WideShapes Go.ChangeAt Go.RowKit
set_option linter.unusedVariables false
set_option linter.unusedSimpArgs false

theorem rdB_lt {w : World} {v : Value} {zs : List Int} (h : RdB w v zs) (hz : zs ≠ []) (b : Nat) (hb : v.ownBlock = some b) : b < w.heap.size := by
  obtain ⟨a, cap, rfl, h2, -⟩ := h
  obtain ⟨b', off, rfl, h3⟩ := h2.resolve_left hz
  obtain ⟨x, xs, rfl⟩ := List.exists_cons_of_ne_nil hz
  have hlt := World.block_lt_of_cell? w _ (h3 0 x rfl)
  simp only [Value.ownBlock, Option.some.injEq] at hb
  subst hb
  exact hlt

set_option maxRecDepth 100000 in
set_option maxHeartbeats 4000000 in
theorem r8Machine_any (w : World) (v : Value) (zs : List Int) (h : RdB w v zs) (lz : zs.length ≤ 1099511627776) :
    Calls Try.prog 40 #[v] w fun e w' => ∃ m : Mc, OkM m ∧ e = .returned (.agg #[.int .i64 m.u.s, .int .i64 m.u.h, .int .i64 m.u.y, .int .i64 m.u.p, .int .i64 m.t.s, .int .i64 m.t.h, .int .i64 m.t.y, .int .i64 m.t.p, .int .i64 m.a]) ∧ Below w.heap.size w w' := by
  have HZ : Hid (RdB (w.alloc (.cells #[.int .i64 0, .int .i64 0, .int .i64 0, .int .i64 0, .int .i64 0, .int .i64 0, .int .i64 0, .int .i64 0, .int .i64 0] 29)) v zs) := h.later (Below.alloc (Below.refl _ _) (Nat.le_refl _) _)
  have R0 : Hid ((w.alloc (.cells #[.int .i64 0, .int .i64 0, .int .i64 0, .int .i64 0, .int .i64 0, .int .i64 0, .int .i64 0, .int .i64 0, .int .i64 0] 29)).heap[w.heap.size]? = some (.cells #[.int .i64 0, .int .i64 0, .int .i64 0, .int .i64 0, .int .i64 0, .int .i64 0, .int .i64 0, .int .i64 0, .int .i64 0] 29 (0, 0))) := heap_alloc_new _ _
  clear h
  go_enter Try.func40, Try.ntmps40
  go_wp2_with fail
  refine (from_any _ v zs HZ.out).mono ?_
  rintro e w1 ⟨rfl, s1, b1⟩
  have D1 : Hid (DSt w1 w1 (w.alloc (.cells #[.int .i64 0, .int .i64 0, .int .i64 0, .int .i64 0, .int .i64 0, .int .i64 0, .int .i64 0, .int .i64 0, .int .i64 0] 29)).heap.size v zs 0) := ⟨s1, ⟨rfl, rfl, rfl, Nat.le_refl _, fun _ _ _ => rfl⟩, s1.lt, fun hz b hb => rdB_lt (HZ.out.later b1) hz b hb⟩
  have R1 : Hid (w1.heap[w.heap.size]? = some (.cells #[.int .i64 0, .int .i64 0, .int .i64 0, .int .i64 0, .int .i64 0, .int .i64 0, .int .i64 0, .int .i64 0, .int .i64 0] 29 (0, 0))) := (b1.block _ (by simp)).trans R0.out
  have B1 : Hid (Below w.heap.size w w1) := Below.trans (by show Below _ _ _; go_grown) (b1.mono (by simp))
  obtain ⟨gs, hgs⟩ : ∃ gs, gs = (w.alloc (.cells #[.int .i64 0, .int .i64 0, .int .i64 0, .int .i64 0, .int .i64 0, .int .i64 0, .int .i64 0, .int .i64 0, .int .i64 0] 29)).heap.size := ⟨_, rfl⟩
  have lg : w.heap.size < gs := by rw [hgs]; simp
  rw [← hgs] at D1
  have hg' : gs = w.heap.size + 1 := by rw [hgs]; simp
  clear s1 b1 R0 HZ hgs
  go_wp2_with fail
  (first | rw [← hg'] | skip)
  refine (drawOk_any w1 gs v zs 0 lz (by omega) D1.out).mono ?_
  rintro e w2 ⟨m, ok, rfl, g2⟩
  have R2 : Hid (w2.heap[w.heap.size]? = some (.cells #[.int .i64 0, .int .i64 0, .int .i64 0, .int .i64 0, .int .i64 0, .int .i64 0, .int .i64 0, .int .i64 0, .int .i64 0] 29 (0, 0))) := (g2.block _ (Array.getElem?_eq_some_iff.1 R1.out).1 (by intro e; have := Option.some.inj e; omega)).trans R1.out
  have B2 : Hid (Below w.heap.size w w2) := B1.out.grown g2 B1.out.size (fun k hk => by have := Option.some.inj hk; omega)
  have OK := Lib.hid ok
  clear g2 D1 R1 B1 ok hg'
  go_wp2_with (first | (refine wpList_store_M rfl _ _ rfl (w.heap.size) (⟨⟨0, 0, 0, 0⟩, ⟨0, 0, 0, 0⟩, 0⟩ : Mc) m _ rfl rfl R2.out ?_; intro wE hE oE bE) | fail)
  have PE := Lib.hid hE
  have BE : Hid (Below w.heap.size w wE) := B2.out.trans bE
  clear hE oE bE
  obtain ⟨⟨g0, g1, g2, g3, g4, g5, g6, g7, g8⟩, -, -⟩ := boxMc_at (q := m) PE.out
  go_wp2
  refine bodyPost_ret (v := (.agg #[.int .i64 m.u.s, .int .i64 m.u.h, .int .i64 m.u.y, .int .i64 m.u.p, .int .i64 m.t.s, .int .i64 m.t.h, .int .i64 m.t.y, .int .i64 m.t.p, .int .i64 m.a])) (by simp [results, Try.results40, go_sem, g0, g1, g2, g3, g4, g5, g6, g7, g8]; try rfl) rfl ⟨m, OK.out, rfl, BE.out⟩
end Go.Proofs.Ytjapgbeecabkfaa
