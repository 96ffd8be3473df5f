/- HeadText on both sides. -/
import Derived.Test.YtgockhlainnnnabDoorHeadT
namespace Go.Proofs.YtgockhlainnnnabDoor
open Go.ChangeShapes Go.WideShapes Go.ChangeAt Go.RowKit
set_option linter.unusedVariables false
set_option linter.unusedSimpArgs false

set_option maxRecDepth 100000 in
set_option maxHeartbeats 4000000 in
theorem specHeadText_any (g : Hd) (n0 n1 n2 : Nat) (w : World) (hr : RdHd w n0 n1 n2 g) (l0 : n0 ≤ 1048576) (l1 : n1 ≤ 1048576) (l2 : n2 ≤ 1048576) (t : ByteArray) (b : Bool) (ht : HeadTextOf g t b) :
    Calls Tryd.prog 15 #[(.agg #[.slice g.ca n0 g.cc, .slice g.ha n1 g.hc, .slice g.sa n2 g.sc, .int .i64 g.p, .int .i64 g.q])] w fun e w' => e = .returned (.tuple #[.string t, .bool b]) ∧ Below w.heap.size w w' := by
  obtain ⟨b1, h1⟩ := ok_boolS (OkHd g)
  have C := Lib.hid (fun (w : World) hG hr => l08Is_any w.heap.size 32 g n0 n1 n2 (w.alloc (.cells #[.slice g.ca n0 g.cc, .slice g.ha n1 g.hc, .slice g.sa n2 g.sc, .int .i64 g.p, .int .i64 g.q] 32)) hG hr l0 l1 l2 b1 h1)
  have C3 := Lib.hid (fun G w hG hr h => l08Text_any G 32 g n0 n1 n2 w hG hr h)
  have H := Lib.hid hr
  have H1 := Lib.hid h1
  have HTX := Lib.hid ht
  clear hr h1 ht
  go_enter Tryd.func15, Tryd.ntmps15
  go_wp2_with fail
  refine (C.out _ (heap_alloc_new w _) (H.out.later (by go_grown))).mono ?_
  rintro e w1 ⟨rfl, q, rfl⟩
  have B1 : Hid (Below w.heap.size w ((w.alloc (.cells #[.slice g.ca n0 g.cc, .slice g.ha n1 g.hc, .slice g.sa n2 g.sc, .int .i64 g.p, .int .i64 g.q] 32)).drewN q)) := Below.trans (show Below w.heap.size w (w.alloc _) by go_grown) ⟨rfl, rfl, rfl, Nat.le_refl _, fun _ _ => rfl⟩
  have N1 : Hid (((w.alloc (.cells #[.slice g.ca n0 g.cc, .slice g.ha n1 g.hc, .slice g.sa n2 g.sc, .int .i64 g.p, .int .i64 g.q] 32)).drewN q).heap[w.heap.size]? = some (.cells #[.slice g.ca n0 g.cc, .slice g.ha n1 g.hc, .slice g.sa n2 g.sc, .int .i64 g.p, .int .i64 g.q] 32 (0, 0))) := heap_alloc_new w _
  generalize (w.alloc (.cells #[.slice g.ca n0 g.cc, .slice g.ha n1 g.hc, .slice g.sa n2 g.sc, .int .i64 g.p, .int .i64 g.q] 32)).drewN q = w0 at *
  cases b1
  · obtain ⟨rfl, rfl⟩ : b = false ∧ t = ⟨#[]⟩ := by
      rcases HTX.out with h | h
      · have := H1.out.mpr h.2.1; simp at this
      · exact ⟨h.1, h.2.2⟩
    go_wp2
    go_ret2
    exact ⟨rfl, B1.out⟩
  have ok := H1.out.mp (by trivial)
  obtain ⟨rfl, rfl⟩ : b = true ∧ t = ⟨(textHd g).toArray⟩ := by
    rcases HTX.out with h | h
    · exact ⟨h.1, h.2.2⟩
    · exact absurd ok h.2.1
  have C4 := Lib.hid (C3.out _ w0 N1.out (H.out.later B1.out) ok.small)
  clear ok C C3 HTX
  go_wp2_with fail
  refine C4.out.mono ?_
  rintro e w4 ⟨rfl, b4⟩
  have B4 : Hid (Below w.heap.size w w4) := B1.out.trans (b4.mono B1.out.size)
  clear b4 B1 C4
  go_wp2
  go_ret2
  exact ⟨rfl, B4.out⟩

theorem headTextOf_same {g k : Hd} {t : ByteArray} {b : Bool} (h : HeadTextOf g t b) (e : g.same k) : HeadTextOf k t b := by
  rcases h with ⟨h1, h2, h3⟩ | ⟨h1, h2, h3⟩
  · exact .inl ⟨h1, h2.same e, by rw [h3, textHd_same e]⟩
  · exact .inr ⟨h1, fun h' => h2 (h'.same (Hd.same_symm e)), h3⟩

theorem exHeadText (g0 : Hd) (n0 n1 n2 : Nat) (e : n0 = g0.c.length ∧ n1 = g0.h.length ∧ n2 = g0.s.length) (lt : (n0 : Int) + (n1 : Int) + (n2 : Int) ≤ 1048576) : ∃ (t : ByteArray) (b : Bool),
    Hid (∀ (w : World) (k0 : Hd), TDec w → k0.same g0 → k0.caps n0 n1 n2 → RdHd w n0 n1 n2 k0 → Calls Tryd.prog 15 #[(.agg #[.slice k0.ca n0 k0.cc, .slice k0.ha n1 k0.hc, .slice k0.sa n2 k0.sc, .int .i64 k0.p, .int .i64 k0.q])] w fun e w' => e = .returned (.tuple #[.string t, .bool b]) ∧ Below w.heap.size w w') ∧
    Hid (∀ (w : World) (k0 : Hd), TDec w → k0.same g0 → k0.caps n0 n1 n2 → RdHd w n0 n1 n2 k0 → Calls Tryd.prog 16 #[(.agg #[.slice k0.ca n0 k0.cc, .slice k0.ha n1 k0.hc, .slice k0.sa n2 k0.sc, .int .i64 k0.p, .int .i64 k0.q])] w fun e w' => e = .returned (.tuple #[.string t, .bool b]) ∧ Below w.heap.size w w') := by
  obtain ⟨t, b, h⟩ : ∃ t b, HeadTextOf g0 t b := by
    by_cases h : OkHd g0
    · exact ⟨_, true, .inl ⟨rfl, h, rfl⟩⟩
    · exact ⟨_, false, .inr ⟨rfl, h, rfl⟩⟩
  exact ⟨t, b, fun w k _ hs _ hr => specHeadText_any k n0 n1 n2 w hr (by omega) (by omega) (by omega) t b (headTextOf_same h (Hd.same_symm hs)), fun w k hT hs _ hr => implHeadText_any k n0 n1 n2 w hT hr (by omega) (by omega) (by omega) t b (headTextOf_same h (Hd.same_symm hs))⟩
end Go.Proofs.YtgockhlainnnnabDoor
