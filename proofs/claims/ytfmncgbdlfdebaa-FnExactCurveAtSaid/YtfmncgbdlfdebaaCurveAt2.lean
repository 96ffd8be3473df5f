/- CurveAt on both sides. -/
import Derived.Test.YtfmncgbdlfdebaaCurveAt
namespace Go.Proofs.Ytfmncgbdlfdebaa
open Go.ChangeShapes Go.WideShapes Go.ChangeAt Go.RowKit
set_option linter.unusedVariables false
set_option linter.unusedSimpArgs false

set_option maxRecDepth 100000 in
set_option maxHeartbeats 4000000 in
theorem implCurveAt_no (q : Ps) (v : Value) (cs : List Cv) (n : Int) (w : World) (hc : RdS 3 encCv w v cs) (lz : cs.length ≤ 1048576) (h : ¬ HasR q cs n) :
    Calls Try.prog 29 #[(.agg #[.int .i64 q.s, .int .i64 q.h, .int .i64 q.y, .int .i64 q.p, v]), .int .i64 n] w fun e w' => e = .returned (.tuple #[.int .i64 0, .int .i64 0, .bool false]) ∧ Below w.heap.size w w' := by
  have HC := Lib.hid hc
  obtain ⟨a, cap, rfl, _⟩ := hc
  by_cases ho : OkA q cs
  · have hp := Lib.hid ho.parts
    have c1 := Lib.hid (fun w (hr : RdS 3 encCv w (.slice a cs.length cap) cs) => implRingsOf_any q _ cs w hr lz (sumR cs) true ⟨fun _ => ho, fun _ => rfl⟩ (by simp))
    have q1 : IntKind.i64.wrap (sumR cs - 1) = sumR cs - 1 := IntWalk.i64_in _ (by have := hp.out; omega)
    have c2 := Lib.hid (fun w => within_any n 0 (sumR cs - 1) false ⟨fun e => (by cases e), fun e => absurd ⟨ho, e.1, by omega⟩ h⟩ w)
    clear ho h
    go_enter Try.func29, Try.ntmps29
    go_wp2_with fail
    refine (c1.out _ (HC.out.later (by go_grown))).mono ?_
    rintro e w1 ⟨rfl, b1⟩
    have B1 : Hid (Below w.heap.size w w1) := Below.trans (by go_grown) (b1.mono (by simp only [World.size_alloc]; omega))
    clear b1 c1
    go_wp2_with fail
    refine (c2.out _).mono ?_
    rintro e w1' ⟨rfl, rfl⟩
    go_wp2
    go_returns
    exact ⟨rfl, B1.out⟩
  · have c1 := Lib.hid (fun w (hr : RdS 3 encCv w (.slice a cs.length cap) cs) => implRingsOf_any q _ cs w hr lz 0 false ⟨fun e => (by cases e), fun e => absurd e ho⟩ (by simp))
    clear ho h
    go_enter Try.func29, Try.ntmps29
    go_wp2_with fail
    refine (c1.out _ (HC.out.later (by go_grown))).mono ?_
    rintro e w1 ⟨rfl, b1⟩
    have B1 : Hid (Below w.heap.size w w1) := Below.trans (by go_grown) (b1.mono (by simp only [World.size_alloc]; omega))
    clear b1 c1
    go_wp2
    go_returns
    exact ⟨rfl, B1.out⟩

set_option maxRecDepth 100000 in
set_option maxHeartbeats 4000000 in
theorem specCurveAt_yes (q : Ps) (v : Value) (cs : List Cv) (k : Nat) (w : World) (hc : RdS 3 encCv w v cs) (lz : cs.length ≤ 1048576) (h : HasR q cs k) (t : Cv) (ht : (turnsC cs)[k]? = some t) :
    Calls Try.prog 28 #[(.agg #[.int .i64 q.s, .int .i64 q.h, .int .i64 q.y, .int .i64 q.p, v]), .int .i64 k] w fun e w' => e = .returned (.tuple #[.int .i64 t.b, .int .i64 t.s, .bool true]) ∧ Below w.heap.size w w' := by
  have HC := Lib.hid hc
  obtain ⟨a, cap, rfl, _⟩ := hc
  obtain ⟨ho, h0, h1⟩ := h
  have H := Lib.hid ho
  have hp := Lib.hid ho.parts
  have HL := Lib.hid (turnsC_len cs hp.out.2.2.1)
  have HT := Lib.hid ht
  have HK := Lib.hid h1
  have q1 : IntKind.i64.wrap (sumR cs - 1) = sumR cs - 1 := IntWalk.i64_in _ (by have := hp.out; omega)
  have c2 := Lib.hid (fun w => in_any k 0 (sumR cs - 1) true ⟨fun _ => ⟨h0, by omega⟩, fun _ => rfl⟩ w)
  clear ho h0 h1 ht
  go_enter Try.func28, Try.ntmps28
  go_wp2_with fail
  refine (l02Is_any w.heap.size 39 q a cap cs _ (heap_alloc_new w _) (HC.out.later (by go_grown)) lz true ⟨fun _ => H.out, fun _ => rfl⟩).mono ?_
  rintro e w1 ⟨rfl, b1⟩
  have n1 := Lib.hid ((b1.block w.heap.size (by simp only [World.size_alloc]; omega)).trans (heap_alloc_new w _))
  have B1 : Hid (Below w.heap.size w w1) := Below.trans (by go_grown) (b1.mono (by simp only [World.size_alloc]; omega))
  have z1 := b1.size
  simp only [World.size_alloc] at z1
  clear b1
  go_wp2_with fail
  refine (l02Rings_any w.heap.size 39 q _ cs _ n1.out (HC.out.later B1.out) H.out).mono ?_
  rintro e w2 ⟨rfl, b2⟩
  have n2 := Lib.hid ((b2.block w.heap.size (by omega)).trans n1.out)
  have B2 : Hid (Below w.heap.size w w2) := B1.out.trans (b2.mono (by omega))
  have z2 := b2.size
  clear b2 n1 B1
  go_wp2_with fail
  refine (c2.out _).mono ?_
  rintro e w2' ⟨rfl, rfl⟩
  go_wp2_with fail
  refine (l02Turns_any w.heap.size 39 q _ cs _ n2.out (HC.out.later B2.out) hp.out.2.1 hp.out.2.2.1).mono ?_
  rintro e w3 ⟨v3, rfl, o3, b3⟩
  have B3 : Hid (Below w.heap.size w w3) := B2.out.trans (b3.mono (by omega))
  have z3 := B3.out.size
  obtain ⟨a3, c3, rfl⟩ := o3.form
  obtain ⟨bb, off, rfl, u0, u1, u2⟩ := (o3.rd encCv_len).at3 k t HT.out
  obtain ⟨N, hN⟩ : ∃ N, N = (turnsC cs).length := ⟨_, rfl⟩
  have lk : (k : Int) < (N : Int) := by have := HL.out; have := HK.out; rw [← hN] at *; omega
  rw [← hN]
  clear b3 B2 n2 o3 hN
  go_wp2
  go_quiet (fail)
  go_wp2
  go_returns
  exact ⟨rfl, drewN_below (B3.out.alloc z3 _) _⟩

set_option maxRecDepth 100000 in
set_option maxHeartbeats 4000000 in
theorem specCurveAt_no (q : Ps) (v : Value) (cs : List Cv) (n : Int) (w : World) (hc : RdS 3 encCv w v cs) (lz : cs.length ≤ 1048576) (h : ¬ HasR q cs n) :
    Calls Try.prog 28 #[(.agg #[.int .i64 q.s, .int .i64 q.h, .int .i64 q.y, .int .i64 q.p, v]), .int .i64 n] w fun e w' => e = .returned (.tuple #[.int .i64 0, .int .i64 0, .bool false]) ∧ Below w.heap.size w w' := by
  have HC := Lib.hid hc
  obtain ⟨a, cap, rfl, _⟩ := hc
  by_cases ho : OkA q cs
  · have H := Lib.hid ho
    have hp := Lib.hid ho.parts
    have q1 : IntKind.i64.wrap (sumR cs - 1) = sumR cs - 1 := IntWalk.i64_in _ (by have := hp.out; omega)
    have c2 := Lib.hid (fun w => in_any n 0 (sumR cs - 1) false ⟨fun e => (by cases e), fun e => absurd ⟨ho, e.1, by omega⟩ h⟩ w)
    clear ho h
    go_enter Try.func28, Try.ntmps28
    go_wp2_with fail
    refine (l02Is_any w.heap.size 39 q a cap cs _ (heap_alloc_new w _) (HC.out.later (by go_grown)) lz true ⟨fun _ => H.out, fun _ => rfl⟩).mono ?_
    rintro e w1 ⟨rfl, b1⟩
    have n1 := Lib.hid ((b1.block w.heap.size (by simp only [World.size_alloc]; omega)).trans (heap_alloc_new w _))
    have B1 : Hid (Below w.heap.size w w1) := Below.trans (by go_grown) (b1.mono (by simp only [World.size_alloc]; omega))
    clear b1
    go_wp2_with fail
    refine (l02Rings_any w.heap.size 39 q _ cs _ n1.out (HC.out.later B1.out) H.out).mono ?_
    rintro e w2 ⟨rfl, b2⟩
    have B2 : Hid (Below w.heap.size w w2) := B1.out.trans (b2.mono B1.out.size)
    clear b2 n1 B1
    go_wp2_with fail
    refine (c2.out _).mono ?_
    rintro e w2' ⟨rfl, rfl⟩
    go_wp2
    go_returns
    exact ⟨rfl, B2.out⟩
  · clear h
    go_enter Try.func28, Try.ntmps28
    go_wp2_with fail
    refine (l02Is_any w.heap.size 39 q a cap cs _ (heap_alloc_new w _) (HC.out.later (by go_grown)) lz false ⟨fun e => (by cases e), fun e => absurd e ho⟩).mono ?_
    rintro e w1 ⟨rfl, b1⟩
    have B1 : Hid (Below w.heap.size w w1) := Below.trans (by go_grown) (b1.mono (by simp only [World.size_alloc]; omega))
    clear b1 ho
    go_wp2
    go_returns
    exact ⟨rfl, B1.out⟩

theorem exCurveAt (q : Ps) (cs : List Cv) (lz : cs.length ≤ 1048576) (x0 : Int) (wx0 : (Lit.int .i64 x0).wf = true) : ∃ (r0 r1 : Int) (r2 : Bool),
    Hid (∀ v w, RdS 3 encCv w v cs → Calls Try.prog 28 #[(.agg #[.int .i64 q.s, .int .i64 q.h, .int .i64 q.y, .int .i64 q.p, v]), .int .i64 x0] w fun e w' => e = .returned (.tuple #[.int .i64 r0, .int .i64 r1, .bool r2]) ∧ Below w.heap.size w w') ∧
    Hid (∀ v w, RdS 3 encCv w v cs → Calls Try.prog 29 #[(.agg #[.int .i64 q.s, .int .i64 q.h, .int .i64 q.y, .int .i64 q.p, v]), .int .i64 x0] w fun e w' => e = .returned (.tuple #[.int .i64 r0, .int .i64 r1, .bool r2]) ∧ Below w.heap.size w w') := by
  by_cases h : HasR q cs x0
  · obtain ⟨k, rfl⟩ : ∃ k : Nat, x0 = k := ⟨x0.toNat, by have := h.2.1; omega⟩
    have hl := turnsC_len cs h.1.parts.2.2.1
    obtain ⟨t, ht⟩ : ∃ t, (turnsC cs)[k]? = some t := ⟨_, List.getElem?_eq_getElem (by have := h.2.2; omega)⟩
    exact ⟨t.b, t.s, true, fun v w hr => specCurveAt_yes q v cs k w hr lz h t ht, fun v w hr => implCurveAt_yes q v cs k w hr lz h t (by rw [Int.toNat_natCast]; exact ht)⟩
  · exact ⟨0, 0, false, fun v w hr => specCurveAt_no q v cs x0 w hr lz h, fun v w hr => implCurveAt_no q v cs x0 w hr lz h⟩
end Go.Proofs.Ytfmncgbdlfdebaa
