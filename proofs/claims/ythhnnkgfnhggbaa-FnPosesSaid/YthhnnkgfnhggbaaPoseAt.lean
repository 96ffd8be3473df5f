/- The walks of PoseAt. -/
import Derived.Test.YthhnnkgfnhggbaaPosesOf
namespace Go.Proofs.Ythhnnkgfnhggbaa
open Go.ChangeShapes Go.WideShapes Go.ChangeAt Go.RowKit
set_option linter.unusedVariables false
set_option linter.unusedSimpArgs false

def nP : Ps := ⟨0, 0, 0, 0⟩
/-- There is a pose with this number. -/
def HasP (q : Ps) (cs : List Cv) (n : Int) : Prop := OkA q cs ∧ 0 ≤ n ∧ n ≤ sumR cs

theorem RdS.at4 {w : World} {a : Option Addr} {n cap : Nat} {xs : List Ps} (h : RdS 4 encPs w (.slice a n cap) xs) (i : Nat) (x : Ps) (hx : xs[i]? = some x) :
    ∃ b off, a = some ⟨b, off, none⟩ ∧ w.cell? ⟨b, off + i * 4, none⟩ = some (.int .i64 x.s) ∧ w.cell? ⟨b, off + i * 4 + 1, none⟩ = some (.int .i64 x.h) ∧ w.cell? ⟨b, off + i * 4 + 2, none⟩ = some (.int .i64 x.y) ∧ w.cell? ⟨b, off + i * 4 + 3, none⟩ = some (.int .i64 x.p) := by
  obtain ⟨a', c', hv, h⟩ := h
  simp only [Value.slice.injEq] at hv
  obtain ⟨rfl, -, -⟩ := hv
  obtain ⟨b, off, rfl, h2⟩ := h.resolve_left (by intro e; rw [e] at hx; simp at hx)
  exact ⟨b, off, rfl, h2 i x hx 0 _ rfl, h2 i x hx 1 _ rfl, h2 i x hx 2 _ rfl, h2 i x hx 3 _ rfl⟩

theorem allPs_get (q : Ps) (cs : List Cv) (h : OkA q cs) (k : Nat) (hk : (k : Int) ≤ sumR cs) : (allPs q cs)[k]? = some (poseN q ((turnsC cs).take k)) := by
  have := turnsC_len cs h.parts.2.2.1
  exact posesTo_get q _ _ k (by omega)
theorem allPs_length (q : Ps) (cs : List Cv) (h : OkA q cs) : ((allPs q cs).length : Int) = sumR cs + 1 := by
  have := turnsC_len cs h.parts.2.2.1
  rw [allPs, posesTo_length]; omega

set_option maxRecDepth 100000 in
set_option maxHeartbeats 4000000 in
theorem implPoseAt_yes (q : Ps) (v : Value) (cs : List Cv) (k : Nat) (w : World) (hc : RdS 3 encCv w v cs) (lz : cs.length ≤ 1048576) (h : OkA q cs) (hk : (k : Int) ≤ sumR cs) (p : Ps) (hp : p = poseN q ((turnsC cs).take k)) :
    Calls Try.prog 21 #[(.agg #[.int .i64 q.s, .int .i64 q.h, .int .i64 q.y, .int .i64 q.p, v]), .int .i64 k] w fun e w' => e = .returned (.tuple #[(.agg #[.int .i64 p.s, .int .i64 p.h, .int .i64 p.y, .int .i64 p.p]), .bool true]) ∧ Below w.heap.size w w' := by
  have HC := Lib.hid hc
  obtain ⟨a, cap, rfl, _⟩ := hc
  have HG := Lib.hid (allPs_get q cs h k hk)
  have HL := Lib.hid (allPs_length q cs h)
  rw [← hp] at HG
  have l61 := allPs_len q cs h
  have c1 := Lib.hid (fun w (hr : RdS 3 encCv w (.slice a cs.length cap) cs) => implPosesOf_any q _ cs w hr lz true ⟨fun _ => h, fun _ => rfl⟩ (allPs q cs) (by simp))
  generalize allPs q cs = ps at *
  obtain ⟨N, hN⟩ : ∃ N, N = ps.length := ⟨_, rfl⟩
  rw [← hN] at l61 HL
  have HN := Lib.hid hN
  have q1 : IntKind.i64.wrap ((N : Int) - 1) = (N : Int) - 1 := IntWalk.i64_in _ (by omega)
  have c2 := Lib.hid (fun w => within_any k 0 ((N : Int) - 1) true ⟨fun _ => ⟨by omega, by have := HL.out; omega⟩, fun _ => rfl⟩ w)
  have lk : (k : Int) < (N : Int) := by have := HL.out; omega
  clear h hp hk hN
  go_enter Try.func21, Try.ntmps21
  go_wp2_with fail
  refine (c1.out _ (HC.out.later (by go_grown))).mono ?_
  rintro e w3 ⟨v3, rfl, o3, b3⟩
  have r3 := (b3.block (w.heap.size + 1) (by simp only [World.size_alloc]; omega)).trans (heap_alloc2_new w _ _)
  have B3 : Hid (Below w.heap.size w w3) := Below.trans (by go_grown) (b3.mono (by simp only [World.size_alloc]; omega))
  obtain ⟨a3, c3, rfl⟩ := o3.form
  obtain ⟨bb, off, rfl, u0, u1, u2, u3⟩ := (o3.rd encPs_len).at4 k p HG.out
  obtain ⟨⟨g0, g1, g2, g3⟩, ⟨f0, f1, f2, f3⟩, lr⟩ := boxPs_at (q := nP) r3
  have nb : ¬ w.heap.size + 1 = bb := by have := (o3.lt bb rfl).1; simp only [World.size_alloc] at this; omega
  rw [← HN.out]
  clear b3 r3 o3 c1
  go_wp2_with fail
  refine (c2.out _).mono ?_
  rintro e w3' ⟨rfl, rfl⟩
  go_wp2
  refine bodyPost_ret (v := .tuple #[(.agg #[.int .i64 p.s, .int .i64 p.h, .int .i64 p.y, .int .i64 p.p]), .bool true]) (by simp [results, Try.results21, go_sem, g0, g1, g2, g3]; try rfl) rfl ⟨rfl, ?_⟩
  have := B3.out
  go_grown

set_option maxRecDepth 100000 in
set_option maxHeartbeats 4000000 in
theorem implPoseAt_no (q : Ps) (v : Value) (cs : List Cv) (n : Int) (w : World) (hc : RdS 3 encCv w v cs) (lz : cs.length ≤ 1048576) (h : ¬ HasP q cs n) :
    Calls Try.prog 21 #[(.agg #[.int .i64 q.s, .int .i64 q.h, .int .i64 q.y, .int .i64 q.p, v]), .int .i64 n] w fun e w' => e = .returned (.tuple #[(.agg #[.int .i64 nP.s, .int .i64 nP.h, .int .i64 nP.y, .int .i64 nP.p]), .bool false]) ∧ Below w.heap.size w w' := by
  have HC := Lib.hid hc
  obtain ⟨a, cap, rfl, _⟩ := hc
  by_cases ho : OkA q cs
  · have HL := Lib.hid (allPs_length q cs ho)
    have l61 := allPs_len q cs ho
    have c1 := Lib.hid (fun w (hr : RdS 3 encCv w (.slice a cs.length cap) cs) => implPosesOf_any q _ cs w hr lz true ⟨fun _ => ho, fun _ => rfl⟩ (allPs q cs) (by simp))
    generalize allPs q cs = ps at *
    obtain ⟨N, hN⟩ : ∃ N, N = ps.length := ⟨_, rfl⟩
    rw [← hN] at l61 HL
    have HN := Lib.hid hN
    have q1 : IntKind.i64.wrap ((N : Int) - 1) = (N : Int) - 1 := IntWalk.i64_in _ (by omega)
    have c2 := Lib.hid (fun w => within_any n 0 ((N : Int) - 1) false ⟨fun e => (by cases e), fun e => absurd ⟨ho, e.1, by have := HL.out; omega⟩ h⟩ w)
    clear h ho hN
    go_enter Try.func21, Try.ntmps21
    go_wp2_with fail
    refine (c1.out _ (HC.out.later (by go_grown))).mono ?_
    rintro e w3 ⟨v3, rfl, o3, b3⟩
    have r3 := (b3.block (w.heap.size + 1) (by simp only [World.size_alloc]; omega)).trans (heap_alloc2_new w _ _)
    have B3 : Hid (Below w.heap.size w w3) := Below.trans (by go_grown) (b3.mono (by simp only [World.size_alloc]; omega))
    obtain ⟨a3, c3, rfl⟩ := o3.form
    obtain ⟨⟨g0, g1, g2, g3⟩, ⟨f0, f1, f2, f3⟩, lr⟩ := boxPs_at (q := nP) r3
    rw [← HN.out]
    clear b3 r3 o3 c1
    go_wp2_with fail
    refine (c2.out _).mono ?_
    rintro e w3' ⟨rfl, rfl⟩
    go_wp2
    refine bodyPost_ret (v := .tuple #[(.agg #[.int .i64 nP.s, .int .i64 nP.h, .int .i64 nP.y, .int .i64 nP.p]), .bool false]) (by simp [results, Try.results21, go_sem, g0, g1, g2, g3, nP]; try rfl) rfl ⟨rfl, ?_⟩
    have := B3.out
    go_grown
  · have c1 := Lib.hid (fun w (hr : RdS 3 encCv w (.slice a cs.length cap) cs) => implPosesOf_any q _ cs w hr lz false ⟨fun e => (by cases e), fun e => absurd e ho⟩ [] (by simp))
    clear h ho
    go_enter Try.func21, Try.ntmps21
    go_wp2_with fail
    refine (c1.out _ (HC.out.later (by go_grown))).mono ?_
    rintro e w3 ⟨v3, rfl, o3, b3⟩
    have r3 := (b3.block (w.heap.size + 1) (by simp only [World.size_alloc]; omega)).trans (heap_alloc2_new w _ _)
    have B3 : Hid (Below w.heap.size w w3) := Below.trans (by go_grown) (b3.mono (by simp only [World.size_alloc]; omega))
    obtain ⟨⟨g0, g1, g2, g3⟩, ⟨f0, f1, f2, f3⟩, lr⟩ := boxPs_at (q := nP) r3
    clear b3 r3 o3 c1
    go_wp2
    refine bodyPost_ret (v := .tuple #[(.agg #[.int .i64 nP.s, .int .i64 nP.h, .int .i64 nP.y, .int .i64 nP.p]), .bool false]) (by simp [results, Try.results21, go_sem, g0, g1, g2, g3, nP]; try rfl) rfl ⟨rfl, ?_⟩
    have := B3.out
    go_grown

end Go.Proofs.Ythhnnkgfnhggbaa
