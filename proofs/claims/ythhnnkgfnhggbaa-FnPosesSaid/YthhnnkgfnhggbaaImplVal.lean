/- The walk of the program's 'is an axis valid'. -/
import Derived.Test.YthhnnkgfnhggbaaPosesIt
namespace Go.Proofs.Ythhnnkgfnhggbaa
open Go.ChangeShapes Go.WideShapes Go.ChangeAt Go.RowKit Go.Shelf
set_option linter.unusedVariables false
set_option linter.unusedSimpArgs false
attribute [local go_sem] Oper.semAt_some

theorem seqP_ok (m : Int) (p : Ps) (b s : Int) (n : Nat) : OkRun p b s n ↔ ∀ y ∈ seqP m p b s n, OkP y.2 := by
  induction n generalizing m p with
  | zero => simp [OkRun, seqP]
  | succ n ih => simp only [OkRun, seqP, List.forall_mem_cons, ih (m + 1)]

theorem okRest_iff (cs : List Cv) : ∀ (m n : Int) (p : Ps), 0 ≤ n → n ≤ 60 → (OkRest p n cs ↔ (∀ c ∈ cs, OkCv c) ∧ n + sumR cs ≤ 60 ∧ ∀ y ∈ restP m p cs, OkP y.2) := by
  induction cs with
  | nil => intro m n p h h'; simp [OkRest, restP, sumR]; exact h'
  | cons c cs ih =>
    intro m n p h h'
    constructor
    · rintro ⟨⟨h1, h2⟩, ht, hr, hs⟩
      obtain ⟨i1, i2, i3⟩ := (ih (m + c.r) (n + c.r) _ (by omega) (by omega)).mp hs
      refine ⟨List.forall_mem_cons.mpr ⟨⟨⟨h1, by omega⟩, ht⟩, i1⟩, by simp only [sumR]; omega, ?_⟩
      intro y hy
      rcases List.mem_append.1 hy with hy | hy
      · exact (seqP_ok m p _ _ _).mp hr y hy
      · exact i3 y hy
    · rintro ⟨ha, hs, hy⟩
      obtain ⟨⟨⟨h1, h2⟩, ht⟩, hb⟩ := List.forall_mem_cons.1 ha
      have bd := (sumR_bd cs hb).1
      simp only [sumR] at hs
      refine ⟨⟨h1, by omega⟩, ht, (seqP_ok m p _ _ _).mpr fun y h => hy y (List.mem_append.2 (.inl h)), ?_⟩
      exact (ih (m + c.r) (n + c.r) _ (by omega) (by omega)).mpr ⟨hb, by omega, fun y h => hy y (List.mem_append.2 (.inr h))⟩

theorem okA_iff (q : Ps) (cs : List Cv) : OkA q cs ↔ ((1 ≤ (cs.length : Int) ∧ (cs.length : Int) ≤ 8) ∧ (∀ c ∈ cs, OkCv c) ∧ sumR cs ≤ 60) ∧ ∀ y ∈ allP q cs, OkP y.2 := by
  unfold OkA allP
  rw [okRest_iff cs 0 0 q (by omega) (by omega), List.forall_mem_cons]
  simp only [Int.zero_add]
  constructor
  · rintro ⟨h1, h2, h3, h4, h5⟩; exact ⟨⟨h2, h3, h4⟩, h1, h5⟩
  · rintro ⟨⟨h2, h3, h4⟩, h1, h5⟩; exact ⟨h1, h2, h3, h4, h5⟩

theorem poses_any (q : Ps) (v : Value) (w : World) :
    Calls Try.prog 47 #[(.agg #[.int .i64 q.s, .int .i64 q.h, .int .i64 q.y, .int .i64 q.p, v])] w fun e w' => e = .returned (.func (.func 85) #[] #[.pointer (some ⟨w.heap.size, 0, none⟩)]) ∧ w' = w.alloc (.cells #[.int .i64 q.s, .int .i64 q.h, .int .i64 q.y, .int .i64 q.p, v] 28) := by
  go_enter Try.func47, Try.ntmps47
  go_wp2
  go_ret
  exact ⟨rfl, rfl⟩

set_option maxRecDepth 100000 in
set_option maxHeartbeats 4000000 in
theorem implValidAxis_any (q : Ps) (v : Value) (cs : List Cv) (w : World) (hc : RdS 3 encCv w v cs) (lz : cs.length ≤ 1048576) (b : Bool) (hb : b = true ↔ OkA q cs) :
    Calls Try.prog 45 #[(.agg #[.int .i64 q.s, .int .i64 q.h, .int .i64 q.y, .int .i64 q.p, v])] w fun e w' => e = .returned (.bool b) ∧ Below w.heap.size w w' := by
  have HC := Lib.hid hc
  obtain ⟨a, cap, rfl, _⟩ := hc
  rw [okA_iff] at hb
  by_cases h1 : (1 ≤ (cs.length : Int) ∧ (cs.length : Int) ≤ 8) ∧ (∀ c ∈ cs, OkCv c) ∧ sumR cs ≤ 60
  · have hb' : Hid (b = true ↔ ∀ y ∈ allP q cs, OkP y.2) := by show _ ↔ _; rw [hb]; exact ⟨fun h => h.2, fun h => ⟨h1, h⟩⟩
    have c1 := Lib.hid (fun (i : Nat) w (h : RdS 3 encCv w (.slice a cs.length cap) cs) => callsIn_wide (n := i).2 (routeOk_any _ cs w h lz true ⟨fun _ => h1, fun _ => rfl⟩))
    have H1 := Lib.hid h1
    clear hb h1
    refine (callsIn_wide (n := 5)).1 ?_
    refine callsIn_of_wp_marks Try.func45 rfl trivial ?_ rfl
    simp only [Try.ntmps45, List.size_toArray, List.length_cons, List.length_nil, Nat.reduceAdd, Nat.reduceSub, Array.replicate_succ, Array.replicate_zero, List.push_toArray, List.append_toArray, List.nil_append, List.cons_append]
    gi_wp2_with fail
    refine ⟨trivial, (c1.out _ _ (HC.out.later (by go_grown))).mono ?_⟩
    rintro e w1 ⟨rfl, b1⟩
    have e0 := b1.cell (p := ⟨w.heap.size, 0, none⟩) (by simp only [World.size_alloc]; omega)
    have e1 := b1.cell (p := ⟨w.heap.size, 1, none⟩) (by simp only [World.size_alloc]; omega)
    have e2 := b1.cell (p := ⟨w.heap.size, 2, none⟩) (by simp only [World.size_alloc]; omega)
    have e3 := b1.cell (p := ⟨w.heap.size, 3, none⟩) (by simp only [World.size_alloc]; omega)
    have e4 := b1.cell (p := ⟨w.heap.size, 4, none⟩) (by simp only [World.size_alloc]; omega)
    simp [go_sem] at e0 e1 e2 e3 e4
    have rc := (b1.block (w.heap.size + 1) (by simp only [World.size_alloc]; omega)).trans (heap_alloc2_new w _ _)
    have B1 : Below w.heap.size w w1 := Below.trans (by go_grown) (b1.mono (by simp; omega))
    have s1 := b1.size
    simp only [World.size_alloc] at s1
    clear b1
    gi_wp2_with fail
    refine ⟨trivial, (callsIn_wide.2 (poses_any q _ _)).mono ?_⟩
    rintro e w2 ⟨rfl, hw2⟩
    have rc2 : w2.heap[w.heap.size + 1]? = some (.cells #[.bool false] 4 (0, 0)) := by rw [hw2]; exact (Below.heap_alloc _ _ _ (by omega)).trans rc
    have A2 : w2.heap[w1.heap.size]? = some (.cells #[.int .i64 q.s, .int .i64 q.h, .int .i64 q.y, .int .i64 q.p, .slice a cs.length cap] 28 (0, 0)) := by rw [hw2]; exact heap_alloc_new w1 _
    have B2 : Below w.heap.size w w2 := by rw [hw2]; exact B1.alloc (by omega) _
    have s2 : w2.heap.size = w1.heap.size + 1 := by rw [hw2]; simp
    obtain ⟨c, hx⟩ : ∃ x, cs[0]? = some x := ⟨_, List.getElem?_eq_getElem (by have := H1.out.1; omega)⟩
    obtain ⟨ba, oa, rfl, e0', e1', e2'⟩ := HC.out.at3 0 c hx
    have la := block_lt_of_cell e0'
    have la' : ba < w.heap.size := la
    clear e0 e1 e2 e3 e4 hw2 rc B1 c1 e0' e1' e2' hx la
    gi_wp2_with fail
    refine range_law (F := Fence.wide) rfl (by omega) (gf := 85) (lb := #[.pointer (some ⟨w1.heap.size, 0, none⟩)]) rfl trivial (enters_of Try.func85 (by kernel_rfl) rfl) (encs := encNP) (fun _ => rfl) (allP q cs) (fun s => ∀ y ∈ s, OkP y.2) (fun k => k = w.heap.size + 1) (fun k e => by omega) ?seq
      (fun s W => (∀ y ∈ s, OkP y.2) ∧ W.heap[w.heap.size + 1]? = some (.cells #[.bool false] 4 (0, 0)) ∧ Below w.heap.size w W)
      (fun s W => (¬ ∀ y ∈ s, OkP y.2) ∧ W.heap[w.heap.size + 1]? = some (.cells #[.bool false] 4 (0, 0)) ∧ Below w.heap.size w W)
      (fun s A h => h.1) ?hI ?hIx ⟨fun y hy => (by cases hy), rc2, B2⟩ ?round ?done ?stop
    case seq =>
      intro l J Jx W1 hb hl hl2 hOk hJ hJx hY h0
      have := hb.size
      exact poses_gives _ (by omega) l w1.heap.size _ (fun k => k = w.heap.size + 1 ∨ k = l) q _ cap cs (by have := H1.out.1; omega) H1.out.2.1 J Jx W1 (fun k e => by omega) ((hb.block _ (by omega)).trans A2) (by omega) ((HC.out.later B2).later hb) (fun x e => by cases e; show ¬ (ba = _ ∨ ba = l); omega) hOk hJ hJx hY h0
    case hI =>
      rintro s A B ⟨h1, h2, h3⟩ hb
      exact ⟨h1, (hb.block _ (by omega)).trans h2, h3.trans (hb.mono (by omega))⟩
    case hIx =>
      rintro s A B ⟨h1, h2, h3⟩ hb
      exact ⟨h1, (hb.block _ (by omega)).trans h2, h3.trans (hb.mono (by omega))⟩
    case round =>
      rintro l pre ⟨x, p⟩ W hl hl2 ⟨i1, i2, i3⟩ hpre
      simp only [encNP]
      gi_wp2
      refine ⟨(Rest.refl _ _).alloc _, fun W2 r2 => ?_⟩
      have lW : w.heap.size + 1 < W.heap.size := (Array.getElem?_eq_some_iff.1 i2).1
      have PB := (r2.block W.heap.size (by simp) (by omega)).trans (heap_alloc_new W _)
      have i2' := (r2.block (w.heap.size + 1) (by rw [World.size_alloc]; omega) (by omega)).trans ((Below.heap_alloc W _ _ lW).trans i2)
      have i3' : Below w.heap.size w W2 := (i3.alloc (by omega) _).trans (r2.below (by rw [World.size_alloc]; omega) (fun k e => by omega))
      have sW := r2.size
      rw [World.size_alloc] at sW
      obtain ⟨⟨p0, p1, p2, p3⟩, -, lP⟩ := boxPs_at PB
      have f0 := cell_of_row W2 (w.heap.size + 1) 0 _ _ _ i2'
      have f1 := frozen_of_row W2 (w.heap.size + 1) 0 _ _ i2'
      simp only [List.getElem?_toArray, List.getElem?_cons_zero] at f0
      have I1 := Lib.hid i1
      have I2 := Lib.hid i2'
      have I3 := Lib.hid i3'
      clear i1 i2 i3 i2' i3' r2 PB
      by_cases g : OkP p
      · have d := Lib.hid (fun w => implPose_any p true ⟨fun _ => g, fun _ => rfl⟩ w)
        have G := Lib.hid g
        clear g
        gi_wp2_with fail
        refine ⟨trivial, (CallsIn.inRound l (callsIn_wide.2 (d.out _))).mono ?_⟩
        rintro e W3 ⟨rfl, rfl⟩
        gi_wp2
        refine ⟨(Rest.refl _ _).alloc _, ?_, (Below.heap_alloc W2 _ _ (by omega)).trans I2.out, I3.out.alloc (by omega) _⟩
        intro y hy
        rcases List.mem_append.1 hy with hy | hy
        · exact I1.out y hy
        · rw [List.mem_singleton.1 hy]; exact G.out
      · have d := Lib.hid (fun w => implPose_any p false ⟨fun h => (by cases h), fun h => absurd h g⟩ w)
        have G := Lib.hid g
        clear g
        gi_wp2_with fail
        refine ⟨trivial, (CallsIn.inRound l (callsIn_wide.2 (d.out _))).mono ?_⟩
        rintro e W3 ⟨rfl, hW3⟩
        have b3 : Below W2.heap.size W2 W3 := by rw [hW3]; go_grown
        have i4 := (b3.block (w.heap.size + 1) (by omega)).trans I2.out
        have B4 : Hid (Below w.heap.size w W3) := I3.out.trans (b3.mono (by omega))
        have R4 : Hid (Rest (fun k => k = w.heap.size + 1) W2 W3) := Rest.of_below b3 (fun k h1 h2 => by omega)
        have I4 := Lib.hid i4
        clear f0 f1 hW3 b3 I2 I3 p0 p1 p2 p3
        have f0 : W3.cell? ⟨w.heap.size + 1, 0, none⟩ = some (.bool false) := cell_of_row W3 (w.heap.size + 1) 0 _ _ _ i4
        have f1 := frozen_of_row W3 (w.heap.size + 1) 0 _ _ i4
        clear i4
        gi_wp2
        refine ⟨R4.out.setCell (p := ⟨w.heap.size + 1, 0, none⟩) rfl _, fun h => G.out (h (x, p) (by simp)), ?_, B4.out.setCell (p := ⟨w.heap.size + 1, 0, none⟩) (by simp) _⟩
        exact heap_setCell_same W3 (w.heap.size + 1) 0 _ _ (.bool false) I4.out
    case done =>
      rintro D W hD ⟨i1, i2, i3⟩ hK
      obtain rfl : b = true := hb'.out.mpr i1
      have f0 : W.cell? ⟨w.heap.size + 1, 0, none⟩ = some (.bool false) := cell_of_row W (w.heap.size + 1) 0 _ _ _ i2
      have f1 := frozen_of_row W (w.heap.size + 1) 0 _ _ i2
      have I2 := Lib.hid i2
      have I3 := Lib.hid i3
      have HK := Lib.hid hK
      clear i1 i2 i3 hK
      gi_wp2
      have nD : D ≠ w.heap.size + 1 := by omega
      have K2 : (W.setCell ⟨w.heap.size + 1, 0, none⟩ (.bool true)).heap[D]? = some (.deferred (some [])) := (heap_setCell_other W ⟨w.heap.size + 1, 0, none⟩ D _ nD).trans HK.out
      have C2 : (W.setCell ⟨w.heap.size + 1, 0, none⟩ (.bool true)).heap[w.heap.size + 1]? = some (.cells #[.bool true] 4 (0, 0)) := heap_setCell_same W (w.heap.size + 1) 0 _ _ (.bool true) I2.out
      have B2 : Below w.heap.size w (W.setCell ⟨w.heap.size + 1, 0, none⟩ (.bool true)) := I3.out.setCell (p := ⟨w.heap.size + 1, 0, none⟩) (by simp) _
      generalize W.setCell ⟨w.heap.size + 1, 0, none⟩ (.bool true) = V at *
      refine ⟨by simp, .inl ⟨_, _, rfl, run_takeDeferred K2, ?_⟩⟩
      have c5 : (V.putObj D (.deferred none)).cell? ⟨w.heap.size + 1, 0, none⟩ = some (.bool true) := cell_of_row _ _ 0 _ _ _ ((World.putObj_heap_other (by omega)).trans C2)
      refine ⟨.bool true, ?_, rfl, B2.trans ((Rest.putObj (Wr := fun k => k = D) (Rest.refl _ _) rfl _).below B2.size (fun k e => by omega))⟩
      simp [results, Try.results45, go_sem, c5]
    case stop =>
      rintro D pre W hD hpre ⟨i1, i2, i3⟩ hK
      obtain rfl : b = false := bool_false hb'.out (fun h => i1 fun y hy => h y (hpre.subset hy))
      gi_wp2
      refine ⟨by simp, .inl ⟨_, _, rfl, run_takeDeferred hK, ?_⟩⟩
      have c5 : (W.putObj D (.deferred none)).cell? ⟨w.heap.size + 1, 0, none⟩ = some (.bool false) := cell_of_row _ _ 0 _ _ _ ((World.putObj_heap_other (by omega)).trans i2)
      refine ⟨.bool false, ?_, rfl, i3.trans ((Rest.putObj (Wr := fun k => k = D) (Rest.refl _ _) rfl _).below i3.size (fun k e => by omega))⟩
      simp [results, Try.results45, go_sem, c5]
  · obtain rfl : b = false := bool_false hb (fun h => h1 h.1)
    have c1 := Lib.hid (fun w (h : RdS 3 encCv w (.slice a cs.length cap) cs) => routeOk_any _ cs w h lz false ⟨fun h => (by cases h), fun h => absurd h h1⟩)
    clear hb h1
    go_enter Try.func45, Try.ntmps45
    go_wp2_with fail
    refine (c1.out _ (HC.out.later (by go_grown))).mono ?_
    rintro e w1 ⟨rfl, b1⟩
    have rc := (b1.block (w.heap.size + 1) (by simp only [World.size_alloc]; omega)).trans (heap_alloc2_new w _ _)
    have B1 : Hid (Below w.heap.size w w1) := Below.trans (by go_grown) (b1.mono (by simp; omega))
    have f0 : w1.cell? ⟨w.heap.size + 1, 0, none⟩ = some (.bool false) := cell_of_row w1 (w.heap.size + 1) 0 _ _ _ rc
    have f1 := frozen_of_row w1 (w.heap.size + 1) 0 _ _ rc
    clear b1 rc
    go_wp2
    have c5 : (w1.setCell ⟨w.heap.size + 1, 0, none⟩ (.bool false)).cell? ⟨w.heap.size + 1, 0, none⟩ = some (.bool false) := World.cell?_setCell_same' _ _ _ (by rw [f0]; rfl)
    refine bodyPost_ret (v := .bool false) (by simp [results, Try.results45, go_sem, c5]) rfl ?_
    exact ⟨rfl, B1.out.setCell (p := ⟨w.heap.size + 1, 0, none⟩) (by simp) _⟩
end Go.Proofs.Ythhnnkgfnhggbaa
