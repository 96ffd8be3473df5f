/- The walks of CurveAt. -/
import Derived.Test.YthhnnkgfnhggbaaSearch
namespace Go.Proofs.Ythhnnkgfnhggbaa
open Go.ChangeShapes Go.WideShapes Go.ChangeAt Go.RowKit
set_option linter.unusedVariables false
set_option linter.unusedSimpArgs false

theorem drewN_below {B : Nat} {w w' : World} (h : Below B w w') (n : Nat) : Below B w (w'.drewN n) := ⟨h.os, h.tape, h.output, h.size, h.block⟩

theorem endsTo_get (cs : List Cv) (n i : Nat) (h : i < n) : (endsTo cs n)[i]? = some (sumR (cs.take (i + 1))) := by
  unfold endsTo
  rw [List.getElem?_map, List.getElem?_range h]; rfl

/-- The ring belongs to the curve c. -/
def InCv (cs : List Cv) (ring : Int) (c : Cv) : Prop := ∃ k, cs[k]? = some c ∧ sumR (cs.take k) ≤ ring ∧ ring < sumR (cs.take (k + 1))

theorem InCv.turn {cs : List Cv} {ring : Int} {c : Cv} (h : InCv cs ring c) (ha : ∀ c ∈ cs, OkCv c) : (turnsC cs)[ring.toNat]? = some ⟨1, c.b, c.s⟩ := by
  obtain ⟨k, hk, h1, h2⟩ := h
  have hl : k < cs.length := (List.getElem?_eq_some_iff.1 hk).1
  have hd : cs.drop k = c :: cs.drop (k + 1) := by
    rw [List.drop_eq_getElem_cons hl]
    rw [List.getElem?_eq_getElem hl] at hk
    rw [Option.some.inj hk]
  have e : turnsC cs = turnsC (cs.take k) ++ (List.replicate c.r.toNat ⟨1, c.b, c.s⟩ ++ turnsC (cs.drop (k + 1))) := by
    conv => lhs; rw [← List.take_append_drop k cs]
    rw [turnsC_append, hd]
    simp [turnsC]
  have l1 := turnsC_len (cs.take k) (fun d hd => ha d (List.mem_of_mem_take hd))
  have s1 := sumR_take_succ cs k c hk
  have b1 := (sumR_bd (cs.take k) (fun d hd => ha d (List.mem_of_mem_take hd))).1
  rw [e, List.getElem?_append_right (by omega), List.getElem?_append_left (by rw [List.length_replicate]; omega), List.getElem?_replicate, if_pos (by omega)]

set_option maxRecDepth 100000 in
set_option maxHeartbeats 4000000 in
theorem routeAt_any (v : Value) (cs : List Cv) (ring : Int) (w : World) (hc : RdS 3 encCv w v cs) (l8 : cs.length ≤ 8) (hall : ∀ c ∈ cs, OkCv c) (h0 : 0 ≤ ring) (h1 : ring < sumR cs) :
    Calls Try.prog 52 #[v, .int .i64 ring] w fun e w' => ∃ c, e = .returned (.agg #[.int .i64 c.r, .int .i64 c.b, .int .i64 c.s]) ∧ InCv cs ring c ∧ Below w.heap.size w w' := by
  have HC := Lib.hid hc
  obtain ⟨a, cap, rfl, _⟩ := hc
  have ce := Lib.hid (fun w (hr : RdS 3 encCv w (.slice a cs.length cap) cs) => ends_any _ cs w hr l8 hall)
  have H0 := Lib.hid h0
  have H1 := Lib.hid h1
  clear hall h0 h1
  go_enter Try.func52, Try.ntmps52
  go_wp2_with fail
  refine (ce.out _ (HC.out.later (by go_grown))).mono ?_
  rintro e w1 ⟨v1, rfl, o1, b1⟩
  have n1 := (b1.block w.heap.size (by simp only [World.size_alloc]; omega)).trans (heap_alloc2_old w _ _)
  have r1 := (b1.block (w.heap.size + 1) (by simp only [World.size_alloc]; omega)).trans (heap_alloc2_new w _ _)
  have B1 : Hid (Below w.heap.size w w1) := Below.trans (by go_grown) (b1.mono (by simp only [World.size_alloc]; omega))
  have z1 := b1.size
  simp only [World.size_alloc] at z1
  have RI := o1.rd
  have el := endsTo_length cs cs.length
  have LE := Lib.hid el
  obtain ⟨a1, c1, rfl, _⟩ := id RI
  have cR : w1.cell? ⟨w.heap.size, 0, none⟩ = some (.int .i64 ring) := cell_of_row w1 _ 0 _ _ _ n1
  have SE := Lib.hid (fun w' (hb : Below w1.heap.size w1 w') (hE : w'.cell? ⟨w1.heap.size, 0, none⟩ = some (.slice a1 (endsTo cs cs.length).length c1)) => search_any w.heap.size w1.heap.size ring w' (endsTo cs cs.length) a1 c1 ((hb.cell (p := ⟨w.heap.size, 0, none⟩) (by show w.heap.size < _; omega)).trans cR) hE (RI.later hb) (by rw [el]; exact l8))
  obtain ⟨⟨g0, g1, g2⟩, ⟨f0, f1, f2⟩, lr⟩ := boxCv_at (q := ⟨0, 0, 0⟩) r1
  rw [el] at SE ⊢
  clear b1 o1 RI el n1 r1 cR
  go_wp2_with fail
  refine (SE.out _ (by go_grown) (by simp)).mono ?_
  rintro e w2 ⟨k, rfl, k1, k2, k3, m, rfl⟩
  have kl : k < cs.length := by
    by_cases e : k < cs.length
    · exact e
    · exfalso
      obtain rfl : k = cs.length := by omega
      by_cases e0 : cs.length = 0
      · have : cs = [] := List.eq_nil_of_length_eq_zero e0
        have h1 := H1.out
        rw [this] at h1
        simp only [sumR] at h1
        have := H0.out
        omega
      · have := k2 (sumR cs) (by omega) (by rw [endsTo_get cs _ _ (by omega), List.take_of_length_le (by omega)])
        have := H1.out
        omega
  obtain ⟨c, hx⟩ : ∃ x, cs[k]? = some x := ⟨_, List.getElem?_eq_getElem kl⟩
  have IN : Hid (InCv cs ring c) := by
    refine ⟨k, hx, ?_, k3 _ (endsTo_get cs _ k kl)⟩
    by_cases e0 : k = 0
    · subst e0
      exact H0.out
    · have := k2 (sumR (cs.take k)) (by omega) (by rw [endsTo_get cs _ _ (by omega), Nat.sub_add_cancel (by omega)])
      exact this
  obtain ⟨ba, oa, rfl, e0, e1, e2⟩ := (HC.out.later B1.out).at3 k c hx
  have la := block_lt_of_cell e0
  have lk : (k : Int) < (cs.length : Int) := by omega
  have nba : ¬ w.heap.size + 1 = w1.heap.size := by omega
  clear k1 k2 k3 hx SE ce
  go_wp2
  refine bodyPost_ret (v := (.agg #[.int .i64 c.r, .int .i64 c.b, .int .i64 c.s])) (by simp [results, Try.results52, go_sem, g0, g1, g2, lr]; try rfl) rfl ⟨c, rfl, IN.out, ?_⟩
  have B2 : Below w.heap.size w ((w1.alloc (.cells #[.slice a1 cs.length c1] 116)).drewN m) := drewN_below (B1.out.alloc (by omega) _) m
  exact ((B2.setCell (p := ⟨w.heap.size + 1, 0, none⟩) (by simp) _).setCell (p := ⟨w.heap.size + 1, 1, none⟩) (by simp) _).setCell (p := ⟨w.heap.size + 1, 2, none⟩) (by simp) _

/-- There is a ring with this number. -/
def HasR (q : Ps) (cs : List Cv) (n : Int) : Prop := OkA q cs ∧ 0 ≤ n ∧ n < sumR cs

set_option maxRecDepth 100000 in
set_option maxHeartbeats 4000000 in
theorem implCurveAt_yes (q : Ps) (v : Value) (cs : List Cv) (n : Int) (w : World) (hc : RdS 3 encCv w v cs) (lz : cs.length ≤ 1048576) (h : HasR q cs n) (t : Cv) (ht : (turnsC cs)[n.toNat]? = some t) :
    Calls Try.prog 19 #[(.agg #[.int .i64 q.s, .int .i64 q.h, .int .i64 q.y, .int .i64 q.p, v]), .int .i64 n] w fun e w' => e = .returned (.tuple #[.int .i64 t.b, .int .i64 t.s, .bool true]) ∧ Below w.heap.size w w' := by
  have HC := Lib.hid hc
  obtain ⟨a, cap, rfl, _⟩ := hc
  obtain ⟨ho, h0, h1⟩ := h
  have hp := Lib.hid ho.parts
  have c1 := Lib.hid (fun w (hr : RdS 3 encCv w (.slice a cs.length cap) cs) => implRingsOf_any q _ cs w hr lz (sumR cs) true ⟨fun _ => ho, fun _ => rfl⟩ (by simp))
  have q1 : IntKind.i64.wrap (sumR cs - 1) = sumR cs - 1 := IntWalk.i64_in _ (by have := hp.out; omega)
  have c2 := Lib.hid (fun w => within_any n 0 (sumR cs - 1) true ⟨fun _ => ⟨h0, by omega⟩, fun _ => rfl⟩ w)
  have H0 := Lib.hid h0
  have H1 := Lib.hid h1
  have HT := Lib.hid ht
  clear ho h0 h1 ht
  go_enter Try.func19, Try.ntmps19
  go_wp2_with fail
  refine (c1.out _ (HC.out.later (by go_grown))).mono ?_
  rintro e w1 ⟨rfl, b1⟩
  have n1 := (b1.block w.heap.size (by simp only [World.size_alloc]; omega)).trans (heap_alloc_new w _)
  have B1 : Hid (Below w.heap.size w w1) := Below.trans (by go_grown) (b1.mono (by simp only [World.size_alloc]; omega))
  obtain ⟨⟨a0, a1, a2, a3, a4⟩, l1⟩ := boxA_at n1
  clear b1 n1 c1
  go_wp2_with fail
  refine (c2.out _).mono ?_
  rintro e w1' ⟨rfl, rfl⟩
  go_wp2_with fail
  refine (routeAt_any _ cs n _ (HC.out.later B1.out) hp.out.2.1 hp.out.2.2.1 H0.out H1.out).mono ?_
  rintro e w2 ⟨c, rfl, hin, b2⟩
  have B2 : Hid (Below w.heap.size w w2) := B1.out.trans (b2.mono B1.out.size)
  have z2 := B2.out.size
  have et : (⟨1, c.b, c.s⟩ : Cv) = t := by
    have := hin.turn hp.out.2.2.1
    rw [HT.out] at this
    exact (Option.some.inj this).symm
  subst et
  clear b2 hin a0 a1 a2 a3 a4
  go_wp2
  go_quiet (fail)
  go_wp2
  go_returns
  exact ⟨rfl, drewN_below (B2.out.alloc z2 _) _⟩
end Go.Proofs.Ythhnnkgfnhggbaa
