/- The law FnJoints. -/
import Derived.Test.YtgockhlainnnnacDoorJoints
import Derived.Test.YtgockhlainnnnacDoorExKit
namespace Go.Proofs.YtgockhlainnnnacDoor
open Go.ChangeShapes Go.WideShapes Go.ChangeAt Go.RowKit
set_option linter.unusedVariables false
set_option linter.unusedSimpArgs false

/-- A slice literal of two rings. -/
theorem rds_lit2 (w : World) (q r : Rg) (t : TypeId) : RdS 2 encRg (w.alloc (.cells #[.int .i64 q.k, .int .i64 q.y, .int .i64 r.k, .int .i64 r.y] t)) (.slice (some ⟨w.heap.size, 0, none⟩) 2 2) [q, r] := by
  have n := heap_alloc_new w (.cells #[.int .i64 q.k, .int .i64 q.y, .int .i64 r.k, .int .i64 r.y] t)
  refine ⟨some ⟨w.heap.size, 0, none⟩, 2, rfl, .inr ⟨w.heap.size, 0, rfl, fun i x hx j u hu => ?_⟩⟩
  have hi := (List.getElem?_eq_some_iff.1 hx).1
  have hj := (List.getElem?_eq_some_iff.1 hu).1
  simp only [List.length_cons, List.length_nil] at hi
  rw [encRg_len] at hj
  rw [cell_of_row _ w.heap.size _ _ _ _ n, Nat.zero_add]
  obtain rfl | rfl : i = 0 ∨ i = 1 := by omega
  · obtain rfl := Option.some.inj hx
    obtain rfl | rfl : j = 0 ∨ j = 1 := by omega
    all_goals exact hu
  · obtain rfl := Option.some.inj hx
    obtain rfl | rfl : j = 0 ∨ j = 1 := by omega
    all_goals exact hu

theorem IsRow.later {k : IntKind} {w w' : World} {a : Option Addr} {len cap : Nat} {zs : List Int} (h : IsRow k w a len cap zs) (hb : Below w.heap.size w w') : IsRow k w' a len cap zs := by
  rcases h with h | ⟨x, h0, h1, h2, h3, h4, h5⟩
  · exact .inl h
  · exact .inr ⟨x, h0, h1, h2, h3, fun i hi => cell_later hb (h4 i hi), h5⟩

set_option maxRecDepth 100000 in
set_option maxHeartbeats 8000000 in
theorem joints_law (w : World) (a0 : Option Addr) (len0 cap0 : Nat) (z0 : List Int) (w0 : IsRow .u8 w a0 len0 cap0 z0) (a1 : Option Addr) (len1 cap1 : Nat) (z1 : List Int) (w1 : IsRow .u8 w a1 len1 cap1 z1) (T : TDebL w) (l0 : len0 ≤ 1048576) (l1 : len1 ≤ 1048576) :
    Calls Tryd.prog 7 #[.slice a0 len0 cap0, .slice a1 len1 cap1] w fun e w' => e = .returned (.bool true) ∧ Below w.heap.size w w' := by
  have HT := Lib.hid T
  have cl := Lib.hid (fun w => b10Long_any a0 a1 len0 len1 cap0 cap1 false (by simp; omega) w)
  have A0 := Lib.hid (fun w h => b10At_any a0 len0 cap0 z0 w h l0 0 (by omega) 2 (by omega) (by omega))
  have A1 := Lib.hid (fun w h => b10At_any a0 len0 cap0 z0 w h l0 1 (by omega) 16 (by omega) (by omega))
  have A2 := Lib.hid (fun w h => b10At_any a1 len1 cap1 z1 w h l1 0 (by omega) 2 (by omega) (by omega))
  have A3 := Lib.hid (fun w h => b10At_any a1 len1 cap1 z1 w h l1 1 (by omega) 16 (by omega) (by omega))
  have W0 := Lib.hid w0
  have W1 := Lib.hid w1
  clear T w0 w1 l0 l1
  go_enter Tryd.func7, Tryd.ntmps7
  go_wp2_with fail
  refine (cl.out _).mono ?_
  rintro e w' ⟨rfl, rfl⟩
  go_wp2_with fail
  refine (A0.out _ W0.out).mono ?_
  rintro e w' ⟨qk, rfl, qk0, qk1, rfl⟩
  go_wp2_with fail
  refine (A1.out _ W0.out).mono ?_
  rintro e w' ⟨qy, rfl, qy0, qy1, rfl⟩
  go_wp2_with fail
  refine (A2.out _ (W1.out.later (by go_grown))).mono ?_
  rintro e w' ⟨rk, rfl, rk0, rk1, hw'⟩
  subst hw'
  go_wp2_with fail
  refine (A3.out _ (W1.out.later (by go_grown))).mono ?_
  rintro e w' ⟨ry, rfl, ry0, ry1, hw'⟩
  subst hw'
  obtain ⟨q, hq⟩ : ∃ q : Rg, q = ⟨qk, qy⟩ := ⟨_, rfl⟩
  obtain ⟨r, hr⟩ : ∃ r : Rg, r = ⟨rk, ry⟩ := ⟨_, rfl⟩
  obtain rfl : qk = q.k := by rw [hq]
  obtain rfl : qy = q.y := by rw [hq]
  obtain rfl : rk = r.k := by rw [hr]
  obtain rfl : ry = r.y := by rw [hr]
  have okq : OkR q := ⟨⟨qk0, by omega⟩, ⟨qy0, by omega⟩⟩
  have okr : OkR r := ⟨⟨rk0, by omega⟩, ⟨ry0, by omega⟩⟩
  clear hq hr qk0 qk1 qy0 qy1 rk0 rk1 ry0 ry1 A0 A1 A2 A3 W0 W1 cl
  have lq := lens q.y okq.2
  have lr := lens r.y okr.2
  have cx := Lib.hid (implJoints_yes q okq)
  have cy := Lib.hid (implJoints_yes r okr)
  have cm := Lib.hid (implMeeting_yes q r okq okr)
  have cn := Lib.hid (implNext_yes' q okq)
  have cb := Lib.hid (implNext_yes' r okr)
  have LQ := Lib.hid lq
  have LR := Lib.hid lr
  have OQ := Lib.hid okq
  have OR := Lib.hid okr
  clear lq lr okq okr
  go_wp2_with fail
  refine (cx.out _ (HT.out.later (by go_grown))).mono ?_
  rintro e w1 ⟨vx, rfl, ox, b1⟩
  have E1 : Hid (Below w.heap.size w w1) := Below.trans (by go_grown) (b1.mono (by simp only [World.size_alloc]; omega))
  have y1 : w.heap.size + 2 ≤ w1.heap.size := by have e := b1.size; simp only [World.size_alloc] at e; omega
  have N1 := Lib.hid ((b1.block w.heap.size (by simp only [World.size_alloc]; omega)).trans (heap_alloc2_old w _ _))
  have M1 := Lib.hid ((b1.block (w.heap.size + 1) (by simp only [World.size_alloc]; omega)).trans (heap_alloc2_new w _ _))
  obtain ⟨ax, cx', hx⟩ : ∃ a c, vx = .slice a 6 c := by
    obtain ⟨a, c, h, _⟩ := ox.rd
    exact ⟨a, c, by rw [h, LQ.out.1]⟩
  have Rx1 := Lib.hid ox.rd
  subst hx
  clear ox b1
  obtain ⟨⟨k0, k1⟩, -⟩ := boxRg_at N1.out
  obtain ⟨⟨k2, k3⟩, -⟩ := boxRg_at M1.out
  go_wp2_with fail
  refine (cy.out _ (HT.out.later E1.out)).mono ?_
  rintro e w2 ⟨vy, rfl, oy, b2⟩
  have E2 : Hid (Below w.heap.size w w2) := E1.out.trans (b2.mono (by omega))
  have y2 : w.heap.size + 2 ≤ w2.heap.size := Nat.le_trans y1 b2.size
  have N2 := Lib.hid ((b2.block w.heap.size (by omega)).trans N1.out)
  have M2 := Lib.hid ((b2.block (w.heap.size + 1) (by omega)).trans M1.out)
  have Rx2 := Lib.hid (Rx1.out.later b2)
  clear k0 k1 k2 k3 E1 N1 M1 Rx1
  obtain ⟨ay, cy', hy⟩ : ∃ a c, vy = .slice a 6 c := by
    obtain ⟨a, c, h, _⟩ := oy.rd
    exact ⟨a, c, by rw [h, LR.out.1]⟩
  have Ry2 := Lib.hid oy.rd
  subst hy
  clear oy b2
  obtain ⟨⟨k0, k1⟩, -⟩ := boxRg_at N2.out
  obtain ⟨⟨k2, k3⟩, -⟩ := boxRg_at M2.out
  go_wp2_with fail
  refine (cm.out _ (HT.out.later E2.out)).mono ?_
  rintro e w3 ⟨vm, rfl, om, b3⟩
  have E3 : Hid (Below w.heap.size w w3) := E2.out.trans (b3.mono (by omega))
  have y3 : w.heap.size + 2 ≤ w3.heap.size := Nat.le_trans y2 b3.size
  have N3 := Lib.hid ((b3.block w.heap.size (by omega)).trans N2.out)
  have M3 := Lib.hid ((b3.block (w.heap.size + 1) (by omega)).trans M2.out)
  have Rx3 := Lib.hid (Rx2.out.later b3)
  have Ry3 := Lib.hid (Ry2.out.later b3)
  clear k0 k1 k2 k3 E2 N2 M2 Rx2 Ry2
  obtain ⟨am, cm', hm⟩ : ∃ a c, vm = .slice a (meetL q.y r.y).length c := by
    obtain ⟨a, c, h, _⟩ := om.rd
    exact ⟨a, c, h⟩
  have Rm3 := Lib.hid om.rd
  subst hm
  clear om b3
  obtain ⟨⟨k0, k1⟩, -⟩ := boxRg_at N3.out
  obtain ⟨⟨k2, k3⟩, -⟩ := boxRg_at M3.out
  go_wp2_with fail
  refine (cn.out _ (HT.out.later E3.out)).mono ?_
  rintro e w4 ⟨vn, rfl, on, b4⟩
  have E4 : Hid (Below w.heap.size w w4) := E3.out.trans (b4.mono (by omega))
  have y4 : w.heap.size + 2 ≤ w4.heap.size := Nat.le_trans y3 b4.size
  have N4 := Lib.hid ((b4.block w.heap.size (by omega)).trans N3.out)
  have M4 := Lib.hid ((b4.block (w.heap.size + 1) (by omega)).trans M3.out)
  have Rx4 := Lib.hid (Rx3.out.later b4)
  have Ry4 := Lib.hid (Ry3.out.later b4)
  have Rm4 := Lib.hid (Rm3.out.later b4)
  clear k0 k1 k2 k3 E3 N3 M3 Rx3 Ry3 Rm3
  obtain ⟨an, cn', hn⟩ : ∃ a c, vn = .slice a 5 c := by
    obtain ⟨a, c, h, _⟩ := on.rd
    exact ⟨a, c, by rw [h, LQ.out.2]⟩
  have Rn4 := Lib.hid on.rd
  subst hn
  clear on b4
  obtain ⟨⟨k0, k1⟩, -⟩ := boxRg_at N4.out
  obtain ⟨⟨k2, k3⟩, -⟩ := boxRg_at M4.out
  go_wp2_with fail
  refine (cb.out _ (HT.out.later E4.out)).mono ?_
  rintro e w5 ⟨vb, rfl, ob, b5⟩
  have E5 : Hid (Below w.heap.size w w5) := E4.out.trans (b5.mono (by omega))
  have y5 : w.heap.size + 2 ≤ w5.heap.size := Nat.le_trans y4 b5.size
  have N5 := Lib.hid ((b5.block w.heap.size (by omega)).trans N4.out)
  have M5 := Lib.hid ((b5.block (w.heap.size + 1) (by omega)).trans M4.out)
  have Rx5 := Lib.hid (Rx4.out.later b5)
  have Ry5 := Lib.hid (Ry4.out.later b5)
  have Rm5 := Lib.hid (Rm4.out.later b5)
  have Rn5 := Lib.hid (Rn4.out.later b5)
  clear k0 k1 k2 k3 E4 N4 M4 Rx4 Ry4 Rm4 Rn4
  obtain ⟨ab, cb', hb⟩ : ∃ a c, vb = .slice a 5 c := by
    obtain ⟨a, c, h, _⟩ := ob.rd
    exact ⟨a, c, by rw [h, LR.out.2]⟩
  have Rb5 := Lib.hid ob.rd
  subst hb
  clear ob b5
  have hx := Lib.hid (fun w n b hb h => b10Has_any (.slice ax 6 cx') (jointsL q.y) n w h (by have := LQ.out.1; omega) b hb)
  have hy := Lib.hid (fun w n b hb h => b10Has_any (.slice ay 6 cy') (jointsL r.y) n w h (by have := LR.out.1; omega) b hb)
  have hm := Lib.hid (fun w n b hb h => b10Has_any (.slice am (meetL q.y r.y).length cm') (meetL q.y r.y) n w h (by have := meetL_len q.y r.y; omega) b hb)
  have hn := Lib.hid (fun w n b hb h => b10Has_any (.slice an 5 cn') (nextL q.y) n w h (by have := LQ.out.2; omega) b hb)
  have hbk := Lib.hid (fun w n b hb h => b10Has_any (.slice ab 5 cb') (nextL r.y) n w h (by have := LR.out.2; omega) b hb)
  have NM := Lib.hid (next_meet q.y r.y OQ.out.2 OR.out.2)
  have NB := Lib.hid (next_meet r.y q.y OR.out.2 OQ.out.2)
  have FS := Lib.hid (free_symm q.y r.y OQ.out.2 OR.out.2)
  clear cx cy cm cn cb
  go_wp2
  go_loopw [17] (fun iv wr => ∃ k : Nat, k ≤ 16 ∧ iv = .int .i64 k ∧ wr = w5) (fun iv _ => 16 - (intOf iv).toNat)
  case atStart => exact ⟨0, by omega, rfl, rfl⟩
  case round =>
    obtain ⟨k, hk, rfl, rfl⟩ := hrel
    by_cases hlt : k < 16
    · have i1 : (k : Int) < 16 := by omega
      by_cases kx : (k : Int) ∈ jointsL q.y
      · by_cases ky : (k : Int) ∈ jointsL r.y
        · have km := (meet_mem q.y r.y k).mpr ⟨kx, ky⟩
          go_wp2_with fail
          refine (hm.out _ (k : Int) true ⟨fun _ => km, fun _ => rfl⟩ Rm5.out).mono ?_
          rintro e w' ⟨rfl, rfl⟩
          go_wp2_with fail
          refine (hx.out _ (k : Int) true ⟨fun _ => kx, fun _ => rfl⟩ Rx5.out).mono ?_
          rintro e w' ⟨rfl, rfl⟩
          go_wp2_with fail
          refine (hy.out _ (k : Int) true ⟨fun _ => ky, fun _ => rfl⟩ Ry5.out).mono ?_
          rintro e w' ⟨rfl, rfl⟩
          go_wp2
          exact ⟨⟨k + 1, by omega, by go_num, by first | rfl | trivial⟩, by simp only [intOf]; omega⟩
        · have km : (k : Int) ∉ meetL q.y r.y := fun h => ky ((meet_mem q.y r.y k).mp h).2
          go_wp2_with fail
          refine (hm.out _ (k : Int) false ⟨fun h => (by cases h), fun h => absurd h km⟩ Rm5.out).mono ?_
          rintro e w' ⟨rfl, rfl⟩
          go_wp2_with fail
          refine (hx.out _ (k : Int) true ⟨fun _ => kx, fun _ => rfl⟩ Rx5.out).mono ?_
          rintro e w' ⟨rfl, rfl⟩
          go_wp2_with fail
          refine (hy.out _ (k : Int) false ⟨fun h => (by cases h), fun h => absurd h ky⟩ Ry5.out).mono ?_
          rintro e w' ⟨rfl, rfl⟩
          go_wp2
          exact ⟨⟨k + 1, by omega, by go_num, by first | rfl | trivial⟩, by simp only [intOf]; omega⟩
      · have km : (k : Int) ∉ meetL q.y r.y := fun h => kx ((meet_mem q.y r.y k).mp h).1
        go_wp2_with fail
        refine (hm.out _ (k : Int) false ⟨fun h => (by cases h), fun h => absurd h km⟩ Rm5.out).mono ?_
        rintro e w' ⟨rfl, rfl⟩
        go_wp2_with fail
        refine (hx.out _ (k : Int) false ⟨fun h => (by cases h), fun h => absurd h kx⟩ Rx5.out).mono ?_
        rintro e w' ⟨rfl, rfl⟩
        go_wp2
        exact ⟨⟨k + 1, by omega, by go_num, by first | rfl | trivial⟩, by simp only [intOf]; omega⟩
    · obtain rfl : k = 16 := by omega
      obtain ⟨⟨k0, k1⟩, -⟩ := boxRg_at N5.out
      obtain ⟨⟨k2, k3⟩, -⟩ := boxRg_at M5.out
      have KS : Hid (∀ w', Below wr.heap.size wr w' → (w'.cell? ⟨w.heap.size, 0, none⟩ = some (.int .i64 q.k) ∧ w'.cell? ⟨w.heap.size, 1, none⟩ = some (.int .i64 q.y) ∧ w'.cell? ⟨w.heap.size + 1, 0, none⟩ = some (.int .i64 r.k) ∧ w'.cell? ⟨w.heap.size + 1, 1, none⟩ = some (.int .i64 r.y))) := by
        intro w' b
        obtain ⟨⟨a0, a1⟩, -⟩ := boxRg_at ((b.block w.heap.size (by omega)).trans N5.out)
        obtain ⟨⟨a2, a3⟩, -⟩ := boxRg_at ((b.block (w.heap.size + 1) (by omega)).trans M5.out)
        exact ⟨a0, a1, a2, a3⟩
      clear k0 k1 k2 k3
      by_cases hf : Free q.y r.y
      · have e0 : meetL q.y r.y = [] := hf
        have hb1 := NM.out.mp e0
        have hb2 : q.y ∈ nextL r.y := NB.out.mp (FS.out.mp hf)
        have hz : ((((meetL q.y r.y).length : Int) == 0) : Bool) = true := by rw [e0]; rfl
        have hvt : true = true ↔ OkT [q, r] := ⟨fun _ => (okT_two q r OQ.out OR.out).mpr hf, fun _ => rfl⟩
        clear e0 hf
        have VT := Lib.hid (fun w h => implTube_any (.slice (some ⟨wr.heap.size, 0, none⟩) 2 2) [q, r] w h (by simp) true hvt)
        clear hvt
        go_wp2_with fail
        go_region_held3 (fun w' => (w'.cell? ⟨w.heap.size, 0, none⟩ = some (.int .i64 q.k) ∧ w'.cell? ⟨w.heap.size, 1, none⟩ = some (.int .i64 q.y) ∧ w'.cell? ⟨w.heap.size + 1, 0, none⟩ = some (.int .i64 r.k) ∧ w'.cell? ⟨w.heap.size + 1, 1, none⟩ = some (.int .i64 r.y)))
          (first | exact KS.out _ (Below.refl _ _).drew | exact KS.out _ ((Below.refl _ _).drew.alloc (Nat.le_refl _) _) | exact KS.out _ B7.out)
          (first
            | (go_at_call 25; (first | with_reducible refine (hn.out _ r.y true ⟨fun _ => hb1, fun _ => rfl⟩ (Rn5.out.later (Below.refl _ _).drew)).mono ?_ | with_reducible refine (hbk.out _ q.y true ⟨fun _ => hb2, fun _ => rfl⟩ (Rb5.out.later (Below.refl _ _).drew)).mono ?_); rintro e w6 ⟨rfl, rfl⟩)
            | (go_at_call 26; refine (VT.out _ ((rds_lit2 wr q r _).later (Below.refl _ _).drew)).mono ?_; rintro e w7 ⟨rfl, b7⟩; have B7 : Hid (Below wr.heap.size wr w7) := ((Below.refl _ _).alloc (Nat.le_refl _) _).drew.trans (b7.mono (by simp))))
        go_wp2
        go_ret
        exact ⟨rfl, E5.out.trans (B7.out.mono (by omega))⟩
      · have e0 : meetL q.y r.y ≠ [] := hf
        have hb1 : r.y ∉ nextL q.y := fun h => e0 (NM.out.mpr h)
        have hb2 : q.y ∉ nextL r.y := fun h => hf (FS.out.mpr (NB.out.mpr h))
        have hz : ((((meetL q.y r.y).length : Int) == 0) : Bool) = false := by
          have := List.length_pos_iff.mpr e0
          simp only [beq_eq_false_iff_ne, ne_eq]
          omega
        have hvt : false = true ↔ OkT [q, r] := ⟨fun e => (by cases e), fun e => absurd ((okT_two q r OQ.out OR.out).mp e) hf⟩
        clear e0 hf
        have VT := Lib.hid (fun w h => implTube_any (.slice (some ⟨wr.heap.size, 0, none⟩) 2 2) [q, r] w h (by simp) false hvt)
        clear hvt
        go_wp2_with fail
        go_region_held3 (fun w' => (w'.cell? ⟨w.heap.size, 0, none⟩ = some (.int .i64 q.k) ∧ w'.cell? ⟨w.heap.size, 1, none⟩ = some (.int .i64 q.y) ∧ w'.cell? ⟨w.heap.size + 1, 0, none⟩ = some (.int .i64 r.k) ∧ w'.cell? ⟨w.heap.size + 1, 1, none⟩ = some (.int .i64 r.y)))
          (first | exact KS.out _ (Below.refl _ _).drew | exact KS.out _ ((Below.refl _ _).drew.alloc (Nat.le_refl _) _) | exact KS.out _ B7.out)
          (first
            | (go_at_call 25; (first | with_reducible refine (hn.out _ r.y false ⟨fun h => (by cases h), fun h => absurd h hb1⟩ (Rn5.out.later (Below.refl _ _).drew)).mono ?_ | with_reducible refine (hbk.out _ q.y false ⟨fun h => (by cases h), fun h => absurd h hb2⟩ (Rb5.out.later (Below.refl _ _).drew)).mono ?_); rintro e w6 ⟨rfl, rfl⟩)
            | (go_at_call 26; refine (VT.out _ ((rds_lit2 wr q r _).later (Below.refl _ _).drew)).mono ?_; rintro e w7 ⟨rfl, b7⟩; have B7 : Hid (Below wr.heap.size wr w7) := ((Below.refl _ _).alloc (Nat.le_refl _) _).drew.trans (b7.mono (by simp))))
        go_wp2
        go_ret
        exact ⟨rfl, E5.out.trans (B7.out.mono (by omega))⟩

set_option maxRecDepth 100000 in
theorem walkFnJoints (w : World) (a0 : Option Addr) (len0 cap0 : Nat) (z0 : List Int) (w0 : IsRow .u8 w a0 len0 cap0 z0) (a1 : Option Addr) (len1 cap1 : Nat) (z1 : List Int) (w1 : IsRow .u8 w a1 len1 cap1 z1) (T : TDebL w) :
    Calls Tryd.prog 7 #[.slice a0 len0 cap0, .slice a1 len1 cap1] w fun e w' => e = .returned (.bool true) ∧ Below w.heap.size w w' := by
  by_cases l0 : len0 ≤ 1048576 ∧ len1 ≤ 1048576
  · exact joints_law w a0 len0 cap0 z0 w0 a1 len1 cap1 z1 w1 T l0.1 l0.2
  · have cl := Lib.hid (fun w => b10Long_any a0 a1 len0 len1 cap0 cap1 true (by simp; omega) w)
    clear T w0 w1 l0
    go_enter Tryd.func7, Tryd.ntmps7
    go_wp2_with fail
    refine (cl.out _).mono ?_
    rintro e w' ⟨rfl, rfl⟩
    go_wp2
    go_ret
    exact ⟨rfl, Below.refl _ _⟩
end Go.Proofs.YtgockhlainnnnacDoor
