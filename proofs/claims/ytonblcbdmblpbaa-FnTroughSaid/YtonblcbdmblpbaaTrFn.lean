/- FnTrough: the parts of a trough add up to its volume, none is negative, opposite ones differ by at most 1. -/
import Derived.Test.YtonblcbdmblpbaaTrI
import Derived.Test.YtonblcbdmblpbaaB10T
import Derived.BigQuiet
namespace Go.Proofs.Ytonblcbdmblpbaa
open Go.ChangeShapes Go.WideShapes Go.ChangeAt Go.RowKit
set_option linter.unusedVariables false
set_option linter.unusedSimpArgs false

theorem rowP_even : ∀ n : Fin 11, ∀ k : Fin 12, k.val ≤ n.val + 1 → csum (rowP n.val) (n.val + 1 - k.val) = 2 ^ n.val - csum (rowP n.val) k.val := by decide +kernel
theorem csum_even {n k : Nat} (hn : n ≤ 10) (hk : k ≤ n + 1) : csum (rowP n) (n + 1 - k) = 2 ^ n - csum (rowP n) k := rowP_even ⟨n, by omega⟩ ⟨k, by omega⟩ hk
theorem csum_up {zs : List Int} {hi : Int} (h : AllIn 0 hi zs) (k : Nat) : csum zs k ≤ csum zs (k + 1) := by
  simp only [csum, List.getD]
  cases hx : zs[k]? with
  | none => simp only [Option.getD_none]; omega
  | some g => have := h.at hx; simp only [Option.getD_some]; omega

theorem ediv_neg_or (a p : Int) (hp : 0 < p) : (-a) / p = -(a / p) ∨ (-a) / p = -(a / p) - 1 := by
  have h1 := Int.mul_ediv_add_emod a p
  have h2 := Int.emod_nonneg a (show p ≠ 0 by omega)
  have h3 := Int.emod_lt_of_pos a hp
  have h4 := Int.mul_ediv_add_emod (-a) p
  have h5 := Int.emod_nonneg (-a) (show p ≠ 0 by omega)
  have h6 := Int.emod_lt_of_pos (-a) hp
  generalize a / p = x at *
  generalize a % p = r at *
  generalize (-a) / p = y at *
  generalize (-a) % p = s at *
  have e : p * (x + y) = -(r + s) := by rw [Int.mul_add]; omega
  have l1 : x + y ≤ 0 := by
    by_cases c : 1 ≤ x + y
    · have := Int.mul_le_mul_of_nonneg_left c (show 0 ≤ p by omega); omega
    · omega
  have l2 : -2 < x + y := by
    by_cases c : x + y ≤ -2
    · have := Int.mul_le_mul_of_nonneg_left c (show 0 ≤ p by omega); omega
    · omega
  omega

theorem untilT_ediv {v : Int} {n k : Nat} (h0 : 0 ≤ v) (h1 : v ≤ 100000) (hn : n ≤ 10) (hk : k ≤ 11) : untilT v n k = (v * csum (rowP n) k) / 2 ^ n := by
  have c0 := csum_nonneg (rowP_in (n := n) (by omega)) k
  have c1 := rowP_sum_le hn hk
  obtain ⟨p0, p1⟩ := pow_in hn
  obtain ⟨m0, m1⟩ := prod_bd h0 h1 c0 (by omega)
  unfold untilT
  rw [Int.tdiv_eq_ediv_of_nonneg m0]
theorem untilT_up {v : Int} {n k : Nat} (h0 : 0 ≤ v) (h1 : v ≤ 100000) (hn : n ≤ 10) (hk : k + 1 ≤ 11) : untilT v n k ≤ untilT v n (k + 1) := by
  rw [untilT_ediv h0 h1 hn (by omega), untilT_ediv h0 h1 hn hk]
  obtain ⟨p0, p1⟩ := pow_in hn
  exact Int.ediv_le_ediv (by omega) (Int.mul_le_mul_of_nonneg_left (csum_up (rowP_in (n := n) (by omega)) k) h0)
theorem untilT_last {v : Int} {n : Nat} (h0 : 0 ≤ v) (h1 : v ≤ 100000) (hn : n ≤ 10) : untilT v n (n + 1) = v := by
  rw [untilT_ediv h0 h1 hn (by omega), show csum (rowP n) (n + 1) = 2 ^ n from (rowP_sums ⟨n, by omega⟩ 0).2]
  obtain ⟨p0, p1⟩ := pow_in hn
  exact Int.mul_ediv_cancel _ (by omega)
theorem sumB_trough (v : Int) (n : Nat) : ∀ k, k ≤ n + 1 → sumB (troughL v n) k = untilT v n k := by
  intro k
  induction k with
  | zero => intro _; rw [untilT_zero]; rfl
  | succ k ih =>
    intro hk
    rw [sumB_succ (troughL_get v (by omega)), ih (by omega)]
    unfold partT; omega
theorem partT_nonneg {v : Int} {n k : Nat} (h0 : 0 ≤ v) (h1 : v ≤ 100000) (hn : n ≤ 10) (hk : k ≤ n) : 0 ≤ partT v n k ∧ partT v n k ≤ 102400000 := by
  have a := untilT_up (k := k) h0 h1 hn (by omega)
  have b := (untilT_bd (k := k + 1) h0 h1 hn (by omega)).2
  have c := (untilT_bd (k := k) h0 h1 hn (by omega)).1
  unfold partT; omega
/-- Opposite parts differ by at most 1. -/
theorem partT_even {v : Int} {n k : Nat} (h0 : 0 ≤ v) (h1 : v ≤ 100000) (hn : n ≤ 10) (hk : k ≤ n) : -1 ≤ partT v n k - partT v n (n - k) ∧ partT v n k - partT v n (n - k) ≤ 1 := by
  obtain ⟨p0, p1⟩ := pow_in hn
  unfold partT
  rw [untilT_ediv h0 h1 hn (by omega), untilT_ediv h0 h1 hn (by omega), untilT_ediv h0 h1 hn (by omega), untilT_ediv h0 h1 hn (by omega)]
  have e1 : csum (rowP n) (n - k + 1) = 2 ^ n - csum (rowP n) k := by have := csum_even (n := n) (k := k) hn (by omega); rwa [show n + 1 - k = n - k + 1 by omega] at this
  have e2 : csum (rowP n) (n - k) = 2 ^ n - csum (rowP n) (k + 1) := by have := csum_even (n := n) (k := k + 1) hn (by omega); rwa [show n + 1 - (k + 1) = n - k by omega] at this
  rw [e1, e2]
  generalize (2 : Int) ^ n = P at *
  have m1 : ∀ c : Int, v * (P - c) / P = v + (-(v * c)) / P := by
    intro c
    rw [Int.mul_sub, show v * P - v * c = -(v * c) + v * P by omega, Int.add_mul_ediv_right _ _ (by omega)]; omega
  rw [m1, m1]
  have a := ediv_neg_or (v * csum (rowP n) k) P (by omega)
  have b := ediv_neg_or (v * csum (rowP n) (k + 1)) P (by omega)
  omega

set_option maxRecDepth 100000 in
set_option maxHeartbeats 8000000 in
theorem walkFnTrough (w : World) (a0 : Option Addr) (len0 cap0 : Nat) (z0 : List Int) (w0 : IsRow .u8 w a0 len0 cap0 z0) (a1 : Option Addr) (len1 cap1 : Nat) (z1 : List Int) (w1 : IsRow .u8 w a1 len1 cap1 z1) :
    Calls Try.prog 3 #[.slice a0 len0 cap0, .slice a1 len1 cap1] w fun e w' => e = .returned (.bool true) ∧ Below w.heap.size w w' := by
  have l0 := w0.len_le
  have l1 := w1.len_le
  by_cases h : len0 ≤ 1048576 ∧ len1 ≤ 1048576
  · have LG := Lib.hid (fun w => b10Long_any a0 a1 len0 len1 cap0 cap1 false (by simp; omega) w)
    have A0 := Lib.hid (b10At_any a0 len0 cap0 z0 w w0 h.1 0 (by omega) 256 (by omega) (by omega))
    have A1 := Lib.hid (b10At_any a0 len0 cap0 z0 w w0 h.1 1 (by omega) 256 (by omega) (by omega))
    have A2 := Lib.hid (b10At_any a0 len0 cap0 z0 w w0 h.1 2 (by omega) 6 (by omega) (by omega))
    clear h w0 w1 l0 l1
    go_enter Try.func3, Try.ntmps3
    go_wp2_with fail
    refine (LG.out _).mono ?_
    rintro e w' ⟨rfl, rfl⟩
    go_wp2_with fail
    refine A0.out.mono ?_
    rintro e w' ⟨x, rfl, x0, x1, rfl⟩
    have q0 : IntKind.i64.wrap (256 * x) = 256 * x := IntWalk.i64_in _ (by omega)
    go_wp2_with fail
    refine A1.out.mono ?_
    rintro e w' ⟨y, rfl, y0, y1, rfl⟩
    obtain ⟨v, hv⟩ : ∃ v, v = 256 * x + y := ⟨_, rfl⟩
    have v0 : 0 ≤ v := by omega
    have v1 : v ≤ 100000 := by omega
    have q1 : IntKind.i64.wrap (256 * x + y) = v := by rw [IntWalk.i64_in _ (by omega), hv]
    have HV := Lib.hid hv
    clear hv
    go_wp2_with fail
    refine A2.out.mono ?_
    rintro e w' ⟨wd, rfl, d0, d1, rfl⟩
    obtain ⟨T, hT⟩ : ∃ T, T = 2 * wd.toNat := ⟨_, rfl⟩
    have T10 : T ≤ 10 := by omega
    have qT : IntKind.i64.wrap (2 * wd) = (T : Int) := by rw [IntWalk.i64_in _ (by omega)]; omega
    obtain ⟨L, hL⟩ : ∃ L, L = troughL v T := ⟨_, rfl⟩
    have HL := Lib.hid hL
    obtain ⟨m, hm⟩ : ∃ m, m = T + 1 := ⟨_, rfl⟩
    have HM := Lib.hid hm
    have m11 : m ≤ 11 := by omega
    have LN : Hid (L.length = m) := by show _ = _; rw [hL, troughL_len, hm]
    have C3 := Lib.hid (fun w => implTrough_yes v wd ⟨⟨v0, v1⟩, by omega⟩ w)
    rw [← hT, ← hL] at C3
    have q2 : IntKind.i64.wrap ((T : Int) + 1) = (m : Int) := by rw [IntWalk.i64_in _ (by omega)]; omega
    have SB : Hid (sumB L L.length = v) := by show _ = _; rw [LN.out, HL.out, hm, sumB_trough v T _ (Nat.le_refl _), untilT_last v0 v1 T10]
    have AL : Hid (AllIn 0 1000000000 L) := by
      intro z hz
      obtain ⟨k, hk⟩ := List.getElem?_of_mem hz
      have kl : k < T + 1 := by have := (List.getElem?_eq_some_iff.1 hk).1; rw [LN.out] at this; omega
      rw [HL.out, troughL_get v kl] at hk
      obtain rfl := Option.some.inj hk
      have := partT_nonneg (k := k) v0 v1 T10 (by omega)
      omega
    clear hT hL hm A0 A1 A2 LG x0 x1 y0 y1
    go_wp2_with fail
    refine (C3.out _).mono ?_
    rintro e w2 ⟨u, rfl, o2, b2⟩
    obtain ⟨g, c, rfl, gl, gh⟩ := o2.formed LN.out (by have := HM.out; omega)
    have RR := Lib.hid o2.rd
    have B2 := Lib.hid b2
    have CS := Lib.hid (b10Sum_any (.slice (some ⟨g, 0, none⟩) m c) L w2 o2.rd (by have := LN.out; omega) AL.out)
    rw [SB.out] at CS
    clear o2 b2 C3 SB
    have nv : ((v != v) : Bool) = false := by simp
    have nm : (((m : Int) != (m : Int)) : Bool) = false := by simp
    go_wp2_with fail
    refine CS.out.mono ?_
    rintro e w3 ⟨rfl, rfl⟩
    clear CS
    go_wp2
    go_loopw [9] (fun i wr => ∃ k : Nat, k ≤ m ∧ i = .int .i64 k ∧ Hid (Below w2.heap.size w2 wr)) (fun i _ => m - (intOf i).toNat)
    case atStart => exact ⟨0, by omega, rfl, Below.refl _ _⟩
    case round =>
      obtain ⟨k, hk, rfl, hbl⟩ := hrel
      by_cases hlt : k < m
      · obtain ⟨j, hj⟩ : ∃ j, j = T - k := ⟨_, rfl⟩
        have jm : j < m := by have := HM.out; omega
        have kT : k ≤ T := by have := HM.out; omega
        have hx := troughL_get v (n := T) (k := k) (by omega)
        have hy := troughL_get v (n := T) (k := j) (by omega)
        rw [← HL.out] at hx hy
        have n0 := partT_nonneg (k := k) v0 v1 T10 kT
        have n1 := partT_nonneg (k := j) v0 v1 T10 (by omega)
        have ev := partT_even (k := k) v0 v1 T10 kT
        rw [← hj] at ev
        obtain ⟨x, hxx⟩ : ∃ x, x = partT v T k := ⟨_, rfl⟩
        obtain ⟨y, hyy⟩ : ∃ y, y = partT v T j := ⟨_, rfl⟩
        rw [← hxx] at hx n0 ev
        rw [← hyy] at hy n1 ev
        have cx := (hbl.out.cell (p := ⟨g, k, none⟩) gh).trans (RR.out.cellAt hx)
        have cy := (hbl.out.cell (p := ⟨g, j, none⟩) gh).trans (RR.out.cellAt hy)
        obtain ⟨D, hD⟩ : ∃ D, (if x - y < 0 then -(x - y) else x - y) = D := ⟨_, rfl⟩
        have D1 : D ≤ 1 := by rw [← hD]; split <;> omega
        have CA := Lib.hid (fun w => b10Abs_any (x - y) D (by omega) hD w)
        have q3 : IntKind.i64.wrap (x - y) = x - y := IntWalk.i64_in _ (by omega)
        have q4 : IntKind.i64.wrap ((m : Int) - 1) = (T : Int) := by rw [IntWalk.i64_in _ (by omega)]; have := HM.out; omega
        have q5 : IntKind.i64.wrap ((T : Int) - (k : Int)) = (j : Int) := by rw [IntWalk.i64_in _ (by omega)]; omega
        have g1 : decide (x < 0) = false := decide_eq_false (by omega)
        have g2 : decide (1 < D) = false := decide_eq_false (by omega)
        clear hj hx hy hxx hyy n0 n1 ev hD
        go_wp2
        go_quiet ((go_at_call 14; exact (CA.out _).mono fun _ _ h => ⟨h.1, ⟨_, h.2.symm⟩⟩))
        go_wp2
        exact ⟨⟨k + 1, by omega, by go_num, below_drewN hbl.out _⟩, by simp only [intOf]; omega⟩
      · obtain rfl : k = m := by omega
        go_wp2
        go_ret
        exact ⟨rfl, B2.out.trans (hbl.out.mono B2.out.size)⟩
  · have LG := Lib.hid (fun w => b10Long_any a0 a1 len0 len1 cap0 cap1 true (by simp; omega) w)
    go_enter Try.func3, Try.ntmps3
    go_wp2_with fail
    refine (LG.out _).mono ?_
    rintro e w' ⟨rfl, rfl⟩
    go_wp2
    go_ret
    exact ⟨rfl, Below.refl _ _⟩
end Go.Proofs.Ytonblcbdmblpbaa
