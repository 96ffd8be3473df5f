/- Greatest common divisors and lowest terms: both sides. -/
import Derived.Test.YtcmocilojloolaaDoorNetO
import Derived.Test.YtcmocilojloolaaDoorAppI
namespace Go.Proofs.YtcmocilojloolaaDoor
open Go.ChangeShapes Go.WideShapes Go.ChangeAt Go.RowKit
set_option linter.unusedVariables false
set_option linter.unusedSimpArgs false

theorem gcd_nat (a b : Int) (ha : 0 ≤ a) : Int.gcd a b = Int.gcd a (b.natAbs : Int) := by simp [Int.gcd]
theorem gcd_zero_r (a : Int) (ha : 0 ≤ a) : (Int.gcd a 0 : Int) = a := by simp [Int.gcd]; omega
theorem tdiv_bd {a d M : Int} (h : Bd M a) (hd : 0 < d) : Bd M (a.tdiv d) := by
  unfold Bd at *
  have h1 : (a.tdiv d).natAbs ≤ a.natAbs := by rw [Int.natAbs_tdiv]; exact Nat.div_le_self _ _
  omega
def lowL (U : Int) (zs : List Int) : List Int := zs.map fun z => z.tdiv (gcdL U zs)
def lowU (U : Int) (zs : List Int) : Int := U.tdiv (gcdL U zs)
theorem lowL_len (U : Int) (zs : List Int) : (lowL U zs).length = zs.length := by simp [lowL]
theorem lowL_get {U : Int} {zs : List Int} {k : Nat} {z : Int} (h : zs[k]? = some z) : (lowL U zs)[k]? = some (z.tdiv (gcdL U zs)) := by simp [lowL, h]
theorem gcdL_take {U : Int} {zs : List Int} {k : Nat} {z : Int} (h : zs[k]? = some z) : gcdL U (zs.take (k + 1)) = (Int.gcd (gcdL U (zs.take k)) z : Int) := by
  have app : ∀ (a : List Int) (d z : Int), gcdL d (a ++ [z]) = (Int.gcd (gcdL d a) z : Int) := by
    intro a
    induction a with
    | nil => intro d z; rfl
    | cons x xs ih => intro d z; exact ih _ z
  rw [List.take_add_one, h]
  exact app _ _ _
theorem gcdL_le {U : Int} {zs : List Int} (hU : 0 < U) : 0 < gcdL U zs ∧ gcdL U zs ≤ U := by
  have h1 := gcdL_pos zs U hU
  exact ⟨h1, Int.le_of_dvd hU (gcdL_dvd zs U).1⟩

set_option maxRecDepth 100000 in
set_option maxHeartbeats 4000000 in
theorem cd_any (a b : Int) (ha : 0 ≤ a ∧ a ≤ 1000000000000000000) (hb : 0 ≤ b ∧ b ≤ 1000000000000000000) (w : World) :
    Calls Tryd.prog 90 #[.int .i64 a, .int .i64 b] w fun e w' => e = .returned (.int .i64 (Int.gcd a b)) ∧ Below w.heap.size w w' := by
  obtain ⟨G, hG⟩ : ∃ G : Int, G = (Int.gcd a b : Int) := ⟨_, rfl⟩
  have HG : Hid ((Int.gcd a b : Int) = G) := hG.symm
  rw [← hG]
  clear hG
  go_enter Tryd.func90, Tryd.ntmps90
  go_wp2
  go_loopw [0, 1] (fun u v wr => ∃ x y : Int, (0 ≤ x ∧ x ≤ 1000000000000000000) ∧ (0 ≤ y ∧ y ≤ 1000000000000000000) ∧ u = .int .i64 x ∧ v = .int .i64 y ∧ Hid ((Int.gcd x y : Int) = G) ∧ Hid (Below w.heap.size w wr)) (fun _ v _ => (intOf v).toNat)
  case atStart => exact ⟨a, b, ha, hb, rfl, rfl, HG, Below.refl _ _⟩
  case round =>
    obtain ⟨x, y, hx, hy, rfl, rfl, hg, B⟩ := hrel
    clear HG
    by_cases y0 : y = 0
    · subst y0
      obtain rfl : x = G := by have := hg.out; rw [gcd_zero_r x hx.1] at this; exact this
      clear hg
      go_wp2
      go_ret
      exact ⟨rfl, B.out⟩
    · have yp : 0 < y := by omega
      have y1 : (y != 0) = true := by simpa using y0
      have y2 : (y == 0) = false := by simpa using y0
      have em : x.tmod y = x % y := Int.tmod_eq_emod_of_nonneg hx.1
      have g1 : Hid ((Int.gcd y (x % y) : Int) = G) := by show _ = _; rw [← em, ← gcd_step x y hx.1 yp]; exact hg.out
      have r0 : 0 ≤ x % y ∧ x % y < y := ⟨Int.emod_nonneg _ (by omega), Int.emod_lt_of_pos _ yp⟩
      have q1 : IntKind.i64.wrap (x % y) = x % y := IntWalk.i64_in _ (by omega)
      have q2 : IntKind.i64.wrap (x.tmod y) = x % y := by rw [em]; exact q1
      have BE : Hid (Below w.heap.size w wr.drew) := B.out.drew
      clear hg y0
      go_wp2_with fail
      go_region
      all_goals
        go_wp2
        exact ⟨⟨y, x % y, hy, ⟨r0.1, by omega⟩, rfl, rfl, g1, BE⟩, by simp only [intOf]; omega⟩

theorem absN_any (n : Int) (hn : Bd 1000000000000000000 n) (w : World) :
    Calls Tryd.prog 91 #[.int .i64 n] w fun e w' => e = .returned (.int .i64 (n.natAbs : Int)) ∧ w' = w := by
  unfold Bd at hn
  have q1 : IntKind.i64.wrap (-n) = -n := IntWalk.i64_in _ (by omega)
  obtain ⟨r, hr⟩ : ∃ r : Int, r = (n.natAbs : Int) := ⟨_, rfl⟩
  rw [← hr]
  by_cases hlt : n < -n
  · obtain rfl : r = -n := by omega
    clear hr hn
    go_enter Tryd.func91, Tryd.ntmps91
    go_wp2
    go_ret
    exact ⟨rfl, rfl⟩
  · obtain rfl : r = n := by omega
    clear hr hn
    go_enter Tryd.func91, Tryd.ntmps91
    go_wp2
    go_ret
    exact ⟨rfl, rfl⟩

set_option maxRecDepth 100000 in
set_option maxHeartbeats 8000000 in
theorem lowest_any (U : Int) (hU : 0 < U ∧ U ≤ 1000000000000000000) (v : Value) (zs : List Int) (w : World) (h : RdI w v zs) (hl : zs.length ≤ 100) (hz : ∀ z ∈ zs, Bd 1000000000000000000 z) :
    Calls Tryd.prog 59 #[.int .i64 U, v] w fun e w' => ∃ u, e = .returned (.tuple #[.int .i64 (lowU U zs), u]) ∧ OwnI w' w.heap.size u (lowL U zs) ∧ Below w.heap.size w w' := by
  obtain ⟨i0, hi, hz0, hz1, hz2⟩ := info_parts info_i64
  obtain ⟨a, cap, rfl, ra⟩ := id h
  obtain ⟨n, hn⟩ : ∃ n, n = zs.length := ⟨_, rfl⟩
  have H := Lib.hid h
  rw [← hn] at H hl
  rw [← hn]
  have HN := Lib.hid hn
  have HZ := Lib.hid hz
  have LN : Hid ((lowL U zs).length = n) := by show _ = _; rw [lowL_len]; exact hn.symm
  have GP : Hid (∀ k, 0 < gcdL U (zs.take k) ∧ gcdL U (zs.take k) ≤ U) := fun k => gcdL_le hU.1
  have G0 : Hid (U = gcdL U (zs.take 0)) := by show _ = _; simp [gcdL]
  have CA := Lib.hid (fun n hn w => absN_any n hn w)
  obtain ⟨Q, hQ⟩ : ∃ Q, Q = lowU U zs := ⟨_, rfl⟩
  have HQ := Lib.hid hQ
  rw [← hQ]
  clear h ra hn hz hQ
  go_enter Tryd.func59, Tryd.ntmps59
  go_wp2
  go_loopw [6, 8, 15] (fun dv _ iv wr => ∃ (k : Nat) (d : Int), k ≤ n ∧ iv = .int .i64 k ∧ dv = .int .i64 d ∧ Hid (d = gcdL U (zs.take k)) ∧ Hid (Below w.heap.size w wr)) (fun _ _ iv _ => n - (intOf iv).toNat)
  case atStart => exact ⟨0, U, by omega, rfl, rfl, G0, Below.refl _ _⟩
  case round =>
    obtain ⟨k, d, hk, rfl, rfl, hd, B⟩ := hrel
    by_cases hlt : k < n
    · obtain ⟨z, hz⟩ : ∃ z, zs[k]? = some z := ⟨_, List.getElem?_eq_getElem (by have := HN.out; omega)⟩
      obtain ⟨b, off, rfl, c1⟩ := (H.out.later B.out).atV k z hz
      have zb := HZ.out z (List.mem_of_getElem? hz)
      have gp := GP.out k
      rw [← hd.out] at gp
      have ND : Hid ((Int.gcd d (z.natAbs : Int) : Int) = gcdL U (zs.take (k + 1))) := by show _ = _; rw [gcdL_take hz, ← hd.out, ← gcd_nat d z (by omega)]
      have CC := Lib.hid (fun w => cd_any d (z.natAbs : Int) (by omega) (by unfold Bd at zb; omega) w)
      have C1 := Lib.hid (CA.out z zb wr)
      clear hz hd zb gp
      go_wp2_with fail
      refine C1.out.mono ?_
      rintro e w1 ⟨rfl, rfl⟩
      go_wp2_with fail
      refine (CC.out _).mono ?_
      rintro e w2 ⟨rfl, b2⟩
      have B2 : Hid (Below w.heap.size w w2) := B.out.trans (b2.mono B.out.size)
      clear b2 CC C1 B
      go_wp2
      exact ⟨⟨k + 1, _, by omega, by go_num, rfl, ND, B2⟩, by simp only [intOf]; omega⟩
    · obtain rfl : k = n := by omega
      have hd2 : Hid (d = gcdL U zs) := by show _ = _; rw [hd.out, List.take_of_length_le (by have := HN.out; omega)]
      have gp := GP.out k
      rw [← hd.out] at gp
      have d0 : (d == 0) = false := by simp; omega
      have d1 : ¬ d = 0 := by omega
      obtain ⟨wo, hwo⟩ : ∃ x, x = wr := ⟨_, rfl⟩
      subst hwo
      clear hd
      go_wp2_with (first | (at_make; refine wpList_make_full _ rfl _ _ _ rfl wo.heap.size 2 i0 (.int .i64 0) 1 Tryd.underlying28 hi hz0 hz1 .i64 .i64 _ _ k rfl rfl rfl rfl ?b2 ?b3 (Nat.le_refl _) ?_) | go_in)
      case b2 => rw [hz2]; omega
      case b3 => unfold maxLen; omega
      intro w1 hown hg
      rw [toList_madeCells_one] at hown
      have O1 : Hid (OwnI w1 wo.heap.size (.slice (some ⟨wo.heap.size, 0, none⟩) k k) (part (lowL U zs) k 0)) := part_made hown
      have B1 : Hid (Below wo.heap.size wo w1) := (Below.refl _ _).grown hg (Nat.le_refl _) (fun k h => by cases h)
      clear hown hg
      go_wp2
      go_loopw [10, 11, 29] (fun _ _ iv wr => ∃ j : Nat, j ≤ k ∧ iv = .int .i64 j ∧ Hid (OwnI wr wo.heap.size (.slice (some ⟨wo.heap.size, 0, none⟩) k k) (part (lowL U zs) k j)) ∧ Hid (Below wo.heap.size wo wr)) (fun _ _ iv _ => k - (intOf iv).toNat)
      case atStart => exact ⟨0, by omega, rfl, O1, B1⟩
      case round =>
        obtain ⟨j, hj, rfl, ho, B2⟩ := hrel
        clear O1 B1
        by_cases hlt2 : j < k
        · obtain ⟨z, hz⟩ : ∃ z, zs[j]? = some z := ⟨_, List.getElem?_eq_getElem (by have := HN.out; omega)⟩
          obtain ⟨b, off, rfl, c1⟩ := ((H.out.later B.out).later B2.out).atV j z hz
          have zb := HZ.out z (List.mem_of_getElem? hz)
          have tb := tdiv_bd zb (show 0 < d by omega)
          have EV : Hid ((lowL U zs)[j]? = some (z.tdiv d)) := by show _ = _; rw [lowL_get hz, hd2.out]
          unfold Bd at tb
          have q1 : IntKind.i64.wrap (z.tdiv d) = z.tdiv d := IntWalk.i64_in _ (by omega)
          obtain ⟨d2, z2⟩ := part_cell LN.out hlt2 ho.out
          have OE := Lib.hid (part_store LN.out EV.out ho.out)
          have BE : Hid (Below wo.heap.size wo (wr.setCell ⟨wo.heap.size, j, none⟩ (.int .i64 (z.tdiv d)))) := B2.out.setCell (Nat.le_refl _) _
          have sz := B2.out.size
          have lb : b < wr.heap.size := World.block_lt_of_cell? wr _ c1
          clear hz zb tb EV ho B2
          go_wp2
          exact ⟨⟨j + 1, by omega, by go_num, OE, BE⟩, by simp only [intOf]; omega⟩
        · obtain rfl : j = k := by omega
          have O5 := ho.out
          rw [part_all LN.out] at O5
          have O6 := Lib.hid (OwnI.mono O5 B.out.size)
          have BF : Hid (Below w.heap.size w wr) := B.out.trans (B2.out.mono B.out.size)
          have tb := tdiv_bd (M := 1000000000000000000) (a := U) (d := d) (by unfold Bd; omega) (by omega)
          unfold Bd at tb
          obtain rfl : Q = U.tdiv d := by rw [HQ.out]; unfold lowU; rw [hd2.out]
          have q1 : IntKind.i64.wrap (U.tdiv d) = U.tdiv d := IntWalk.i64_in _ (by omega)
          clear O5 ho B2 tb
          go_wp2
          go_ret2
          exact ⟨_, rfl, O6.out, BF.out⟩
end Go.Proofs.YtcmocilojloolaaDoor
