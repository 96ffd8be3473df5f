/- Numbers read from their texts: the specification. -/
import Derived.Test.YtkdecpnbbpmooacDoorRd
import Derived.LoopTactic
namespace Go.Proofs.YtkdecpnbbpmooacDoor
open Go.ChangeShapes Go.WideShapes Go.ChangeAt Go.RowKit
set_option linter.unusedVariables false
set_option linter.unusedSimpArgs false

/-- The digits of a text that begin at f spell u: what is signed by f. -/
def valOf (f : Nat) (u : Nat) : Int := if f = 1 then -(u : Int) else u
/-- Where the digits of a text begin. -/
def fromL (l : List UInt8) : Nat := if l.head? = some 45 then 1 else 0

theorem itoa_parts (m : Int) : ∃ u : Nat, (Lib.itoa m).drop (fromL (Lib.itoa m)) = Lib.decDigits u ∧ valOf (fromL (Lib.itoa m)) u = m := by
  by_cases h : m < 0
  · refine ⟨m.natAbs, ?_, ?_⟩
    · have e : Lib.itoa m = 45 :: Lib.decDigits m.natAbs := by unfold Lib.itoa; rw [if_pos h]
      rw [e]; rfl
    · have e : Lib.itoa m = 45 :: Lib.decDigits m.natAbs := by unfold Lib.itoa; rw [if_pos h]
      rw [e]
      show (if (1 : Nat) = 1 then -((m.natAbs : Nat) : Int) else _) = m
      rw [if_pos rfl]; omega
  · have e : Lib.itoa m = Lib.decDigits m.toNat := by unfold Lib.itoa; rw [if_neg h]
    obtain ⟨c, r, hc⟩ := List.exists_cons_of_ne_nil (decDigits_ne m.toNat)
    have hd := decDigits_digit m.toNat c (by rw [hc]; simp)
    have hf : fromL (Lib.itoa m) = 0 := by
      unfold fromL
      rw [e, hc, if_neg]
      intro h
      have : c = 45 := by simpa using h
      subst this
      simp at hd
    refine ⟨m.toNat, ?_, ?_⟩
    · rw [hf, e]; rfl
    · rw [hf]
      show (if (0 : Nat) = 1 then _ else ((m.toNat : Nat) : Int)) = m
      rw [if_neg (by omega)]; omega

/-- A text whose digits are none is no number's. -/
theorem not_digit {l : List UInt8} {i : Nat} {c : UInt8} (hf : fromL l ≤ i) (hc : l[i]? = some c) (hd : ¬ (48 ≤ c.toNat ∧ c.toNat ≤ 57)) (m : Int) : l ≠ Lib.itoa m := by
  intro e
  obtain ⟨u, h1, -⟩ := itoa_parts m
  rw [← e] at h1
  have hm : c ∈ l.drop (fromL l) := by
    refine List.mem_of_getElem? (i := i - fromL l) ?_
    rw [List.getElem?_drop, show fromL l + (i - fromL l) = i by omega]
    exact hc
  rw [h1] at hm
  exact hd (decDigits_digit u c hm)

theorem value_of {l : List UInt8} {u : Nat} (hu : Lib.decFrom 0 (l.drop (fromL l)) = some u) (m : Int) (e : l = Lib.itoa m) : valOf (fromL l) u = m := by
  obtain ⟨v, h1, h2⟩ := itoa_parts m
  rw [← e] at h1 h2
  rw [h1, decFrom_digits] at hu
  cases hu
  exact h2

theorem decFrom_step {l : List UInt8} {k u : Nat} {c : UInt8} (hu : Lib.decFrom 0 (l.take k) = some u) (hc : l[k]? = some c) (hd : 48 ≤ c.toNat ∧ c.toNat ≤ 57) : Lib.decFrom 0 (l.take (k + 1)) = some (u * 10 + (c.toNat - 48)) := by
  rw [List.take_add_one, hc]
  show Lib.decFrom 0 (l.take k ++ [c]) = _
  rw [decFrom_append, hu]
  simp only [Lib.digitVal, if_pos hd, Option.bind_some, Option.map_some]

theorem byte_of (s : ByteArray) (j : Nat) (h : j < s.size) : s.data.toList[j]? = some s[j] := by
  rw [List.getElem?_eq_getElem (by rw [show s.data.toList.length = s.size by simp]; exact h)]
  rfl

set_option maxRecDepth 100000 in
set_option maxHeartbeats 8000000 in
theorem l01Value_0 (s : ByteArray) (hf : 0 = fromL s.data.toList) (hs1 : 0 < s.size) (hs2 : s.size ≤ 11) (g0 : ((s[0].toNat : Int) == 45) = false) (n : Int) (b : Bool) (h : DecRes s.data.toList n b) (w : World) :
    Calls Tryd.prog 40 #[.string s] w fun e w' => e = .returned (.tuple #[.int .i64 n, .bool b]) ∧ Below w.heap.size w w' := by
  have HF := Lib.hid hf
  have HD := Lib.hid h
  have z1 : ¬ s.size = 0 := by omega
  have z2 : ¬ (11 : Int) < (s.size : Int) := by omega
  have SL : Hid (s.data.toList.length = s.size) := by show _ = _; simp
  have U0 : Hid (Lib.decFrom 0 ((s.data.toList.drop 0).take 0) = some 0) := by show _ = _; simp [Lib.decFrom]
  clear hf h
  go_enter Tryd.func40, Tryd.ntmps40
  go_wp2
  go_loop [4, 6] (fun v i => ∃ j u : Nat, 0 ≤ j ∧ j ≤ s.size ∧ i = .int .i64 (j : Int) ∧ v = .int .i64 (u : Int) ∧ Hid (Lib.decFrom 0 ((s.data.toList.drop 0).take (j - 0)) = some u) ∧ u < 10 ^ (j - 0)) (fun _ i => s.size - (intOf i).toNat)
  case atStart => exact ⟨0, 0, by omega, by omega, by simp, by simp, U0, by simp⟩
  case round =>
    obtain ⟨j, u, hj1, hj2, rfl, rfl, HU, hu⟩ := hrel
    clear U0 g0
    have hp : (10 : Nat) ^ (j - 0) ≤ 10 ^ 11 := Nat.pow_le_pow_right (by decide) (by omega)
    have e11 : (10 : Nat) ^ 11 = 100000000000 := by decide
    have hub : u < 100000000000 := by omega
    by_cases hlt : j < s.size
    · have hps : u * 10 + 9 < 10 ^ (j + 1 - 0) := by
        have e : j + 1 - 0 = (j - 0) + 1 := by omega
        rw [e, Nat.pow_succ]; omega
      clear hp e11 hu
      have hc : s.data.toList[j]? = some s[j] := byte_of s j hlt
      have HC := Lib.hid hc
      have HPS := Lib.hid hps
      clear hc hps
      by_cases h1 : (s[j].toNat : Int) < 48
      · obtain ⟨rfl, rfl⟩ := decRes_no HD.out (fun m _ => not_digit (i := j) (by rw [← HF.out]; exact hj1) HC.out (by omega) m)
        clear HD HF HU HC HPS
        go_wp2
        go_ret2
        exact ⟨rfl, Below.refl _ _⟩
      · by_cases h2 : (57 : Int) < (s[j].toNat : Int)
        · obtain ⟨rfl, rfl⟩ := decRes_no HD.out (fun m _ => not_digit (i := j) (by rw [← HF.out]; exact hj1) HC.out (by omega) m)
          clear HD HF HU HC HPS
          go_wp2
          go_ret2
          exact ⟨rfl, Below.refl _ _⟩
        · have q1 : IntKind.u8.wrap ((s[j].toNat : Int) - 48) = (s[j].toNat : Int) - 48 := by
            have := s[j].toNat_lt
            unfold IntKind.wrap
            simp only [IntKind.bits, IntKind.signed, Bool.false_and, Bool.false_eq_true, if_false]
            omega
          have q2 : IntKind.i64.wrap (10 * (u : Int)) = 10 * (u : Int) := IntWalk.i64_in _ (by omega)
          have q3 : IntKind.i64.wrap (10 * (u : Int) + ((s[j].toNat : Int) - 48)) = 10 * (u : Int) + ((s[j].toNat : Int) - 48) := IntWalk.i64_in _ (by omega)
          have q4 : IntKind.i64.wrap ((j : Int) + 1) = ((j + 1 : Nat) : Int) := by push_cast; exact IntWalk.i64_in _ (by omega)
          have HU2 : Hid (Lib.decFrom 0 ((s.data.toList.drop 0).take (j + 1 - 0)) = some (u * 10 + (s[j].toNat - 48))) := by
            show _ = _
            rw [show j + 1 - 0 = (j - 0) + 1 by omega]
            exact decFrom_step HU.out (by rw [List.getElem?_drop, show 0 + (j - 0) = j by omega]; exact HC.out) (by omega)
          have VE : Hid ((10 * (u : Int) + ((s[j].toNat : Int) - 48)) = ((u * 10 + (s[j].toNat - 48) : Nat) : Int)) := by show _ = _; push_cast; omega
          clear HU HC
          go_wp2
          exact ⟨⟨j + 1, u * 10 + (s[j].toNat - 48), by omega, by omega, by push_cast; rfl, by first | rw [VE.out] | (rw [← VE.out]; rfl), HU2, by have := HPS.out; omega⟩, by simp only [intOf]; omega⟩
    · obtain rfl : j = s.size := by omega
      have hval : Lib.decFrom 0 (s.data.toList.drop (fromL s.data.toList)) = some u := by
        have := HU.out
        rw [List.take_of_length_le (by rw [List.length_drop, SL.out]; omega)] at this
        rw [← HF.out]; exact this
      have hsign : valOf (fromL s.data.toList) u = (u : Int) := by rw [← HF.out]; rfl
      obtain ⟨b1, h1⟩ := bool_ofD (ValI ((u : Int)))
      have H1 := Lib.hid h1
      have CD := Lib.hid (fun w => l01Dec_any ((u : Int)) (by omega) (by omega) w)
      obtain ⟨A, hA⟩ : ∃ A : ByteArray, A = ⟨(Lib.itoa ((u : Int))).toArray⟩ := ⟨_, rfl⟩
      rw [← hA] at CD
      have HA := Lib.hid hA
      have HV : Hid (∀ m, s.data.toList = Lib.itoa m → (u : Int) = m) := fun m e => by rw [← hsign]; exact value_of hval m e
      clear hA h1 hval hsign HU hp e11 hu
      go_wp2_with fail
      refine (in_any ((u : Int)) (-1000000000) 1000000000 b1 H1.out _).mono ?_
      rintro e w1 ⟨rfl, rfl⟩
      cases b1 with
      | false =>
        obtain ⟨rfl, rfl⟩ := decRes_no HD.out (fun m hm e => by
          have := HV.out m e
          rw [← this] at hm
          exact absurd (H1.out.mpr hm) (by simp))
        clear HD HF HV HA H1 CD
        go_wp2
        go_ret2
        exact ⟨rfl, Below.refl _ _⟩
      | true =>
        have hv : ValI ((u : Int)) := H1.out.mp (by simp)
        go_wp2_with fail
        refine (CD.out _).mono ?_
        rintro e w2 ⟨rfl, b2⟩
        have B2 := Lib.hid b2
        clear b2 CD
        by_cases he : A = s
        · obtain ⟨rfl, rfl⟩ := decRes_yes HD.out ((u : Int)) hv (by rw [← he, HA.out])
          subst he
          clear HD HF HV HA H1
          go_wp2
          go_ret2
          exact ⟨rfl, B2.out⟩
        · obtain ⟨rfl, rfl⟩ := decRes_no HD.out (fun m hm e => by
            have := HV.out m e
            subst this
            exact he (by rw [HA.out]; exact (str_eq_iff _ _).mpr e))
          have n1 : (A.toList == s.toList) = false := toList_ne he
          clear HD HF HV HA H1
          go_wp2
          go_ret2
          exact ⟨rfl, B2.out⟩

set_option maxRecDepth 100000 in
set_option maxHeartbeats 8000000 in
theorem l01Value_1 (s : ByteArray) (hf : 1 = fromL s.data.toList) (hs1 : 0 < s.size) (hs2 : s.size ≤ 11) (g0 : ((s[0].toNat : Int) == 45) = true) (n : Int) (b : Bool) (h : DecRes s.data.toList n b) (w : World) :
    Calls Tryd.prog 40 #[.string s] w fun e w' => e = .returned (.tuple #[.int .i64 n, .bool b]) ∧ Below w.heap.size w w' := by
  have HF := Lib.hid hf
  have HD := Lib.hid h
  have z1 : ¬ s.size = 0 := by omega
  have z2 : ¬ (11 : Int) < (s.size : Int) := by omega
  have SL : Hid (s.data.toList.length = s.size) := by show _ = _; simp
  have U0 : Hid (Lib.decFrom 0 ((s.data.toList.drop 1).take 0) = some 0) := by show _ = _; simp [Lib.decFrom]
  clear hf h
  go_enter Tryd.func40, Tryd.ntmps40
  go_wp2
  go_loop [4, 6] (fun v i => ∃ j u : Nat, 1 ≤ j ∧ j ≤ s.size ∧ i = .int .i64 (j : Int) ∧ v = .int .i64 (u : Int) ∧ Hid (Lib.decFrom 0 ((s.data.toList.drop 1).take (j - 1)) = some u) ∧ u < 10 ^ (j - 1)) (fun _ i => s.size - (intOf i).toNat)
  case atStart => exact ⟨1, 0, by omega, by omega, by simp, by simp, U0, by simp⟩
  case round =>
    obtain ⟨j, u, hj1, hj2, rfl, rfl, HU, hu⟩ := hrel
    clear U0 g0
    have hp : (10 : Nat) ^ (j - 1) ≤ 10 ^ 11 := Nat.pow_le_pow_right (by decide) (by omega)
    have e11 : (10 : Nat) ^ 11 = 100000000000 := by decide
    have hub : u < 100000000000 := by omega
    by_cases hlt : j < s.size
    · have hps : u * 10 + 9 < 10 ^ (j + 1 - 1) := by
        have e : j + 1 - 1 = (j - 1) + 1 := by omega
        rw [e, Nat.pow_succ]; omega
      clear hp e11 hu
      have hc : s.data.toList[j]? = some s[j] := byte_of s j hlt
      have HC := Lib.hid hc
      have HPS := Lib.hid hps
      clear hc hps
      by_cases h1 : (s[j].toNat : Int) < 48
      · obtain ⟨rfl, rfl⟩ := decRes_no HD.out (fun m _ => not_digit (i := j) (by rw [← HF.out]; exact hj1) HC.out (by omega) m)
        clear HD HF HU HC HPS
        go_wp2
        go_ret2
        exact ⟨rfl, Below.refl _ _⟩
      · by_cases h2 : (57 : Int) < (s[j].toNat : Int)
        · obtain ⟨rfl, rfl⟩ := decRes_no HD.out (fun m _ => not_digit (i := j) (by rw [← HF.out]; exact hj1) HC.out (by omega) m)
          clear HD HF HU HC HPS
          go_wp2
          go_ret2
          exact ⟨rfl, Below.refl _ _⟩
        · have q1 : IntKind.u8.wrap ((s[j].toNat : Int) - 48) = (s[j].toNat : Int) - 48 := by
            have := s[j].toNat_lt
            unfold IntKind.wrap
            simp only [IntKind.bits, IntKind.signed, Bool.false_and, Bool.false_eq_true, if_false]
            omega
          have q2 : IntKind.i64.wrap (10 * (u : Int)) = 10 * (u : Int) := IntWalk.i64_in _ (by omega)
          have q3 : IntKind.i64.wrap (10 * (u : Int) + ((s[j].toNat : Int) - 48)) = 10 * (u : Int) + ((s[j].toNat : Int) - 48) := IntWalk.i64_in _ (by omega)
          have q4 : IntKind.i64.wrap ((j : Int) + 1) = ((j + 1 : Nat) : Int) := by push_cast; exact IntWalk.i64_in _ (by omega)
          have HU2 : Hid (Lib.decFrom 0 ((s.data.toList.drop 1).take (j + 1 - 1)) = some (u * 10 + (s[j].toNat - 48))) := by
            show _ = _
            rw [show j + 1 - 1 = (j - 1) + 1 by omega]
            exact decFrom_step HU.out (by rw [List.getElem?_drop, show 1 + (j - 1) = j by omega]; exact HC.out) (by omega)
          have VE : Hid ((10 * (u : Int) + ((s[j].toNat : Int) - 48)) = ((u * 10 + (s[j].toNat - 48) : Nat) : Int)) := by show _ = _; push_cast; omega
          clear HU HC
          go_wp2
          exact ⟨⟨j + 1, u * 10 + (s[j].toNat - 48), by omega, by omega, by push_cast; rfl, by first | rw [VE.out] | (rw [← VE.out]; rfl), HU2, by have := HPS.out; omega⟩, by simp only [intOf]; omega⟩
    · obtain rfl : j = s.size := by omega
      have hval : Lib.decFrom 0 (s.data.toList.drop (fromL s.data.toList)) = some u := by
        have := HU.out
        rw [List.take_of_length_le (by rw [List.length_drop, SL.out]; omega)] at this
        rw [← HF.out]; exact this
      have hsign : valOf (fromL s.data.toList) u = -(u : Int) := by rw [← HF.out]; rfl
      obtain ⟨b1, h1⟩ := bool_ofD (ValI (-(u : Int)))
      have H1 := Lib.hid h1
      have CD := Lib.hid (fun w => l01Dec_any (-(u : Int)) (by omega) (by omega) w)
      obtain ⟨A, hA⟩ : ∃ A : ByteArray, A = ⟨(Lib.itoa (-(u : Int))).toArray⟩ := ⟨_, rfl⟩
      rw [← hA] at CD
      have HA := Lib.hid hA
      have HV : Hid (∀ m, s.data.toList = Lib.itoa m → -(u : Int) = m) := fun m e => by rw [← hsign]; exact value_of hval m e
      clear hA h1 hval hsign HU hp e11 hu
      have q1 : IntKind.i64.wrap (-(u : Int)) = -(u : Int) := IntWalk.i64_in _ (by omega)
      go_wp2_with fail
      refine (in_any (-(u : Int)) (-1000000000) 1000000000 b1 H1.out _).mono ?_
      rintro e w1 ⟨rfl, rfl⟩
      cases b1 with
      | false =>
        obtain ⟨rfl, rfl⟩ := decRes_no HD.out (fun m hm e => by
          have := HV.out m e
          rw [← this] at hm
          exact absurd (H1.out.mpr hm) (by simp))
        clear HD HF HV HA H1 CD
        go_wp2
        go_ret2
        exact ⟨rfl, Below.refl _ _⟩
      | true =>
        have hv : ValI (-(u : Int)) := H1.out.mp (by simp)
        go_wp2_with fail
        refine (CD.out _).mono ?_
        rintro e w2 ⟨rfl, b2⟩
        have B2 := Lib.hid b2
        clear b2 CD
        by_cases he : A = s
        · obtain ⟨rfl, rfl⟩ := decRes_yes HD.out (-(u : Int)) hv (by rw [← he, HA.out])
          subst he
          clear HD HF HV HA H1
          go_wp2
          go_ret2
          exact ⟨rfl, B2.out⟩
        · obtain ⟨rfl, rfl⟩ := decRes_no HD.out (fun m hm e => by
            have := HV.out m e
            subst this
            exact he (by rw [HA.out]; exact (str_eq_iff _ _).mpr e))
          have n1 : (A.toList == s.toList) = false := toList_ne he
          clear HD HF HV HA H1
          go_wp2
          go_ret2
          exact ⟨rfl, B2.out⟩


set_option maxHeartbeats 2000000 in
theorem l01Value_any (s : ByteArray) (hs : s.size ≤ 1048576) (n : Int) (b : Bool) (h : DecRes s.data.toList n b) (w : World) :
    Calls Tryd.prog 40 #[.string s] w fun e w' => e = .returned (.tuple #[.int .i64 n, .bool b]) ∧ Below w.heap.size w w' := by
  have SL : s.data.toList.length = s.size := by simp
  by_cases h0 : s.size = 0
  · obtain ⟨rfl, rfl⟩ := decRes_no h (fun m _ e => by rw [e] at SL; exact itoa_ne m (List.eq_nil_of_length_eq_zero (by omega)))
    have z1 : (((s.size : Int)) == 0) = true := by simp [h0]
    clear h SL
    go_enter Tryd.func40, Tryd.ntmps40
    go_wp2
    go_ret2
    exact ⟨rfl, Below.refl _ _⟩
  · by_cases h1 : (11 : Int) < (s.size : Int)
    · obtain ⟨rfl, rfl⟩ := decRes_no h (fun m hm e => by rw [e] at SL; have := itoa_len m hm; omega)
      have z1 : (((s.size : Int)) == 0) = false := by simp [h0]
      clear h SL
      go_enter Tryd.func40, Tryd.ntmps40
      go_wp2
      go_ret2
      exact ⟨rfl, Below.refl _ _⟩
    · have hp : 0 < s.size := by omega
      have hh : s.data.toList.head? = some s[0] := by rw [List.head?_eq_getElem?]; exact byte_of s 0 hp
      by_cases hc : s[0] = 45
      · exact l01Value_1 s (by unfold fromL; rw [hh, hc, if_pos rfl]) hp (by omega) (by rw [hc]; rfl) n b h w
      · exact l01Value_0 s (by unfold fromL; rw [hh, if_neg (by simpa using hc)]) hp (by omega) (by
          rw [beq_eq_false_iff_ne]
          intro e
          exact hc (UInt8.toNat_inj.1 (by simpa using (by exact_mod_cast e : s[0].toNat = 45)))) n b h w
end Go.Proofs.YtkdecpnbbpmooacDoor
