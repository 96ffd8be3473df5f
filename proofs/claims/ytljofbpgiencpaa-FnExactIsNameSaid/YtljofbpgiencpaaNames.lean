/- Walks of the functions that say whether a text is a name. -/
import Derived.Test.YtljofbpgiencpaaBase
namespace Go.Proofs.Ytljofbpgiencpaa
open Go.ChangeShapes Go.WideShapes Go.ChangeAt Go.RowKit
set_option linter.unusedVariables false
set_option linter.unusedSimpArgs false

def OkC (first : Bool) (c : Nat) : Prop := (97 ≤ c ∧ c ≤ 122) ∨ (first = false ∧ 48 ≤ c ∧ c ≤ 57)
def NameTo (s : ByteArray) (n : Nat) : Prop := ∀ k (h : k < s.size), k < n → OkC (k == 0) s[k].toNat
def NameP (s : ByteArray) : Prop := 1 ≤ s.size ∧ s.size ≤ 12 ∧ NameTo s s.size

theorem NameTo.zero (s : ByteArray) : NameTo s 0 := fun _ _ h => absurd h (by omega)
theorem NameTo.succ {s : ByteArray} {k : Nat} (h : NameTo s k) (hk : k < s.size) (hc : OkC (k == 0) s[k].toNat) : NameTo s (k + 1) := by
  intro j hj hjk
  by_cases e : j = k
  · subst e; exact hc
  · exact h j hj (by omega)
theorem NameP.no_at {s : ByteArray} {k : Nat} (hk : k < s.size) (hc : ¬ OkC (k == 0) s[k].toNat) : ¬ NameP s := fun h => hc (h.2.2 k hk hk)

set_option maxHeartbeats 1000000 in
theorem l01Name_any (s : ByteArray) (hs : s.size ≤ maxLen) (b : Bool) (hb : b = true ↔ NameP s) (w : World) :
    Calls Try.prog 48 #[.string s] w fun e w' => e = .returned (.bool b) ∧ w = w' := by
  unfold maxLen at hs
  have HB := Lib.hid hb
  clear hb
  by_cases h1 : s.size < 1
  · have hne : b = false := by
      cases b with | false => rfl | true => exact absurd (HB.out.mp rfl).1 (by omega)
    subst hne
    go_enter Try.func48, Try.ntmps48
    go_wp2
    go_ret
    exact ⟨rfl, rfl⟩
  · by_cases h2 : 12 < s.size
    · have hne : b = false := by
        cases b with | false => rfl | true => exact absurd (HB.out.mp rfl).2.1 (by omega)
      subst hne
      go_enter Try.func48, Try.ntmps48
      go_wp2
      go_ret
      exact ⟨rfl, rfl⟩
    · have h3 : 0 < s.size := by omega
      have h4 : s.size ≤ 12 := by omega
      clear h1 h2
      by_cases c1 : s[0].toNat < 97
      · have hne : b = false := by
          cases b with | false => rfl | true => exact absurd (HB.out.mp rfl) (NameP.no_at h3 (by unfold OkC; simp; omega))
        subst hne
        go_enter Try.func48, Try.ntmps48
        go_wp2
        go_ret
        exact ⟨rfl, rfl⟩
      · by_cases c2 : 122 < s[0].toNat
        · have hne : b = false := by
            cases b with | false => rfl | true => exact absurd (HB.out.mp rfl) (NameP.no_at h3 (by unfold OkC; simp; omega))
          subst hne
          have c1' : 97 ≤ s[0].toNat := by omega
          clear c1
          go_enter Try.func48, Try.ntmps48
          go_wp2
          go_ret
          exact ⟨rfl, rfl⟩
        · have c1' : 97 ≤ s[0].toNat := by omega
          have c2' : s[0].toNat ≤ 122 := by omega
          clear c1 c2
          have N1 : Hid (NameTo s 1) := (NameTo.zero s).succ h3 (by unfold OkC; simp; omega)
          go_enter Try.func48, Try.ntmps48
          go_wp2
          go_loop [3, 4, 5] (fun i _ _ => ∃ k : Nat, k ≤ s.size ∧ i = .int .i64 k ∧ Hid (NameTo s k)) (fun i _ _ => s.size - (intOf i).toNat)
          case atStart => exact ⟨0, by omega, rfl, NameTo.zero s⟩
          case round =>
            obtain ⟨k, hk, rfl, hN⟩ := hrel
            by_cases hlt : k < s.size
            · have key : OkC (k == 0) s[k].toNat ∨ b = false := by
                by_cases ho : OkC (k == 0) s[k].toNat
                · exact .inl ho
                · right
                  cases b with | false => rfl | true => exact absurd (HB.out.mp rfl) (NameP.no_at hlt ho)
              have hk0 : k = 0 → 97 ≤ s[k].toNat ∧ s[k].toNat ≤ 122 := fun e => by subst e; exact ⟨c1', c2'⟩
              have K := Lib.hid key
              have K0 := Lib.hid hk0
              have n0 : ∀ c, s[k].toNat = c → ¬ OkC (k == 0) c → b = false := fun c e h => by rcases K.out with h' | h'; (rw [e] at h'; exact absurd h' h); exact h'
              have y0 : ∀ c, s[k].toNat = c → OkC (k == 0) c → Hid (NameTo s (k + 1)) := fun c e h => hN.out.succ hlt (by rw [e]; exact h)
              have N0 := Lib.hid n0
              have Y0 := Lib.hid y0
              clear key hk0 n0 y0
              rcases (by omega : s[k].toNat < 48 ∨ (48 ≤ s[k].toNat ∧ s[k].toNat ≤ 57) ∨ (58 ≤ s[k].toNat ∧ s[k].toNat ≤ 96) ∨ (97 ≤ s[k].toNat ∧ s[k].toNat ≤ 122) ∨ 123 ≤ s[k].toNat) with g | ⟨g, g'⟩ | ⟨g, g'⟩ | ⟨g, g'⟩ | g
              · obtain rfl : b = false := N0.out _ rfl (by unfold OkC; omega)
                go_wp2
                go_ret
                exact ⟨rfl, rfl⟩
              · have Y := Y0.out _ rfl (by unfold OkC; have := K0.out; simp; omega)
                have g2 : decide (((s[k].toNat : Nat) : Int) ≤ 57) = true := by simp; omega
                go_wp2
                exact ⟨⟨k + 1, by omega, by go_num, Y⟩, by simp only [intOf]; omega⟩
              · obtain rfl : b = false := N0.out _ rfl (by unfold OkC; omega)
                have g2 : decide (((s[k].toNat : Nat) : Int) ≤ 57) = false := by simp; omega
                go_wp2
                go_ret
                exact ⟨rfl, rfl⟩
              · have Y := Y0.out _ rfl (by unfold OkC; omega)
                go_wp2
                exact ⟨⟨k + 1, by omega, by go_num, Y⟩, by simp only [intOf]; omega⟩
              · obtain rfl : b = false := N0.out _ rfl (by unfold OkC; omega)
                have g2 : decide (((s[k].toNat : Nat) : Int) ≤ 57) = false := by simp; omega
                have g3 : decide (((s[k].toNat : Nat) : Int) ≤ 122) = false := by simp; omega
                go_wp2
                go_ret
                exact ⟨rfl, rfl⟩
            · obtain rfl : k = s.size := by omega
              have hne : b = true := HB.out.mpr ⟨by omega, h4, hN⟩
              subst hne
              go_wp2
              go_ret
              exact ⟨rfl, rfl⟩

theorem width_pos (s : ByteArray) (pos : Nat) (h : pos < s.size) : 1 ≤ (Utf8.decode s pos).2 := by
  by_cases ha : (s[pos]'h).toNat < 128
  · rw [decode_ascii s pos h ha]
    exact Nat.le_refl _
  · exact (decode_high s pos h (by omega)).2

set_option maxHeartbeats 1000000 in
theorem implName_any (s : ByteArray) (hs : s.size ≤ maxLen) (b : Bool) (hb : b = true ↔ NameP s) (w : World) :
    Calls Try.prog 27 #[.string s] w fun e w' => e = .returned (.bool b) ∧ Below w.heap.size w w' := by
  unfold maxLen at hs
  have HB := Lib.hid hb
  clear hb
  by_cases h1 : s.size < 1
  · obtain rfl : b = false := by
      cases b with | false => rfl | true => exact absurd (HB.out.mp rfl).1 (by omega)
    have h2 : decide (1 ≤ (s.size : Int)) = false := by simp; omega
    go_enter Try.func27, Try.ntmps27
    go_wp2
    go_ret
    exact ⟨rfl, Below.refl _ _⟩
  · by_cases h2 : 12 < s.size
    · obtain rfl : b = false := by
        cases b with | false => rfl | true => exact absurd (HB.out.mp rfl).2.1 (by omega)
      have h1' : 1 ≤ s.size := by omega
      have h3 : decide ((s.size : Int) ≤ 12) = false := by simp; omega
      clear h1
      go_enter Try.func27, Try.ntmps27
      go_wp2
      go_ret
      exact ⟨rfl, Below.refl _ _⟩
    · have h3 : 1 ≤ s.size := by omega
      have h4 : s.size ≤ 12 := by omega
      have h5 : decide ((s.size : Int) ≤ 12) = true := by simp; omega
      clear h1 h2
      go_enter Try.func27, Try.ntmps27
      go_wp2
      go_loopw [3, 4] (fun _ _ w' => ∃ pos : Nat, w' = w.iter s pos ∧ pos ≤ s.size ∧ Hid (NameTo s pos)) (fun _ _ w' => s.size - w'.iterPos w.heap.size)
      case atStart => exact ⟨0, rfl, by omega, NameTo.zero s⟩
      case round =>
        obtain ⟨pos, rfl, hp1, hN⟩ := hrel
        by_cases hp : pos < s.size
        · have hnx : ∀ ty, (Instr.next (.pointer (some ⟨w.heap.size, 0, none⟩)) true ty).run Try.prog (w.iter s pos) = _ := fun ty => run_next_any w s pos ty hp
          have key : ¬ OkC (pos == 0) s[pos].toNat → b = false := by
            intro ho
            cases b with | false => rfl | true => exact absurd (HB.out.mp rfl) (NameP.no_at hp ho)
          have N0 := Lib.hid key
          clear key
          by_cases ha : (s[pos]'hp).toNat < 128
          · have de := decode_ascii s pos hp ha
            rw [de] at hnx
            have y0 : OkC (pos == 0) s[pos].toNat → Hid (NameTo s (pos + 1)) := fun h => hN.out.succ hp h
            have Y0 := Lib.hid y0
            clear y0 de
            rcases (by omega : s[pos].toNat < 48 ∨ (48 ≤ s[pos].toNat ∧ s[pos].toNat ≤ 57) ∨ (58 ≤ s[pos].toNat ∧ s[pos].toNat ≤ 96) ∨ (97 ≤ s[pos].toNat ∧ s[pos].toNat ≤ 122) ∨ 123 ≤ s[pos].toNat) with g | ⟨g, g'⟩ | ⟨g, g'⟩ | ⟨g, g'⟩ | g
            · obtain rfl : b = false := N0.out (by unfold OkC; omega)
              have g1 : decide ((97 : Int) ≤ ((s[pos].toNat : Nat) : Int)) = false := by simp; omega
              have g2 : decide ((48 : Int) ≤ ((s[pos].toNat : Nat) : Int)) = false := by simp; omega
              by_cases hz : pos = 0
              · have hz' : (((pos : Nat) : Int) == 0) = true := by simpa using hz
                clear hz
                go_wp2
                go_ret
                exact ⟨rfl, (Below.refl _ _).alloc (Nat.le_refl _) _⟩
              · have hz' : (((pos : Nat) : Int) == 0) = false := by simpa using hz
                clear hz
                go_wp2
                go_ret
                exact ⟨rfl, (Below.refl _ _).alloc (Nat.le_refl _) _⟩
            · have g1 : decide ((97 : Int) ≤ ((s[pos].toNat : Nat) : Int)) = false := by simp; omega
              have g2 : decide (((s[pos].toNat : Nat) : Int) ≤ 57) = true := by simp; omega
              by_cases hz : pos = 0
              · obtain rfl : b = false := N0.out (by unfold OkC; have hz0 : (pos == 0) = true := (by simpa using hz); rw [hz0]; simp; omega)
                have hz' : (((pos : Nat) : Int) == 0) = true := by simpa using hz
                clear hz
                go_wp2
                go_ret
                exact ⟨rfl, (Below.refl _ _).alloc (Nat.le_refl _) _⟩
              · have Y := Y0.out (by unfold OkC; simp [hz]; omega)
                have hz' : (((pos : Nat) : Int) == 0) = false := by simpa using hz
                clear hz
                go_wp2
                exact ⟨⟨pos + 1, rfl, by omega, Y⟩, by simp; omega⟩
            · obtain rfl : b = false := N0.out (by unfold OkC; omega)
              have g1 : decide ((97 : Int) ≤ ((s[pos].toNat : Nat) : Int)) = false := by simp; omega
              have g2 : decide (((s[pos].toNat : Nat) : Int) ≤ 57) = false := by simp; omega
              by_cases hz : pos = 0
              · have hz' : (((pos : Nat) : Int) == 0) = true := by simpa using hz
                clear hz
                go_wp2
                go_ret
                exact ⟨rfl, (Below.refl _ _).alloc (Nat.le_refl _) _⟩
              · have hz' : (((pos : Nat) : Int) == 0) = false := by simpa using hz
                clear hz
                go_wp2
                go_ret
                exact ⟨rfl, (Below.refl _ _).alloc (Nat.le_refl _) _⟩
            · have Y := Y0.out (by unfold OkC; omega)
              have g2 : decide (((s[pos].toNat : Nat) : Int) ≤ 122) = true := by simp; omega
              go_wp2
              exact ⟨⟨pos + 1, rfl, by omega, Y⟩, by simp; omega⟩
            · obtain rfl : b = false := N0.out (by unfold OkC; omega)
              have g1 : decide (((s[pos].toNat : Nat) : Int) ≤ 122) = false := by simp; omega
              have g2 : decide (((s[pos].toNat : Nat) : Int) ≤ 57) = false := by simp; omega
              by_cases hz : pos = 0
              · have hz' : (((pos : Nat) : Int) == 0) = true := by simpa using hz
                clear hz
                go_wp2
                go_ret
                exact ⟨rfl, (Below.refl _ _).alloc (Nat.le_refl _) _⟩
              · have hz' : (((pos : Nat) : Int) == 0) = false := by simpa using hz
                clear hz
                go_wp2
                go_ret
                exact ⟨rfl, (Below.refl _ _).alloc (Nat.le_refl _) _⟩
          · obtain ⟨de, dw⟩ := decode_high s pos hp (by omega)
            obtain rfl : b = false := N0.out (by unfold OkC; omega)
            obtain ⟨c, hc⟩ : ∃ c, c = (Utf8.decode s pos).1 := ⟨_, rfl⟩
            rw [← hc] at hnx de
            clear hc dw
            have g1 : decide (((c : Nat) : Int) ≤ 122) = false := by simp; omega
            have g2 : decide (((c : Nat) : Int) ≤ 57) = false := by simp; omega
            by_cases hz : pos = 0
            · have hz' : (((pos : Nat) : Int) == 0) = true := by simpa using hz
              clear hz
              go_wp2
              go_ret
              exact ⟨rfl, (Below.refl _ _).alloc (Nat.le_refl _) _⟩
            · have hz' : (((pos : Nat) : Int) == 0) = false := by simpa using hz
              clear hz
              go_wp2
              go_ret
              exact ⟨rfl, (Below.refl _ _).alloc (Nat.le_refl _) _⟩
        · have hnx : ∀ ty, (Instr.next (.pointer (some ⟨w.heap.size, 0, none⟩)) true ty).run Try.prog (w.iter s pos) = _ := fun ty => run_next_end w s pos ty hp
          obtain rfl : pos = s.size := by omega
          obtain rfl : b = true := HB.out.mpr ⟨by omega, h4, hN⟩
          go_wp2
          go_ret
          exact ⟨rfl, (Below.refl _ _).alloc (Nat.le_refl _) _⟩

open Classical in
set_option maxHeartbeats 1000000 in
theorem walkFnExactIsName (s : ByteArray) (hs : s.size ≤ maxLen) (w : World) :
    Calls Try.prog 5 #[.string s] w fun e w' => e = .returned (.bool true) ∧ Below w.heap.size w w' := by
  obtain ⟨b, hb⟩ : ∃ b : Bool, b = true ↔ NameP s := ⟨decide (NameP s), by simp⟩
  have HB := Lib.hid hb
  have HS := Lib.hid hs
  unfold maxLen at hs
  clear hb
  by_cases hl : (1048576 : Int) < s.size
  · go_enter Try.func5, Try.ntmps5
    go_wp2
    go_ret
    exact ⟨rfl, Below.refl _ _⟩
  · go_enter Try.func5, Try.ntmps5
    go_wp2_with (first | (go_at_call 48; refine (l01Name_any s HS.out b HB.out _).mono ?_; rintro e w' ⟨rfl, rfl⟩) | (go_at_call 27; refine (implName_any s HS.out b HB.out _).mono ?_; rintro e w' ⟨rfl, bel⟩) | go_in)
    go_ret
    exact ⟨rfl, by assumption⟩
end Go.Proofs.Ytljofbpgiencpaa
