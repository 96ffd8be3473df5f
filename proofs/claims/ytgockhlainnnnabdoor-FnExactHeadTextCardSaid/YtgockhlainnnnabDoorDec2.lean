/- Decimal texts of numbers: the specification. -/
import Derived.Test.YtgockhlainnnnabDoorDec
import Derived.Laws.IdiomStrings
namespace Go.Proofs.YtgockhlainnnnabDoor
open Go.ChangeShapes Go.WideShapes Go.ChangeAt Go.RowKit
set_option linter.unusedVariables false
set_option linter.unusedSimpArgs false

/-- The last digit of a number. -/
def dgt (v : Nat) : UInt8 := UInt8.ofNat (48 + v % 10)
theorem str_app (a b : List UInt8) : ({ data := a.toArray } : ByteArray) ++ { data := b.toArray } = { data := (a ++ b).toArray } := by
  apply ByteArray.ext
  show (ByteArray.append _ _).data = _
  simp [ByteArray.data_append]
theorem str_cons (c : UInt8) (b : List UInt8) : ({ data := #[c] } : ByteArray) ++ { data := b.toArray } = { data := (c :: b).toArray } := str_app [c] b

/-- One digit becomes a text. -/
theorem run_digit (w : World) (v : Nat) : (convert 130 9 (.slice (some ⟨w.heap.size, 0, none⟩) 1 1)).run Tryd.prog (w.alloc (.cells #[.int .u8 (48 + (v : Int) % 10)] 5)) = .ok (.string ⟨#[dgt v]⟩) (w.alloc (.cells #[.int .u8 (48 + (v : Int) % 10)] 5)) := by
  have e : ((dgt v).toNat : Int) = 48 + (v : Int) % 10 := by unfold dgt; rw [UInt8.toNat_ofNat']; omega
  have h := run_convert_bytes_back (P := Tryd.prog) (w.alloc (.cells #[.int .u8 (48 + (v : Int) % 10)] 5)) 130 9 5 ⟨w.heap.size, 0, none⟩ 1 [dgt v] Tryd.underlying130 Tryd.underlying5 Tryd.underlying9 (fun j hj => by
    have hj' : j = 0 := by simpa using hj
    subst hj'
    simp only [List.getElem_cons_zero, e]
    exact cell_of_row _ w.heap.size 0 _ _ _ (heap_alloc_new w _))
  exact h

/-- What the digits say that are still to come. -/
def restL (v : Nat) : List UInt8 := if v = 0 then [] else Lib.decDigits v
theorem restL_pos (v : Nat) (h : 0 < v) : restL v = restL (v / 10) ++ [dgt v] := by
  unfold restL dgt
  rw [if_neg (by omega), Lib.decDigits]
  by_cases h1 : v < 10
  · rw [dif_pos h1, if_pos (by omega), show v % 10 = v by omega]; rfl
  · rw [dif_neg h1, if_neg (by omega)]
theorem digits_rest (u : Nat) : Lib.decDigits u = restL (u / 10) ++ [dgt u] := by
  by_cases h : u = 0
  · subst h; unfold dgt; rw [Lib.decDigits, dif_pos (by omega)]; rfl
  · rw [← restL_pos u (by omega)]
    unfold restL
    rw [if_neg h]

theorem str_nil (b : List UInt8) : ({ data := #[] } : ByteArray) ++ { data := b.toArray } = { data := b.toArray } := str_app [] b

set_option maxRecDepth 100000 in
set_option maxHeartbeats 4000000 in
theorem l01Dec_neg (u : Nat) (h1 : 1 ≤ u) (h2 : u ≤ 9223372036854775808) (w : World) :
    Calls Tryd.prog 77 #[.int .i64 (-(u : Int))] w fun e w' => e = .returned (.string ⟨(45 :: Lib.decDigits u).toArray⟩) ∧ Below w.heap.size w w' := by
  have n0 : (-(u : Int)) < 0 := by omega
  have h0 : 0 < u := h1
  have t1 : (-(u : Int)).tmod 10 = -((u % 10 : Nat) : Int) := by rw [Int.neg_tmod]; rfl
  have t2 : (-(u : Int)).tdiv 10 = -((u / 10 : Nat) : Int) := by rw [Int.neg_tdiv]; rfl
  have q1 : IntKind.i64.wrap (-((u % 10 : Nat) : Int)) = -((u % 10 : Nat) : Int) := IntWalk.i64_in _ (by omega)
  have q2 : IntKind.i64.wrap (-((u / 10 : Nat) : Int)) = -((u / 10 : Nat) : Int) := IntWalk.i64_in _ (by omega)
  have r1 := run_digit w u
  have B0 : Hid (Below w.heap.size w (w.alloc (.cells #[.int .u8 (48 + (u : Int) % 10)] 5))) := by show Below _ _ _; go_grown
  have HD : Hid (Lib.decDigits u = restL (u / 10) ++ [dgt u]) := digits_rest u
  go_enter Tryd.func77, Tryd.ntmps77
  go_wp2
  go_loopw [4, 5] (fun r s wr => ∃ (v : Nat) (ds : List UInt8), v ≤ u ∧ r = .int .i64 (-(v : Int)) ∧ s = .string ⟨ds.toArray⟩ ∧ Hid (Lib.decDigits u = restL v ++ ds) ∧ Hid (Below w.heap.size w wr)) (fun r _ _ => (-(intOf r)).toNat)
  case atStart => exact ⟨u / 10, _, by omega, by push_cast; rfl, rfl, HD, B0⟩
  case round =>
    obtain ⟨v, ds, hv, rfl, rfl, hl, B⟩ := hrel
    clear r1 t1 t2 q1 q2 B0 HD
    have lds : ds.length ≤ 20 := by
      have e := congrArg List.length hl.out
      rw [List.length_append, Lib.decDigits_length] at e
      have := Lib.nDigits_le20 u (by omega)
      omega
    by_cases hp : 0 < v
    · have n1 : (-(v : Int)) < 0 := by omega
      have t1 : (-(v : Int)).tmod 10 = -((v % 10 : Nat) : Int) := by rw [Int.neg_tmod]; rfl
      have t2 : (-(v : Int)).tdiv 10 = -((v / 10 : Nat) : Int) := by rw [Int.neg_tdiv]; rfl
      have q1 : IntKind.i64.wrap (-((v % 10 : Nat) : Int)) = -((v % 10 : Nat) : Int) := IntWalk.i64_in _ (by omega)
      have q2 : IntKind.i64.wrap (-((v / 10 : Nat) : Int)) = -((v / 10 : Nat) : Int) := IntWalk.i64_in _ (by omega)
      have r1 := run_digit wr v
      have B1 : Hid (Below w.heap.size w (wr.alloc (.cells #[.int .u8 (48 + (v : Int) % 10)] 5))) := B.out.alloc B.out.size _
      have hl' : Hid (Lib.decDigits u = restL (v / 10) ++ (dgt v :: ds)) := by
        show _ = _
        rw [hl.out, restL_pos v hp, List.append_assoc]; rfl
      have ap := str_cons (dgt v) ds
      clear hl B
      go_wp2
      exact ⟨⟨v / 10, dgt v :: ds, by omega, by push_cast; rfl, rfl, hl', B1⟩, by simp only [intOf]; omega⟩
    · obtain rfl : v = 0 := by omega
      have hl' : Hid (ds = Lib.decDigits u) := by show _ = _; rw [hl.out]; rfl
      have ap := str_cons 45 ds
      clear hl
      go_wp2
      go_ret
      exact ⟨by rw [← hl'.out]; rfl, B.out⟩
set_option maxRecDepth 100000 in
set_option maxHeartbeats 4000000 in
theorem l01Dec_pos (u : Nat) (h2 : u ≤ 9223372036854775807) (w : World) :
    Calls Tryd.prog 77 #[.int .i64 (u : Int)] w fun e w' => e = .returned (.string ⟨(Lib.decDigits u).toArray⟩) ∧ Below w.heap.size w w' := by
  have n0 : ¬ (u : Int) < 0 := by omega
  have q0 : IntKind.i64.wrap (-(u : Int)) = -(u : Int) := IntWalk.i64_in _ (by omega)
  have t1 : (-(u : Int)).tmod 10 = -((u % 10 : Nat) : Int) := by rw [Int.neg_tmod]; rfl
  have t2 : (-(u : Int)).tdiv 10 = -((u / 10 : Nat) : Int) := by rw [Int.neg_tdiv]; rfl
  have q1 : IntKind.i64.wrap (-((u % 10 : Nat) : Int)) = -((u % 10 : Nat) : Int) := IntWalk.i64_in _ (by omega)
  have q2 : IntKind.i64.wrap (-((u / 10 : Nat) : Int)) = -((u / 10 : Nat) : Int) := IntWalk.i64_in _ (by omega)
  have r1 := run_digit w u
  have B0 : Hid (Below w.heap.size w (w.alloc (.cells #[.int .u8 (48 + (u : Int) % 10)] 5))) := by show Below _ _ _; go_grown
  have HD : Hid (Lib.decDigits u = restL (u / 10) ++ [dgt u]) := digits_rest u
  go_enter Tryd.func77, Tryd.ntmps77
  go_wp2
  go_loopw [4, 5] (fun r s wr => ∃ (v : Nat) (ds : List UInt8), v ≤ u ∧ r = .int .i64 (-(v : Int)) ∧ s = .string ⟨ds.toArray⟩ ∧ Hid (Lib.decDigits u = restL v ++ ds) ∧ Hid (Below w.heap.size w wr)) (fun r _ _ => (-(intOf r)).toNat)
  case atStart => exact ⟨u / 10, _, by omega, by push_cast; rfl, rfl, HD, B0⟩
  case round =>
    obtain ⟨v, ds, hv, rfl, rfl, hl, B⟩ := hrel
    clear r1 t1 t2 q0 q1 q2 B0 HD
    have lds : ds.length ≤ 20 := by
      have e := congrArg List.length hl.out
      rw [List.length_append, Lib.decDigits_length] at e
      have := Lib.nDigits_le20 u (by omega)
      omega
    by_cases hp : 0 < v
    · have n1 : (-(v : Int)) < 0 := by omega
      have t1 : (-(v : Int)).tmod 10 = -((v % 10 : Nat) : Int) := by rw [Int.neg_tmod]; rfl
      have t2 : (-(v : Int)).tdiv 10 = -((v / 10 : Nat) : Int) := by rw [Int.neg_tdiv]; rfl
      have q1 : IntKind.i64.wrap (-((v % 10 : Nat) : Int)) = -((v % 10 : Nat) : Int) := IntWalk.i64_in _ (by omega)
      have q2 : IntKind.i64.wrap (-((v / 10 : Nat) : Int)) = -((v / 10 : Nat) : Int) := IntWalk.i64_in _ (by omega)
      have r1 := run_digit wr v
      have B1 : Hid (Below w.heap.size w (wr.alloc (.cells #[.int .u8 (48 + (v : Int) % 10)] 5))) := B.out.alloc B.out.size _
      have hl' : Hid (Lib.decDigits u = restL (v / 10) ++ (dgt v :: ds)) := by
        show _ = _
        rw [hl.out, restL_pos v hp, List.append_assoc]; rfl
      have ap := str_cons (dgt v) ds
      clear hl B
      go_wp2
      exact ⟨⟨v / 10, dgt v :: ds, by omega, by push_cast; rfl, rfl, hl', B1⟩, by simp only [intOf]; omega⟩
    · obtain rfl : v = 0 := by omega
      have hl' : Hid (ds = Lib.decDigits u) := by show _ = _; rw [hl.out]; rfl
      have ap := str_nil ds
      clear hl
      go_wp2
      go_ret
      exact ⟨by rw [← hl'.out]; rfl, B.out⟩

theorem l01Dec_any (n : Int) (h0 : -9223372036854775808 ≤ n) (h1 : n ≤ 9223372036854775807) (w : World) :
    Calls Tryd.prog 77 #[.int .i64 n] w fun e w' => e = .returned (.string ⟨(Lib.itoa n).toArray⟩) ∧ Below w.heap.size w w' := by
  by_cases h : n < 0
  · obtain ⟨u, hu⟩ : ∃ u : Nat, n = -(u : Int) := ⟨n.natAbs, by omega⟩
    subst hu
    rw [Lib.itoa_neg u (by omega)]
    exact l01Dec_neg u (by omega) (by omega) w
  · obtain ⟨u, hu⟩ : ∃ u : Nat, n = (u : Int) := ⟨n.toNat, by omega⟩
    subst hu
    rw [Lib.itoa_nonneg u]
    exact l01Dec_pos u (by omega) w
end Go.Proofs.YtgockhlainnnnabDoor
