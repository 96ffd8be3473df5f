/- Small courses and their mirrors, on both sides. -/
import Derived.Test.YtkdecpnbbpmooacDoorSteer
import Derived.Test.YtkdecpnbbpmooacDoorInts
import Derived.LoopTactic
namespace Go.Proofs.YtkdecpnbbpmooacDoor
open Go.ChangeShapes Go.WideShapes Go.ChangeAt Go.RowKit
set_option linter.unusedVariables false
set_option linter.unusedSimpArgs false

def SmallI (n : Int) : Prop := -1000 ≤ n ∧ n ≤ 1000
def SmallC (c : Co) : Prop := (SmallI c.o ∧ SmallI c.h) ∧ SmallI c.t
def mirC (c : Co) : Co := ⟨-c.o, -c.h, -c.t⟩
/-- The mirror of a course, or the zero course. -/
def MirRes (c o : Co) : Prop := (SmallC c ∧ o = mirC c) ∨ (¬ SmallC c ∧ o = ⟨0, 0, 0⟩)
theorem mirRes_of (c : Co) : ∃ o, MirRes c o := by
  by_cases h : SmallC c
  · exact ⟨_, .inl ⟨h, rfl⟩⟩
  · exact ⟨_, .inr ⟨h, rfl⟩⟩

set_option maxHeartbeats 1000000 in
theorem l05Small_any (c : Co) (b : Bool) (hb : b = true ↔ SmallC c) (w : World) :
    Calls Tryd.prog 38 #[(.agg #[.int .i64 c.o, .int .i64 c.h, .int .i64 c.t])] w fun e w' => e = .returned (.bool b) ∧ Below w.heap.size w w' := by
  obtain ⟨b1, h1⟩ := bool_of (SmallI c.o)
  obtain ⟨b2, h2⟩ := bool_of (SmallI c.h)
  obtain ⟨b3, h3⟩ := bool_of (SmallI c.t)
  obtain ⟨b4, h4⟩ := bool_of (SmallI c.o ∧ SmallI c.h)
  obtain rfl : b = (b4 && b3) := band_of hb h4 h3 Iff.rfl
  obtain rfl : b4 = (b1 && b2) := band_of h4 h1 h2 Iff.rfl
  have H1 := Lib.hid h1
  have H2 := Lib.hid h2
  have H3 := Lib.hid h3
  clear hb h1 h2 h3 h4
  go_enter Tryd.func38, Tryd.ntmps38
  go_wp2_with fail
  refine (in_any c.o (-1000) 1000 b1 H1.out _).mono ?_
  rintro e w1 ⟨rfl, rfl⟩
  cases b1
  · go_wp2
    go_ret
    exact ⟨rfl, by go_grown⟩
  · go_wp2_with fail
    refine (in_any c.h (-1000) 1000 b2 H2.out _).mono ?_
    rintro e w1 ⟨rfl, rfl⟩
    cases b2
    · go_wp2
      go_ret
      exact ⟨rfl, by go_grown⟩
    · go_wp2_with fail
      refine (in_any c.t (-1000) 1000 b3 H3.out _).mono ?_
      rintro e w1 ⟨rfl, rfl⟩
      go_wp2
      go_ret
      exact ⟨by simp, by go_grown⟩

theorem smallOne_any (n : Int) (b : Bool) (hb : b = true ↔ SmallI n) (w : World) :
    Calls Tryd.prog 56 #[.int .i64 n] w fun e w' => e = .returned (.bool b) ∧ w = w' := by
  have HB := Lib.hid hb
  clear hb
  go_enter Tryd.func56, Tryd.ntmps56
  go_wp2_with fail
  refine (within_any n (-1000) 1000 b HB.out _).mono ?_
  rintro e w1 ⟨rfl, rfl⟩
  go_wp2
  go_ret
  exact ⟨rfl, rfl⟩

set_option maxRecDepth 100000 in
set_option maxHeartbeats 2000000 in
theorem everySmall_any (a : Option Addr) (n cap : Nat) (zs : List Int) (hn : n = zs.length) (w : World) (h : RdI w (.slice a n cap) zs) (lz : n ≤ 1048576) (b : Bool) (hb : b = true ↔ ∀ z ∈ zs, SmallI z) :
    Calls Tryd.prog 55 #[.slice a n cap, .func (.func 56) #[] #[]] w fun e w' => e = .returned (.bool b) ∧ w = w' := by
  have HB := Lib.hid hb
  have HN := Lib.hid hn
  have H : Hid (zs = [] ∨ ∃ b off, a = some ⟨b, off, none⟩ ∧ ∀ (i : Nat) (u : Int), zs[i]? = some u → w.cell? ⟨b, off + i, none⟩ = some (.int .i64 u)) := by
    obtain ⟨a', c', e, h'⟩ := h
    simp only [Value.slice.injEq] at e
    obtain ⟨rfl, -, -⟩ := e
    exact h'
  clear hn hb h
  go_enter Tryd.func55, Tryd.ntmps55
  go_wp2
  go_loop [9] (fun i => ∃ k : Nat, k ≤ n ∧ i = .int .i64 k ∧ Hid (∀ z ∈ zs.take k, SmallI z)) (fun i => n - (intOf i).toNat)
  case atStart => exact ⟨0, by omega, rfl, by intro c hc; simp at hc⟩
  case round =>
    obtain ⟨k, hk, rfl, hall⟩ := hrel
    by_cases hlt : k < n
    · obtain ⟨z, hx⟩ : ∃ x, zs[k]? = some x := ⟨_, List.getElem?_eq_getElem (by have := HN.out; omega)⟩
      obtain ⟨ba, oa, rfl, ca⟩ := H.out.resolve_left (by intro h; have := HN.out; rw [h] at this; simp at this; omega)
      have c0 : w.cell? ⟨ba, oa + k, none⟩ = some (.int .i64 z) := ca k z hx
      clear ca
      by_cases hc : SmallI z
      · have d1 := Lib.hid (fun w => smallOne_any z true ⟨fun _ => hc, fun _ => rfl⟩ w)
        have hall' : Hid (∀ c ∈ zs.take (k + 1), SmallI c) := by
          intro d hd
          rw [List.take_add_one, hx] at hd
          simp at hd
          rcases hd with hd | rfl
          · exact hall.out d hd
          · exact hc
        clear hx hc hall
        go_wp2_with fail
        refine (d1.out _).mono ?_
        rintro e w3 ⟨rfl, rfl⟩
        go_wp2
        exact ⟨⟨k + 1, by omega, by go_num, hall'⟩, by simp only [intOf]; omega⟩
      · have d1 := Lib.hid (fun w => smallOne_any z false ⟨(fun h => by cases h), (fun h => absurd h hc)⟩ w)
        obtain rfl : b = false := by
          cases b with
          | false => rfl
          | true => exact absurd (HB.out.mp rfl z (List.mem_of_getElem? hx)) hc
        clear hx hc hall
        go_wp2_with fail
        refine (d1.out _).mono ?_
        rintro e w3 ⟨rfl, rfl⟩
        go_wp2
        go_ret
        exact ⟨rfl, rfl⟩
    · obtain rfl : k = n := by omega
      obtain rfl : b = true := HB.out.mpr (by have := hall.out; rwa [List.take_of_length_le (by have := HN.out; omega)] at this)
      go_wp2
      go_ret
      exact ⟨rfl, rfl⟩

set_option maxHeartbeats 1000000 in
theorem numbersC_any (c : Co) (w : World) :
    Calls Tryd.prog 30 #[(.agg #[.int .i64 c.o, .int .i64 c.h, .int .i64 c.t])] w fun e w' => e = .returned (.agg #[.int .i64 c.o, .int .i64 c.h, .int .i64 c.t]) ∧ Below w.heap.size w w' := by
  go_enter Tryd.func30, Tryd.ntmps30
  go_wp2
  go_returns
  exact ⟨rfl, by go_grown⟩

set_option maxHeartbeats 1000000 in
theorem isSmall_any (c : Co) (b : Bool) (hb : b = true ↔ SmallC c) (w : World) :
    Calls Tryd.prog 29 #[(.agg #[.int .i64 c.o, .int .i64 c.h, .int .i64 c.t])] w fun e w' => e = .returned (.bool b) ∧ Below w.heap.size w w' := by
  have hb2 : b = true ↔ ∀ z ∈ [c.o, c.h, c.t], SmallI z := by
    rw [hb]
    simp [SmallC, and_assoc]
  have HB := Lib.hid hb2
  clear hb hb2
  go_enter Tryd.func29, Tryd.ntmps29
  go_wp2_with fail
  refine (numbersC_any c _).mono ?_
  rintro e u ⟨rfl, b1⟩
  have BU : Hid (Below w.heap.size w u) := Below.trans (by go_grown) (b1.mono (by simp only [World.size_alloc]; omega))
  have su : w.heap.size ≤ u.heap.size := BU.out.size
  clear b1
  have RR : Hid (RdI (u.alloc (.cells #[.int .i64 c.o, .int .i64 c.h, .int .i64 c.t] 65)) (.slice (some ⟨u.heap.size, 0, none⟩) 3 3) [c.o, c.h, c.t]) := by
    have hN := heap_alloc_new u (.cells #[.int .i64 c.o, .int .i64 c.h, .int .i64 c.t] 65)
    refine ⟨_, _, rfl, .inr ⟨_, _, rfl, ?_⟩⟩
    intro i z hz
    match i, hz with
    | 0, hz => cases hz; exact cell_of_row _ _ 0 _ _ _ hN
    | 1, hz => cases hz; exact cell_of_row _ _ 1 _ _ _ hN
    | 2, hz => cases hz; exact cell_of_row _ _ 2 _ _ _ hN
  go_wp2_with fail
  refine (everySmall_any _ 3 3 [c.o, c.h, c.t] rfl _ RR.out (by omega) b HB.out).mono ?_
  rintro e u2 ⟨rfl, rfl⟩
  have B3 : Hid (Below w.heap.size w (u.alloc (.cells #[.int .i64 c.o, .int .i64 c.h, .int .i64 c.t] 65))) := BU.out.alloc su _
  clear RR BU
  go_wp2
  go_ret
  exact ⟨rfl, B3.out⟩
end Go.Proofs.YtkdecpnbbpmooacDoor
