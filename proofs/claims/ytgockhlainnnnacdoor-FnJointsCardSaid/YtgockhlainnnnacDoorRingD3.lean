/- NextKeys on both sides. -/
import Derived.Test.YtgockhlainnnnacDoorRingD2
namespace Go.Proofs.YtgockhlainnnnacDoor
open Go.ChangeShapes Go.WideShapes Go.ChangeAt Go.RowKit
set_option linter.unusedVariables false
set_option linter.unusedSimpArgs false

/-- The set of those of the first k keys that may follow a. -/
def nkM (a : Int) : Nat → Int
  | 0 => 0
  | k + 1 => if Free a (k : Int) then bits BinOp.or IntKind.u16 (nkM a k) (IntKind.u16.wrap (1 * 2 ^ k)) else nkM a k

theorem next_chain_fin : ∀ a : Fin 16, chain 16 (nkM (a.val : Int) 16) = some (nextL (a.val : Int)) := by decide +kernel
theorem next_chain (a : Int) (h : 0 ≤ a ∧ a ≤ 15) : chain 16 (nkM a 16) = some (nextL a) := by
  obtain ⟨f, rfl⟩ := fin16 a h
  exact next_chain_fin f
theorem nextL_len (a : Int) : (nextL a).length ≤ 16 := Nat.le_trans (putAll_length a fiveSteps) (by decide)

theorem nk_u16_fin : ∀ a : Fin 16, 0 ≤ nkM a.val 16 ∧ nkM a.val 16 ≤ 65535 := by decide +kernel
theorem nk_u16 (a : Int) (h : 0 ≤ a ∧ a ≤ 15) : 0 ≤ nkM a 16 ∧ nkM a 16 ≤ 65535 := by
  obtain ⟨f, rfl⟩ := fin16 a h
  exact nk_u16_fin f

set_option maxRecDepth 100000 in
set_option maxHeartbeats 4000000 in
theorem nextKeys_any (q : Rg) (h : OkR q) (w : World) (T : TDebL w) :
    Calls Tryd.prog 49 #[(.agg #[.int .i64 q.k, .int .i64 q.y])] w fun e w' => ∃ v', e = .returned v' ∧ OwnI w' w.heap.size v' (nextL q.y) ∧ Below w.heap.size w w' := by
  have HT := Lib.hid T
  have HQ := Lib.hid h
  have c4 := Lib.hid (fun w T => list_any (nkM q.y 16) (nk_u16 q.y h.2) 16 (nextL q.y) (next_chain q.y h.2) (nextL_len _) w T)
  clear T h
  go_enter Tryd.func49, Tryd.ntmps49
  go_wp2
  have N0 : Hid ((w.alloc (.cells #[.int .i64 q.k, .int .i64 q.y] 35)).heap[w.heap.size]? = some (.cells #[.int .i64 q.k, .int .i64 q.y] 35 (0, 0))) := heap_alloc_new w _
  have B0 : Hid (Below w.heap.size w (w.alloc (.cells #[.int .i64 q.k, .int .i64 q.y] 35))) := (Below.refl _ _).alloc (Nat.le_refl _) _
  have y0 : w.heap.size < (w.alloc (.cells #[.int .i64 q.k, .int .i64 q.y] 35)).heap.size := by simp
  go_loopw [3, 5] (fun sv iv wr => ∃ k : Nat, k ≤ 16 ∧ iv = .int .i64 k ∧ sv = .int .u16 (nkM q.y k) ∧ Hid (wr.heap[w.heap.size]? = some (.cells #[.int .i64 q.k, .int .i64 q.y] 35 (0, 0))) ∧ Hid (Below w.heap.size w wr) ∧ w.heap.size < wr.heap.size) (fun _ iv _ => 16 - (intOf iv).toNat)
  case atStart => exact ⟨0, by omega, rfl, rfl, N0, B0, y0⟩
  case round =>
    obtain ⟨k, hk, rfl, rfl, N, B, hz⟩ := hrel
    clear N0 B0 y0
    by_cases hlt : k < 16
    · have i1 : (k : Int) < 16 := by omega
      have i2 : (0 : Int) ≤ (k : Int) := by omega
      obtain ⟨⟨k0, k1⟩, -⟩ := boxRg_at N.out
      obtain ⟨m, hm⟩ : ∃ m, bits BinOp.and IntKind.u16 (jM q.y) (jM (k : Int)) = m := ⟨_, rfl⟩
      have hfm : m = 0 ↔ Free q.y (k : Int) := by rw [← hm, free_bits _ _ HQ.out.2 (by omega)]
      have MC := Lib.hid (fun w => meeting_any q ⟨0, (k : Int)⟩ HQ.out ⟨⟨by show (0 : Int) ≤ 0; omega, by show (0 : Int) ≤ 1; omega⟩, by show 0 ≤ (k : Int) ∧ (k : Int) ≤ 15; omega⟩ m hm w)
      by_cases hm0 : m = 0
      · have hn : nkM q.y (k + 1) = bits BinOp.or IntKind.u16 (nkM q.y k) (IntKind.u16.wrap (1 * 2 ^ k)) := by simp only [nkM, if_pos (hfm.mp hm0)]
        subst hm0
        have HN := Lib.hid hn
        clear hfm hm hn
        go_wp2_with fail
        refine (MC.out _).mono ?_
        rintro e w2 ⟨rfl, b2⟩
        have N2 := Lib.hid ((b2.block w.heap.size (by omega)).trans N.out)
        have B2 : Hid (Below w.heap.size w w2) := B.out.trans (b2.mono (by omega))
        have z2 : w.heap.size < w2.heap.size := Nat.lt_of_lt_of_le hz b2.size
        clear b2 N B k0 k1
        go_wp2
        exact ⟨⟨k + 1, by omega, by go_num, by rw [HN.out]; first | rfl | simp, N2, B2, z2⟩, by simp only [intOf]; omega⟩
      · have hn : nkM q.y (k + 1) = nkM q.y k := by simp only [nkM, if_neg (fun h => hm0 (hfm.mpr h))]
        have hne : ((m == 0) : Bool) = false := by simpa using hm0
        have HN := Lib.hid hn
        clear hfm hm hn hm0
        go_wp2_with fail
        refine (MC.out _).mono ?_
        rintro e w2 ⟨rfl, b2⟩
        have N2 := Lib.hid ((b2.block w.heap.size (by omega)).trans N.out)
        have B2 : Hid (Below w.heap.size w w2) := B.out.trans (b2.mono (by omega))
        have z2 : w.heap.size < w2.heap.size := Nat.lt_of_lt_of_le hz b2.size
        clear b2 N B k0 k1
        go_wp2
        exact ⟨⟨k + 1, by omega, by go_num, by rw [HN.out], N2, B2, z2⟩, by simp only [intOf]; omega⟩
    · obtain rfl : k = 16 := by omega
      go_wp2_with fail
      refine (c4.out _ (HT.out.later B.out)).mono ?_
      rintro e w4 ⟨v4, rfl, o4, b4⟩
      have O4 : Hid (OwnI w4 w.heap.size v4 (nextL q.y)) := o4.mono (by omega)
      have B4 : Hid (Below w.heap.size w w4) := B.out.trans (b4.mono (by omega))
      clear o4 b4
      go_wp2
      go_ret
      exact ⟨_, rfl, O4.out, B4.out⟩

set_option maxHeartbeats 1000000 in
theorem implNext_yes' (q : Rg) (h : OkR q) : GivesI 22 #[(.agg #[.int .i64 q.k, .int .i64 q.y])] (nextL q.y) true := by
  intro w T
  have c1 := Lib.hid (fun w => implRing_any q true ⟨fun _ => h, fun _ => rfl⟩ w)
  have c2 := Lib.hid (fun w T => nextKeys_any q h w T)
  have HT := Lib.hid T
  clear h T
  go_enter Tryd.func22, Tryd.ntmps22
  go_wp2_with fail
  refine (c1.out _).mono ?_
  rintro e w1 ⟨rfl, b1⟩
  have z1 := b1.size
  simp only [World.size_alloc] at z1
  have n1 := (b1.block w.heap.size (by simp only [World.size_alloc]; omega)).trans (heap_alloc_new w _)
  obtain ⟨⟨k0, k1⟩, -⟩ := boxRg_at n1
  have B1 : Hid (Below w.heap.size w w1) := Below.trans (by go_grown) (b1.mono (by simp only [World.size_alloc]; omega))
  clear b1 n1
  go_wp2_with fail
  refine (c2.out _ (HT.out.later B1.out)).mono ?_
  rintro e w3 ⟨v3, rfl, o3, b3⟩
  have O3 : Hid (OwnI w3 w.heap.size v3 (nextL q.y)) := o3.mono (by omega)
  have B3 : Hid (Below w.heap.size w w3) := B1.out.trans (b3.mono (by omega))
  clear o3 b3 k0 k1
  go_wp2
  go_ret2
  exact ⟨_, rfl, O3.out, B3.out⟩

theorem implNext_no' (q : Rg) (h : ¬ OkR q) : GivesI 22 #[(.agg #[.int .i64 q.k, .int .i64 q.y])] [] false := by
  intro w T
  have c1 := Lib.hid (fun w => implRing_any q false ⟨fun e => (by cases e), fun e => absurd e h⟩ w)
  clear h T
  go_enter Tryd.func22, Tryd.ntmps22
  go_wp2_with fail
  refine (c1.out _).mono ?_
  rintro e w1 ⟨rfl, b1⟩
  have B1 : Hid (Below w.heap.size w w1) := Below.trans (by go_grown) (b1.mono (by simp only [World.size_alloc]; omega))
  clear b1
  go_wp2
  go_ret2
  exact ⟨_, rfl, OwnI.nil' _ _, B1.out⟩

set_option maxHeartbeats 1000000 in
theorem specNext_yes' (q : Rg) (h : OkR q) : GivesI 21 #[(.agg #[.int .i64 q.k, .int .i64 q.y])] (nextL q.y) true := by
  intro w T
  have c1 := Lib.hid (fun w => l03Is_any q true ⟨fun _ => h, fun _ => rfl⟩ w)
  have c2 := Lib.hid (fun w => l03Next_any q.y h.2 w)
  clear h T
  go_enter Tryd.func21, Tryd.ntmps21
  go_wp2_with fail
  refine (c1.out _).mono ?_
  rintro e w1 ⟨rfl, b1⟩
  have z1 := b1.size
  simp only [World.size_alloc] at z1
  have n1 := (b1.block w.heap.size (by simp only [World.size_alloc]; omega)).trans (heap_alloc_new w _)
  obtain ⟨⟨k0, k1⟩, -⟩ := boxRg_at n1
  have B1 : Hid (Below w.heap.size w w1) := Below.trans (by go_grown) (b1.mono (by simp only [World.size_alloc]; omega))
  clear b1 n1
  go_wp2_with fail
  refine (c2.out _).mono ?_
  rintro e w3 ⟨v3, rfl, o3, b3⟩
  have O3 : Hid (OwnI w3 w.heap.size v3 (nextL q.y)) := o3.mono (by omega)
  have B3 : Hid (Below w.heap.size w w3) := B1.out.trans (b3.mono (by omega))
  clear o3 b3 k0 k1
  go_wp2
  go_ret2
  exact ⟨_, rfl, O3.out, B3.out⟩

theorem specNext_no' (q : Rg) (h : ¬ OkR q) : GivesI 21 #[(.agg #[.int .i64 q.k, .int .i64 q.y])] [] false := by
  intro w T
  have c1 := Lib.hid (fun w => l03Is_any q false ⟨fun e => (by cases e), fun e => absurd e h⟩ w)
  clear h T
  go_enter Tryd.func21, Tryd.ntmps21
  go_wp2_with fail
  refine (c1.out _).mono ?_
  rintro e w1 ⟨rfl, b1⟩
  have B1 : Hid (Below w.heap.size w w1) := Below.trans (by go_grown) (b1.mono (by simp only [World.size_alloc]; omega))
  clear b1
  go_wp2
  go_ret2
  exact ⟨_, rfl, OwnI.nil' _ _, B1.out⟩

theorem exNextKeys (q : Rg) : ∃ (ys : List Int) (b : Bool), ys.length ≤ 1048576 ∧
    Hid (∀ (w : World), TDebL w → Calls Tryd.prog 21 #[(.agg #[.int .i64 q.k, .int .i64 q.y])] w fun e w' => ∃ u0, e = .returned (.tuple #[u0, .bool b]) ∧ OwnI w' w.heap.size u0 ys ∧ Below w.heap.size w w') ∧
    Hid (∀ (w : World), TDebL w → Calls Tryd.prog 22 #[(.agg #[.int .i64 q.k, .int .i64 q.y])] w fun e w' => ∃ u0, e = .returned (.tuple #[u0, .bool b]) ∧ OwnI w' w.heap.size u0 ys ∧ Below w.heap.size w w') := by
  by_cases h : OkR q
  · exact ⟨_, true, by have := nextL_len q.y; omega, specNext_yes' q h, implNext_yes' q h⟩
  · exact ⟨[], false, by simp, specNext_no' q h, implNext_no' q h⟩
end Go.Proofs.YtgockhlainnnnacDoor
