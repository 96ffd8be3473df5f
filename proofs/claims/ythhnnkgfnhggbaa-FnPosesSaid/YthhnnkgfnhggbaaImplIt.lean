/- The walks of the program's sums of rings. -/
import Derived.Test.YthhnnkgfnhggbaaImplIs
import Derived.Handy
namespace Go.Proofs.Ythhnnkgfnhggbaa
open Go.ChangeShapes Go.WideShapes Go.ChangeAt Go.RowKit
set_option linter.unusedVariables false
set_option linter.unusedSimpArgs false

set_option maxRecDepth 100000 in
set_option maxHeartbeats 2000000 in
theorem ends_any (v : Value) (cs : List Cv) (w : World) (h : RdS 3 encCv w v cs) (lz : cs.length ≤ 8) (hall : ∀ c ∈ cs, OkCv c) :
    Calls Try.prog 84 #[v] w fun e w' => ∃ v', e = .returned v' ∧ OwnI w' w.heap.size v' (endsTo cs cs.length) ∧ Below w.heap.size w w' := by
  obtain ⟨i0, hi, hz0, hz1, hz2⟩ := info_parts info_i64
  have H := Lib.hid h
  have HA := Lib.hid hall
  obtain ⟨a, cap, rfl, _⟩ := h
  obtain ⟨n, hn⟩ : ∃ n, n = cs.length := ⟨_, rfl⟩
  rw [← hn] at H lz
  rw [← hn]
  have HN := Lib.hid hn
  clear hn hall
  go_enter Try.func84, Try.ntmps84
  go_wp2_with (first | (at_make; refine wpList_make_full _ rfl _ _ _ rfl w.heap.size 2 i0 (.int .i64 0) 1 Try.underlying116 hi hz0 hz1 .i64 .i64 _ _ n rfl rfl rfl rfl ?b2 ?b3 (Nat.le_refl _) ?_) | go_in)
  case b2 => rw [hz2]; omega
  case b3 => unfold maxLen; omega
  intro w1 hown hg
  rw [toList_madeCells_one] at hown
  have O1 : Hid (OwnI w1 w.heap.size (.slice (some ⟨w.heap.size, 0, none⟩) n n) (List.replicate n 0)) := by
    show OwnI _ _ _ _
    unfold OwnI
    rw [List.length_replicate, List.map_replicate]
    exact hown
  have B1 : Hid (Below w.heap.size w w1) := (Below.refl _ _).grown hg (Nat.le_refl _) (fun k h => by cases h)
  clear hown hg
  go_wp2
  go_loopw [12, 4] (fun i r wr => ∃ k : Nat, k ≤ n ∧ i = .int .i64 k ∧ r = .int .i64 (sumR (cs.take k)) ∧ Hid (OwnI wr w.heap.size (.slice (some ⟨w.heap.size, 0, none⟩) n n) (endsTo cs k ++ List.replicate (n - k) 0)) ∧ Hid (Below w.heap.size w wr)) (fun i _ _ => n - (intOf i).toNat)
  case atStart => exact ⟨0, by omega, rfl, rfl, by simpa [endsTo] using O1, B1⟩
  case round =>
    obtain ⟨k, hk, rfl, rfl, ho, B⟩ := hrel
    clear O1 B1
    by_cases hlt : k < n
    · obtain ⟨c, hx⟩ : ∃ x, cs[k]? = some x := ⟨_, List.getElem?_eq_getElem (by have := HN.out; omega)⟩
      obtain ⟨ba, oa, rfl, e0, e1, e2⟩ := (H.out.later B.out).at3 k c hx
      have hsz := B.out.size
      have hs1 := sumR_take_succ cs k c hx
      have bd := sumR_bd (cs.take (k + 1)) (fun d hd => HA.out d (List.mem_of_mem_take hd))
      have bl : (cs.take (k + 1)).length ≤ 8 := by rw [List.length_take]; have := HN.out; omega
      obtain ⟨s, hs⟩ : ∃ s, s = sumR (cs.take k) := ⟨_, rfl⟩
      rw [← hs] at hs1
      rw [← hs]
      have q1 : IntKind.i64.wrap (s + c.r) = s + c.r := IntWalk.i64_in _ (by omega)
      have HS1 := Lib.hid hs1
      have lg : w.heap.size < wr.heap.size := (ho.out.lt _ rfl).2
      have hlen : (endsTo cs k ++ List.replicate (n - k) (0 : Int)).length = n := by simp [endsTo_length]; omega
      have own := ho.out
      unfold OwnI at own
      rw [hlen] at own
      have c2 := own.cellAt k (by omega)
      have hx2 : (endsTo cs k ++ List.replicate (n - k) (0 : Int))[k]? = some 0 := by
        rw [List.getElem?_append_right (by rw [endsTo_length]; omega), endsTo_length, Nat.sub_self, List.getElem?_replicate, if_pos (by omega)]
      rw [List.getElem?_map, hx2] at c2
      simp only [Option.map_some] at c2
      have f1 := own.frozenAt k
      have s1 : Hid (OwnI ((wr.setCell ⟨w.heap.size, k, none⟩ (.int .i64 (s + c.r))).alloc (.cells #[.int .i64 c.r, .int .i64 c.b, .int .i64 c.s] 46)) w.heap.size (.slice (some ⟨w.heap.size, 0, none⟩) n n) (endsTo cs (k + 1) ++ List.replicate (n - (k + 1)) 0)) := by
        have := OwnI.stored (w := wr) hlen.symm ho.out k (s + c.r) (by omega)
        rw [List.set_append_right _ _ (by rw [endsTo_length]; omega), endsTo_length, Nat.sub_self, show n - k = (n - (k + 1)) + 1 by omega, List.replicate_succ, List.set_cons_zero] at this
        show OwnI _ _ _ _
        rw [endsTo_succ, HS1.out]
        exact World.ownsRow.alloc (by simpa [OwnI] using this) _
      have s2 : Hid (Below w.heap.size w ((wr.setCell ⟨w.heap.size, k, none⟩ (.int .i64 (s + c.r))).alloc (.cells #[.int .i64 c.r, .int .i64 c.b, .int .i64 c.s] 46))) := (B.out.setCell (p := ⟨w.heap.size, k, none⟩) (Nat.le_refl _) _).alloc (by simpa using hsz) _
      clear hx own hlen ho hx2 B hs hs1 bd bl
      go_wp2
      exact ⟨⟨k + 1, by omega, by go_num, by rw [HS1.out], s1, s2⟩, by simp only [intOf]; omega⟩
    · obtain rfl : k = n := by omega
      have ho' := ho.out
      rw [Nat.sub_self, List.replicate_zero, List.append_nil] at ho'
      have HO := Lib.hid ho'
      clear ho' ho
      go_wp2
      go_ret
      exact ⟨_, rfl, HO.out, B.out⟩

set_option maxRecDepth 100000 in
set_option maxHeartbeats 2000000 in
theorem rings_any (v : Value) (cs : List Cv) (w : World) (h : RdS 3 encCv w v cs) (l1 : 1 ≤ cs.length) (lz : cs.length ≤ 8) (hall : ∀ c ∈ cs, OkCv c) :
    Calls Try.prog 46 #[v] w fun e w' => e = .returned (.int .i64 (sumR cs)) ∧ Below w.heap.size w w' := by
  have H := Lib.hid h
  have HA := Lib.hid hall
  obtain ⟨a, cap, rfl, _⟩ := h
  obtain ⟨n, hn⟩ : ∃ n, n = cs.length := ⟨_, rfl⟩
  rw [← hn] at H lz l1
  rw [← hn]
  have HN := Lib.hid hn
  clear hn hall
  go_enter Try.func46, Try.ntmps46
  go_wp2_with fail
  refine (ends_any _ cs w H.out (by have := HN.out; omega) HA.out).mono ?_
  rintro e w1 ⟨v', rfl, o1, b1⟩
  have B1 := Lib.hid b1
  have r1 := o1.rd
  obtain ⟨a', cap', rfl, r2⟩ := r1
  rw [endsTo_length, ← HN.out]
  have hne : ¬ endsTo cs cs.length = [] := by intro e; have := endsTo_length cs cs.length; rw [e] at this; simp at this; have := HN.out; omega
  obtain ⟨b, off, rfl, c⟩ := r2.resolve_left hne
  have c1 := c (n - 1) (sumR cs) (by
    rw [← HN.out]
    unfold endsTo
    rw [List.getElem?_map, List.getElem?_range (by omega)]
    simp only [Option.map_some]
    rw [List.take_of_length_le (by have := HN.out; omega)])
  have i1 : ((n : Int) - 1) = ((n - 1 : Nat) : Int) := by omega
  have i2 : n - 1 < n := by omega
  clear o1 b1 r2 hne c
  obtain ⟨m, hm⟩ : ∃ m, m = n - 1 := ⟨_, rfl⟩
  rw [← hm] at c1 i1 i2
  have i3 : IntKind.i64.wrap ((n : Int) - 1) = m := by rw [i1]; exact IntWalk.i64_in _ (by omega)
  clear hm
  go_wp2
  go_ret
  exact ⟨rfl, B1.out⟩

set_option maxRecDepth 100000 in
set_option maxHeartbeats 2000000 in
theorem routeOk_any (v : Value) (cs : List Cv) (w : World) (h : RdS 3 encCv w v cs) (lz : cs.length ≤ 1048576) (b : Bool) (hb : b = true ↔ (1 ≤ (cs.length : Int) ∧ (cs.length : Int) ≤ 8) ∧ (∀ c ∈ cs, OkCv c) ∧ sumR cs ≤ 60) :
    Calls Try.prog 50 #[v] w fun e w' => e = .returned (.bool b) ∧ Below w.heap.size w w' := by
  have H := Lib.hid h
  obtain ⟨a, cap, rfl, _⟩ := h
  by_cases h1 : 1 ≤ (cs.length : Int) ∧ (cs.length : Int) ≤ 8
  · have c1 := Lib.hid (fun w => withinI_any cs.length 1 8 true ⟨fun _ => h1, fun _ => rfl⟩ w)
    by_cases h2 : ∀ c ∈ cs, OkCv c
    · have bd := sumR_bd cs h2
      obtain ⟨s, hs⟩ : ∃ s, s = sumR cs := ⟨_, rfl⟩
      have hbs : Hid (b = true ↔ s ≤ 60) := by show _ ↔ _; rw [hb, hs]; exact ⟨fun h => h.2.2, fun h => ⟨h1, h2, h⟩⟩
      have c2 := Lib.hid (fun w (hr : RdS 3 encCv w (.slice a cs.length cap) cs) => every_any _ cs w hr lz true ⟨fun _ => h2, fun _ => rfl⟩)
      have c3 := Lib.hid (fun w (hr : RdS 3 encCv w (.slice a cs.length cap) cs) => rings_any _ cs w hr (by omega) (by omega) h2)
      rw [← hs] at c3 bd
      clear hb h2 hs
      go_enter Try.func50, Try.ntmps50
      go_wp2_with fail
      refine (c1.out _).mono ?_
      rintro e w1 ⟨rfl, rfl⟩
      go_wp2_with fail
      refine (c2.out _ H.out).mono ?_
      rintro e w1 ⟨rfl, b1⟩
      have B1 := Lib.hid b1
      clear b1
      go_wp2_with fail
      refine (c3.out _ (H.out.later B1.out)).mono ?_
      rintro e w2 ⟨rfl, b2⟩
      have B2 : Hid (Below w.heap.size w w2) := B1.out.trans (b2.mono B1.out.size)
      clear b2
      by_cases g : s ≤ 60
      · obtain rfl : b = true := hbs.out.mpr g
        have gd : decide (s ≤ 60) = true := by simpa using g
        go_wp2
        go_ret
        exact ⟨rfl, B2.out⟩
      · obtain rfl : b = false := bool_false hbs.out g
        have gd : decide (s ≤ 60) = false := by simpa using g
        go_wp2
        go_ret
        exact ⟨rfl, B2.out⟩
    · obtain rfl : b = false := bool_false hb fun h => h2 h.2.1
      have c2 := Lib.hid (fun w (hr : RdS 3 encCv w (.slice a cs.length cap) cs) => every_any _ cs w hr lz false ⟨fun h => (by cases h), fun h => absurd h h2⟩)
      clear hb h2
      go_enter Try.func50, Try.ntmps50
      go_wp2_with fail
      refine (c1.out _).mono ?_
      rintro e w1 ⟨rfl, rfl⟩
      go_wp2_with fail
      refine (c2.out _ H.out).mono ?_
      rintro e w1 ⟨rfl, b1⟩
      have B1 := Lib.hid b1
      clear b1
      go_wp2
      go_ret
      exact ⟨rfl, B1.out⟩
  · obtain rfl : b = false := bool_false hb fun h => h1 h.1
    have c1 := Lib.hid (fun w => withinI_any cs.length 1 8 false ⟨fun h => (by cases h), fun h => absurd h h1⟩ w)
    clear hb h1
    go_enter Try.func50, Try.ntmps50
    go_wp2_with fail
    refine (c1.out _).mono ?_
    rintro e w1 ⟨rfl, rfl⟩
    go_wp2
    go_ret
    exact ⟨rfl, Below.refl _ _⟩
end Go.Proofs.Ythhnnkgfnhggbaa
