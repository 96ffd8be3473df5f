/- The specification's machines: which are valid. -/
import Derived.Test.YthhnnkgfnhggbabDoorSpecM
namespace Go.Proofs.YthhnnkgfnhggbabDoor
open Go.ChangeShapes Go.WideShapes Go.ChangeAt Go.RowKit
set_option linter.unusedVariables false
set_option linter.unusedSimpArgs false

set_option maxRecDepth 100000 in
set_option maxRecDepth 100000 in
set_option maxHeartbeats 4000000 in
theorem l04Is_any (g : Nat) (t : TypeId) (m : Mc) (b : Bool) (hb : b = true ↔ OkM m) (w : World) (hg : w.heap[g]? = some (.cells #[.int .i64 m.u.s, .int .i64 m.u.h, .int .i64 m.u.y, .int .i64 m.u.p, .int .i64 m.t.s, .int .i64 m.t.h, .int .i64 m.t.y, .int .i64 m.t.p, .int .i64 m.a] t (0, 0))) :
    Calls Tryd.prog 84 #[.pointer (some ⟨g, 0, none⟩)] w fun e w' => e = .returned (.bool b) ∧ Below w.heap.size w w' := by
  obtain ⟨⟨a0, a1, a2, a3, a4, a5, a6, a7, a8⟩, -, lg⟩ := boxMc_at hg
  have HG := Lib.hid hg
  clear hg
  by_cases h1 : OkP m.u
  · have c1 := Lib.hid (fun w => l02Pose_any m.u true ⟨fun _ => h1, fun _ => rfl⟩ w)
    by_cases h2 : OkP m.t
    · have c2 := Lib.hid (fun w => l02Pose_any m.t true ⟨fun _ => h2, fun _ => rfl⟩ w)
      by_cases h3 : 0 ≤ m.a ∧ m.a ≤ 2400
      · have hn : NearM m := ⟨h1, h2, h3.1, h3.2⟩
        have c3 := Lib.hid (fun w => in_any m.a 0 2400 true ⟨fun _ => h3, fun _ => rfl⟩ w)
        have c4 := Lib.hid (fun w hg => l04Gaps_any g t m hn w hg)
        have c5 := Lib.hid (fun w hg => l04Strokes_any g t m hn w hg)
        have HB := Lib.hid hb
        have HN := Lib.hid hn
        clear hb h1 h2 h3 hn
        go_enter Tryd.func84, Tryd.ntmps84
        go_wp2_with fail
        refine (c1.out _).mono ?_
        rintro e w1 ⟨rfl, rfl⟩
        go_wp2_with fail
        refine (c2.out _).mono ?_
        rintro e w1 ⟨rfl, rfl⟩
        go_wp2_with fail
        refine (c3.out _).mono ?_
        rintro e w1 ⟨rfl, rfl⟩
        go_wp2_with fail
        refine (c4.out _ (by rw [Below.heap_alloc _ _ _ (by simp only [World.size_alloc]; omega), Below.heap_alloc _ _ _ (by omega)]; exact HG.out)).mono ?_
        rintro e w4 ⟨v4, rfl, o4, b4⟩
        have z4 := b4.size
        simp only [World.size_alloc] at z4
        have B4 : Hid (Below w.heap.size w w4) := Below.trans (by go_grown) (b4.mono (by simp only [World.size_alloc]; omega))
        have O4 := Lib.hid (o4.mono (show w.heap.size ≤ ((w.alloc _).alloc _).heap.size by simp only [World.size_alloc]; omega))
        clear b4 o4 a0 a1 a2 a3 a4 a5 a6 a7 a8
        go_wp2_with fail
        refine (c5.out _ ((B4.out.block g lg).trans HG.out)).mono ?_
        rintro e w5 ⟨v5, rfl, o5, b5⟩
        have z5 := b5.size
        have B5 : Hid (Below w.heap.size w w5) := B4.out.trans (b5.mono (by omega))
        have R4 := Lib.hid ((O4.out.below b5 fun k e => (O4.out.lt k e).2).rd)
        have R5 := Lib.hid o5.rd
        clear b5 o5 O4 B4
        obtain ⟨ac, cc, rfl, hcG⟩ := R4.out
        obtain ⟨ad, cd, rfl, hcS⟩ := R5.out
        obtain ⟨gb, go, rfl, hcG2⟩ := hcG.resolve_left (by simp [gapsM])
        obtain ⟨sb, so, rfl, hcS2⟩ := hcS.resolve_left (by simp [strokesM])
        have HCG := Lib.hid hcG2
        have HCS := Lib.hid hcS2
        have LG : Hid ((gapsM m).length = 4) := rfl
        have LS : Hid ((strokesM m).length = 4) := rfl
        clear hcG hcS hcG2 hcS2 R4 R5
        have eG : (gapsM m).length = 4 := rfl
        have eS : (strokesM m).length = 4 := rfl
        rw [eG, eS]
        clear eG eS
        obtain ⟨G, hG⟩ : ∃ G, G = gapsM m := ⟨_, rfl⟩
        obtain ⟨T, hT⟩ : ∃ T, T = strokesM m := ⟨_, rfl⟩
        rw [← hG] at HCG LG
        rw [← hT] at HCS LS
        have HB' : Hid (b = true ↔ (∀ x ∈ G, 0 ≤ x) ∧ ∀ x ∈ T, 0 ≤ x ∧ x ≤ 2400) := by
          show _ ↔ _
          rw [HB.out, hG, hT]
          exact ⟨fun h => h.2, fun h => ⟨HN.out, h⟩⟩
        have I0 : Hid (∀ i x, i < 0 → (G[i]? = some x → 0 ≤ x) ∧ (T[i]? = some x → 0 ≤ x ∧ x ≤ 2400)) := by
          intro i x h; omega
        clear hG hT HB HN c4 c5
        go_wp2_with fail
        go_loopw [5] (fun i wr => ∃ k : Nat, k ≤ 4 ∧ i = .int .i64 k ∧ wr = w5 ∧ Hid (∀ i x, i < k → (G[i]? = some x → 0 ≤ x) ∧ (T[i]? = some x → 0 ≤ x ∧ x ≤ 2400))) (fun i _ => 4 - (intOf i).toNat)
        case atStart => exact ⟨0, by omega, rfl, rfl, I0⟩
        case round =>
          obtain ⟨k, hk, rfl, rfl, IK⟩ := hrel
          clear I0
          by_cases hlt : k < 4
          · obtain ⟨x, hx⟩ : ∃ x, G[k]? = some x := ⟨_, List.getElem?_eq_getElem (by have := LG.out; omega)⟩
            obtain ⟨y, hy⟩ : ∃ y, T[k]? = some y := ⟨_, List.getElem?_eq_getElem (by have := LS.out; omega)⟩
            have d1 := HCG.out k x hx
            have d2 := HCS.out k y hy
            have lt : (k : Int) < 4 := by omega
            by_cases gx : 0 ≤ x
            · have gx' : ¬ x < 0 := by omega
              by_cases gy : 0 ≤ y ∧ y ≤ 2400
              · have c6 := Lib.hid (fun w => in_any y 0 2400 true ⟨fun _ => gy, fun _ => rfl⟩ w)
                have IK' : Hid (∀ i x, i < k + 1 → (G[i]? = some x → 0 ≤ x) ∧ (T[i]? = some x → 0 ≤ x ∧ x ≤ 2400)) := by
                  intro i u hi
                  by_cases e : i < k
                  · exact IK.out i u e
                  · obtain rfl : i = k := by omega
                    refine ⟨fun h => ?_, fun h => ?_⟩
                    · rw [hx] at h; cases h; exact gx
                    · rw [hy] at h; cases h; exact gy
                clear hx hy gx gy IK
                go_wp2_with fail
                refine (c6.out _).mono ?_
                rintro e w6 ⟨rfl, rfl⟩
                go_wp2
                exact ⟨⟨k + 1, by omega, by go_num, trivial, IK'⟩, by simp only [intOf]; omega⟩
              · have c6 := Lib.hid (fun w => in_any y 0 2400 false ⟨fun h => (by cases h), fun h => absurd h gy⟩ w)
                obtain rfl : b = false := b_false HB'.out fun h => gy (h.2 y (List.mem_of_getElem? hy))
                clear hx hy gx gy IK
                go_wp2_with fail
                refine (c6.out _).mono ?_
                rintro e w6 ⟨rfl, rfl⟩
                go_wp2
                go_ret
                exact ⟨rfl, B5.out⟩
            · have gx' : x < 0 := by omega
              obtain rfl : b = false := b_false HB'.out fun h => gx (h.1 x (List.mem_of_getElem? hx))
              clear hx hy gx IK
              go_wp2
              go_ret
              exact ⟨rfl, B5.out⟩
          · obtain rfl : k = 4 := by omega
            obtain rfl : b = true := HB'.out.mpr (by
              constructor
              · intro x hx
                obtain ⟨i, hi, rfl⟩ := List.mem_iff_getElem.1 hx
                exact (IK.out i _ (by have := LG.out; omega)).1 (List.getElem?_eq_getElem hi)
              · intro x hx
                obtain ⟨i, hi, rfl⟩ := List.mem_iff_getElem.1 hx
                exact (IK.out i _ (by have := LS.out; omega)).2 (List.getElem?_eq_getElem hi))
            go_wp2
            go_ret
            exact ⟨rfl, B5.out⟩
      · obtain rfl : b = false := b_false hb fun h => h3 h.1.2.2
        have c3 := Lib.hid (fun w => in_any m.a 0 2400 false ⟨fun h => (by cases h), fun h => absurd h h3⟩ w)
        clear hb h1 h2 h3
        go_enter Tryd.func84, Tryd.ntmps84
        go_wp2_with fail
        refine (c1.out _).mono ?_
        rintro e w1 ⟨rfl, rfl⟩
        go_wp2_with fail
        refine (c2.out _).mono ?_
        rintro e w1 ⟨rfl, rfl⟩
        go_wp2_with fail
        refine (c3.out _).mono ?_
        rintro e w1 ⟨rfl, rfl⟩
        go_wp2
        go_ret
        exact ⟨rfl, by go_grown⟩
    · obtain rfl : b = false := b_false hb fun h => h2 h.1.2.1
      have c2 := Lib.hid (fun w => l02Pose_any m.t false ⟨fun h => (by cases h), fun h => absurd h h2⟩ w)
      clear hb h1 h2
      go_enter Tryd.func84, Tryd.ntmps84
      go_wp2_with fail
      refine (c1.out _).mono ?_
      rintro e w1 ⟨rfl, rfl⟩
      go_wp2_with fail
      refine (c2.out _).mono ?_
      rintro e w1 ⟨rfl, rfl⟩
      go_wp2
      go_ret
      exact ⟨rfl, by go_grown⟩
  · obtain rfl : b = false := b_false hb fun h => h1 h.1.1
    have c1 := Lib.hid (fun w => l02Pose_any m.u false ⟨fun h => (by cases h), fun h => absurd h h1⟩ w)
    clear hb h1
    go_enter Tryd.func84, Tryd.ntmps84
    go_wp2_with fail
    refine (c1.out _).mono ?_
    rintro e w1 ⟨rfl, rfl⟩
    go_wp2
    go_ret
    exact ⟨rfl, by go_grown⟩
end Go.Proofs.YthhnnkgfnhggbabDoor
