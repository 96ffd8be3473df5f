/- Plans of a head: the specification's check. (Written by tools/mkplan.py.) -/
import Derived.Test.YtmdddjhlfpmgdacPlanM
import Derived.Test.YtmdddjhlfpmgdacHas
import Derived.Deep.QuietTactic
namespace Go.Proofs.Ytmdddjhlfpmgdac
open Go.ChangeShapes Go.WideShapes Go.ChangeAt Go.RowKit
set_option linter.unusedVariables false
set_option linter.unusedSimpArgs false

set_option maxRecDepth 100000 in
set_option maxHeartbeats 16000000 in
theorem l08Plan_any (G : Nat) (ty : TypeId) (g : Hd) (n0 n1 n2 : Nat) (v : Value) (xs : List Su) (w : World) (hG : w.heap[G]? = some (.cells #[.slice g.ca n0 g.cc, .slice g.ha n1 g.hc, .slice g.sa n2 g.sc, .int .i64 g.p, .int .i64 g.q] ty (0, 0))) (hr : RdHd w n0 n1 n2 g) (l0 : n0 ≤ 1048576) (l2 : n2 ≤ 1048576) (hv : RdSt w v xs) (lx : xs.length ≤ 1048576) (lt : ∀ x ∈ xs, x.t.length ≤ 1048576) (b : Bool) (hb : b = true ↔ OkPlan g xs) :
    Calls Try.prog 36 #[.pointer (some ⟨G, 0, none⟩), v] w fun e w' => e = .returned (.bool b) ∧ ∃ q, w' = w.drewN q := by
  obtain ⟨e0, e1, e2⟩ := hr.len
  obtain ⟨⟨p0, p1, p2, p3, p4⟩, -, -⟩ := boxedHd_at hG
  have H := Lib.hid hv
  obtain ⟨a, cap, rfl, -⟩ := id hv.rows
  obtain ⟨n, hn⟩ : ∃ n, n = xs.length := ⟨_, rfl⟩
  rw [← hn] at H lx
  rw [← hn]
  have HN := Lib.hid hn
  have HB := Lib.hid hb
  have LT := Lib.hid lt
  have R2 := Lib.hid hr.r2
  have E0 := Lib.hid e0
  have E2 := Lib.hid e2
  have q0 : IntKind.i64.wrap ((n0 : Int) - 1) = (n0 : Int) - 1 := IntWalk.i64_in _ (by omega)
  clear hG hr hv hn hb lt e0 e1 e2
  go_enter Try.func36, Try.ntmps36
  go_wp2
  go_loopw [5] (fun i wr => ∃ k : Nat, k ≤ n ∧ i = .int .i64 k ∧ Hid (PlanTo g xs k) ∧ Hid (∃ q, wr = w.drewN q)) (fun i _ => n - (intOf i).toNat)
  case atStart => exact ⟨0, by omega, rfl, ⟨fun i x h => by omega, fun i x y h => by omega⟩, ⟨0, rfl⟩⟩
  case round =>
    obtain ⟨k, hk, rfl, ha, hw⟩ := hrel
    obtain ⟨q, hq⟩ := hw.out
    have ec : ∀ p, wr.cell? p = w.cell? p := fun p => by rw [hq]; rfl
    have H' : Hid (RdSt wr (.slice a n cap) xs) := by show RdSt _ _ _; rw [hq]; exact H.out.drewN q
    have R2' : Hid (RdI wr (.slice g.sa n2 g.sc) g.s) := by show RdI _ _ _; rw [hq]; exact R2.out.drewN q
    have p0' := (ec _).trans p0
    have p2' := (ec _).trans p2
    have HQ := Lib.hid hq
    clear hq ec hw p0 p1 p2 p3 p4 H R2
    by_cases hlt : k < n
    · obtain ⟨x, hx⟩ : ∃ x, xs[k]? = some x := ⟨_, List.getElem?_eq_getElem (by have := HN.out; omega)⟩
      obtain ⟨ba, oa, rfl, c0, c1, xr, -⟩ := H'.out.at hx
      have XR : Hid (RdI wr (.slice x.a x.t.length x.c) x.t) := H'.out.tops x (List.mem_of_getElem? hx)
      have HX := Lib.hid hx
      have tl := LT.out x (List.mem_of_getElem? hx)
      obtain ⟨m, hm⟩ : ∃ m, m = x.t.length := ⟨_, rfl⟩
      obtain ⟨b1, h1⟩ := ok_boolS (x.r ∈ g.s)
      obtain ⟨b2, h2⟩ := ok_boolS (RisesIn 0 ((n0 : Int) - 1) x.t)
      have C1 := Lib.hid (fun w h => l00Has_any (.slice g.sa n2 g.sc) g.s x.r w h (by have := E2.out; omega) b1 h1)
      have C2 := Lib.hid (fun w h => l00Rises_any (.slice x.a x.t.length x.c) x.t 0 ((n0 : Int) - 1) w h (by omega) b2 h2)
      rw [← hm] at c1 XR C2
      have OKX : Hid ((b1 = true ∧ ¬ m = 0 ∧ b2 = true) ↔ OkSu g x) := by
        show _ ↔ _
        unfold OkSu
        rw [h1, h2, ← E0.out, hm]
        simp [List.length_eq_zero_iff]
      have tm : m ≤ 1048576 := by omega
      clear hx tl hm h1 h2 xr
      by_cases hk0 : 0 < k
      rotate_left
      · have g0 : decide (0 < k) = false := by simpa using hk0
        cases b1
        · obtain rfl : b = false := b_false HB.out (fun hA => by have := OKX.out.mpr (hA.ok x (List.mem_of_getElem? HX.out)); simp at this)
          clear ha HB OKX
          go_wp2
          go_quiet ((first | (go_at_call 70; exact (C1.out _ (R2'.out.drewN _)).mono fun _ _ h => ⟨h.1, ⟨_, h.2⟩⟩) | (go_at_call 69; exact Calls.quiet_of (C2.out _ (XR.out.drewN _)))))
          go_wp2
          go_ret
          exact ⟨rfl, ⟨_, by rw [HQ.out]; exact World.drewN_drewN _ _ _⟩⟩
        by_cases hm0 : m = 0
        · have g2 : (m == 0) = true := by simpa using hm0
          have g3 : ((m : Int) == 0) = true := by simpa using hm0
          obtain rfl : b = false := b_false HB.out (fun hA => by have := OKX.out.mpr (hA.ok x (List.mem_of_getElem? HX.out)); exact this.2.1 hm0)
          clear ha HB OKX
          go_wp2
          go_quiet ((first | (go_at_call 70; exact (C1.out _ (R2'.out.drewN _)).mono fun _ _ h => ⟨h.1, ⟨_, h.2⟩⟩) | (go_at_call 69; exact Calls.quiet_of (C2.out _ (XR.out.drewN _)))))
          go_wp2
          go_ret
          exact ⟨rfl, ⟨_, by rw [HQ.out]; exact World.drewN_drewN _ _ _⟩⟩
        have g2 : (m == 0) = false := by simpa using hm0
        have g3 : ((m : Int) == 0) = false := by simp; omega
        cases b2
        · obtain rfl : b = false := b_false HB.out (fun hA => by have := OKX.out.mpr (hA.ok x (List.mem_of_getElem? HX.out)); simp at this)
          clear ha HB OKX
          go_wp2
          go_quiet ((first | (go_at_call 70; exact (C1.out _ (R2'.out.drewN _)).mono fun _ _ h => ⟨h.1, ⟨_, h.2⟩⟩) | (go_at_call 69; exact Calls.quiet_of (C2.out _ (XR.out.drewN _)))))
          go_wp2
          go_ret
          exact ⟨rfl, ⟨_, by rw [HQ.out]; exact World.drewN_drewN _ _ _⟩⟩
        have A1 : Hid (PlanTo g xs (k + 1)) := ha.out.push HX.out (OKX.out.mp ⟨by trivial, hm0, by trivial⟩) (fun p h _ => absurd h hk0)
        clear ha HB OKX
        go_wp2
        go_quiet ((first | (go_at_call 70; exact (C1.out _ (R2'.out.drewN _)).mono fun _ _ h => ⟨h.1, ⟨_, h.2⟩⟩) | (go_at_call 69; exact Calls.quiet_of (C2.out _ (XR.out.drewN _)))))
        go_wp2
        exact ⟨⟨k + 1, by omega, by go_num, A1, ⟨_, by rw [HQ.out]; exact World.drewN_drewN _ _ _⟩⟩, by simp only [intOf]; omega⟩
      have g0 : decide (0 < k) = true := by simpa using hk0
      obtain ⟨j, hj⟩ : ∃ j, k = j + 1 := ⟨k - 1, by omega⟩
      obtain ⟨p, hp⟩ : ∃ p, xs[j]? = some p := ⟨_, List.getElem?_eq_getElem (by have := HN.out; omega)⟩
      obtain ⟨bb, ob, eb, d0, -, -, -⟩ := H'.out.at hp
      simp only [Option.some.injEq, Addr.mk.injEq, and_true] at eb
      obtain ⟨rfl, rfl⟩ := eb
      have q1 : IntKind.i64.wrap ((k : Int) - 1) = (j : Int) := by rw [IntWalk.i64_in _ (by omega)]; omega
      have jn : j < n := by omega
      have HP := Lib.hid hp
      have HJ := Lib.hid hj
      have jk : j < k := by omega
      have PREV : Hid (p.r < x.r → ∀ p', 0 < k → xs[k - 1]? = some p' → p'.r < x.r) := fun hu p' _ hp' => by
        have e : k - 1 = j := by omega
        rw [e, hp] at hp'
        rw [← Option.some.inj hp']; exact hu
      have kj : k ≤ j + 1 := by omega
      clear hp hj
      by_cases hu : p.r < x.r
      rotate_left
      · have g1 : decide (x.r ≤ p.r) = true := by simp; omega
        obtain rfl : b = false := b_false HB.out (fun hA => hu (hA.up j p x HP.out (by rw [← HJ.out]; exact HX.out)))
        clear ha HB OKX
        go_wp2
        go_quiet ((first | (go_at_call 70; exact (C1.out _ (R2'.out.drewN _)).mono fun _ _ h => ⟨h.1, ⟨_, h.2⟩⟩) | (go_at_call 69; exact Calls.quiet_of (C2.out _ (XR.out.drewN _)))))
        go_wp2
        go_ret
        exact ⟨rfl, ⟨_, by rw [HQ.out]; exact World.drewN_drewN _ _ _⟩⟩
      have g1 : decide (x.r ≤ p.r) = false := by simp; omega
      cases b1
      · obtain rfl : b = false := b_false HB.out (fun hA => by have := OKX.out.mpr (hA.ok x (List.mem_of_getElem? HX.out)); simp at this)
        clear ha HB OKX
        go_wp2
        go_quiet ((first | (go_at_call 70; exact (C1.out _ (R2'.out.drewN _)).mono fun _ _ h => ⟨h.1, ⟨_, h.2⟩⟩) | (go_at_call 69; exact Calls.quiet_of (C2.out _ (XR.out.drewN _)))))
        go_wp2
        go_ret
        exact ⟨rfl, ⟨_, by rw [HQ.out]; exact World.drewN_drewN _ _ _⟩⟩
      by_cases hm0 : m = 0
      · have g2 : (m == 0) = true := by simpa using hm0
        have g3 : ((m : Int) == 0) = true := by simpa using hm0
        obtain rfl : b = false := b_false HB.out (fun hA => by have := OKX.out.mpr (hA.ok x (List.mem_of_getElem? HX.out)); exact this.2.1 hm0)
        clear ha HB OKX
        go_wp2
        go_quiet ((first | (go_at_call 70; exact (C1.out _ (R2'.out.drewN _)).mono fun _ _ h => ⟨h.1, ⟨_, h.2⟩⟩) | (go_at_call 69; exact Calls.quiet_of (C2.out _ (XR.out.drewN _)))))
        go_wp2
        go_ret
        exact ⟨rfl, ⟨_, by rw [HQ.out]; exact World.drewN_drewN _ _ _⟩⟩
      have g2 : (m == 0) = false := by simpa using hm0
      have g3 : ((m : Int) == 0) = false := by simp; omega
      cases b2
      · obtain rfl : b = false := b_false HB.out (fun hA => by have := OKX.out.mpr (hA.ok x (List.mem_of_getElem? HX.out)); simp at this)
        clear ha HB OKX
        go_wp2
        go_quiet ((first | (go_at_call 70; exact (C1.out _ (R2'.out.drewN _)).mono fun _ _ h => ⟨h.1, ⟨_, h.2⟩⟩) | (go_at_call 69; exact Calls.quiet_of (C2.out _ (XR.out.drewN _)))))
        go_wp2
        go_ret
        exact ⟨rfl, ⟨_, by rw [HQ.out]; exact World.drewN_drewN _ _ _⟩⟩
      have A1 : Hid (PlanTo g xs (k + 1)) := ha.out.push HX.out (OKX.out.mp ⟨by trivial, hm0, by trivial⟩) (PREV.out hu)
      clear ha HB OKX
      go_wp2
      go_quiet ((first | (go_at_call 70; exact (C1.out _ (R2'.out.drewN _)).mono fun _ _ h => ⟨h.1, ⟨_, h.2⟩⟩) | (go_at_call 69; exact Calls.quiet_of (C2.out _ (XR.out.drewN _)))))
      go_wp2
      exact ⟨⟨k + 1, by omega, by go_num, A1, ⟨_, by rw [HQ.out]; exact World.drewN_drewN _ _ _⟩⟩, by simp only [intOf]; omega⟩
    · obtain rfl : k = n := by omega
      obtain rfl : b = true := HB.out.mpr (PlanTo.all (by rw [← HN.out]; exact ha.out))
      clear ha
      go_wp2
      go_ret
      exact ⟨rfl, ⟨_, HQ.out⟩⟩

end Go.Proofs.Ytmdddjhlfpmgdac
