/- How many rings a cutter can drive: the specification's side. -/
import Derived.Test.YtgockhlainnnnaaWearM
import Derived.Deep.QuietTactic
namespace Go.Proofs.Ytgockhlainnnnaa
open Go.ChangeShapes Go.WideShapes Go.ChangeAt Go.RowKit
set_option linter.unusedVariables false
set_option linter.unusedSimpArgs false

set_option maxRecDepth 100000 in
set_option maxHeartbeats 4000000 in
theorem l08Range_any (G : Nat) (ty : TypeId) (g : Hd) (n0 n1 n2 : Nat) (w : World) (hG : w.heap[G]? = some (.cells #[.slice g.ca n0 g.cc, .slice g.ha n1 g.hc, .slice g.sa n2 g.sc, .int .i64 g.p, .int .i64 g.q] ty (0, 0))) (hr : RdHd w n0 n1 n2 g) (ok : OkHd g) (c f : Nat) (x : Cu) (hx : g.c[c]? = some x) (hf : f ≤ n1) (w0 : Int) (hw0 : 0 ≤ w0 ∧ w0 ≤ 1000000000) (m : Nat) (hm : Drives x.k x.l w0 g.h f m) :
    Calls Try.prog 62 #[.pointer (some ⟨G, 0, none⟩), .int .i64 c, .int .i64 f, .int .i64 w0] w fun e w' => e = .returned (.int .i64 m) ∧ ∃ q, w' = w.drewN q := by
  obtain ⟨e0, e1, e2⟩ := hr.len
  obtain ⟨⟨p0, p1, p2, p3, p4⟩, -, -⟩ := boxedHd_at hG
  have hc : c < n0 := by rw [e0]; exact (List.getElem?_eq_some_iff.1 hx).1
  have lf : n1 ≤ 60 := by have := ok.h0; omega
  have lc : n0 ≤ 5 := by have := ok.c0; omega
  have okx := ok.c1 x (List.mem_of_getElem? hx)
  obtain ⟨ba, oa, ea, u0, u1⟩ := hr.r0.at2g c x hx _ _ rfl
  rw [ea] at p0
  have R1 := Lib.hid hr.r1
  have HH := Lib.hid ok.h1
  have HM := Lib.hid hm
  have E1 := Lib.hid e1
  have mle : f + m ≤ n1 := by have := hm.le; omega
  obtain ⟨kx, hkx⟩ : ∃ z, z = x.k := ⟨_, rfl⟩
  obtain ⟨lx, hlx⟩ : ∃ z, z = x.l := ⟨_, rfl⟩
  unfold OkCu at okx
  rw [← hkx, ← hlx] at okx
  rw [← hkx] at u0 HM
  rw [← hlx] at u1 HM
  clear hG hr ok hx hm e0 e1 e2 ea hkx hlx
  go_enter Try.func62, Try.ntmps62
  go_wp2
  go_loopw [3, 9] (fun wv nv wr => ∃ (k n : Nat) (a : Int), k ≤ m ∧ nv = .int .i64 n ∧ wv = .int .i64 a ∧ Hid (n = f + k) ∧ 0 ≤ a ∧ a ≤ 1000000000 + 10000 * k ∧ Hid (a = w0 + kx * wsum g.h f k) ∧ Hid (∃ q, wr = w.drewN q)) (fun _ nv _ => f + m + 1 - (intOf nv).toNat)
  case atStart => exact ⟨0, f, w0, by omega, rfl, rfl, (show f = f + 0 by omega), by omega, by omega, by show _ = _; simp [wsum], 0, rfl⟩
  case round =>
    obtain ⟨k, n, a, hk, rfl, rfl, hn, a0, a1, ha, hw⟩ := hrel
    obtain ⟨q, rfl⟩ := hw.out
    have n1' : f + k ≤ n := by have := hn.out; omega
    have n2' : n ≤ f + k := by have := hn.out; omega
    by_cases hlt : n < n1
    · obtain ⟨y, hy⟩ : ∃ y, g.h[n]? = some y := ⟨_, List.getElem?_eq_getElem (by have := E1.out; omega)⟩
      have hy' := HH.out y (List.mem_of_getElem? hy)
      obtain ⟨bb, ob, eb, v0⟩ := R1.out.atg n y hy
      rw [eb] at p1
      have WS := Lib.hid (wsum_succ (f := f) (k := k) (by rw [← hn.out]; exact hy))
      have mb : 0 ≤ kx * y ∧ kx * y ≤ 10000 := ⟨Int.mul_nonneg (by omega) (by omega), by
        have := Int.mul_le_mul (show kx ≤ 100 by omega) (show y ≤ 100 by omega) (by omega) (by omega)
        omega⟩
      obtain ⟨p, hp⟩ : ∃ p, p = kx * y := ⟨_, rfl⟩
      rw [← hp] at mb
      have q1 : IntKind.i64.wrap (kx * y) = p := by rw [← hp]; exact IntWalk.i64_in _ (by omega)
      obtain ⟨a2, ha2⟩ : ∃ z, z = a + p := ⟨_, rfl⟩
      have q2 : IntKind.i64.wrap (a + p) = a2 := by rw [ha2]; exact IntWalk.i64_in _ (by omega)
      have HA2 : Hid (a2 = w0 + kx * wsum g.h f (k + 1)) := by show _ = _; rw [ha2, ha.out, WS.out, hp, Int.mul_add]; omega
      have b0 : 0 ≤ a2 := by omega
      have b1 : a2 ≤ 1000000000 + 10000 * ((k : Int) + 1) := by omega
      clear hy eb WS hp ha2 ha mb hy'
      by_cases hkm : k < m
      · have g1 : decide (lx < a2) = false := by have := HM.out.can k hkm; have := HA2.out; simp; omega
        go_wp2
        go_quiet (fail)
        go_wp2
        exact ⟨⟨k + 1, n + 1, a2, by omega, by go_num, rfl, (show n + 1 = f + (k + 1) by omega), b0, by push_cast; omega, HA2, _, rfl⟩, by simp only [intOf]; omega⟩
      · obtain rfl : k = m := by omega
        have g1 : decide (lx < a2) = true := by have := HM.out.stop (by have := E1.out; omega); have := HA2.out; simp; omega
        have q3 : IntKind.i64.wrap ((n : Int) - f) = (k : Int) := by rw [IntWalk.i64_in _ (by omega)]; omega
        go_wp2
        go_quiet (fail)
        go_wp2
        go_ret
        exact ⟨rfl, _, rfl⟩
    · obtain rfl : k = m := by omega
      have q3 : IntKind.i64.wrap ((n : Int) - f) = (k : Int) := by rw [IntWalk.i64_in _ (by omega)]; omega
      have g1 : decide ((n : Int) < (n1 : Int)) = false := by simp; omega
      go_wp2
      go_ret
      exact ⟨rfl, _, rfl⟩
end Go.Proofs.Ytgockhlainnnnaa
