/- The first failure of a cutter: the program's bisection. -/
import Derived.Test.YtgockhlainnnnaaWearI
namespace Go.Proofs.Ytgockhlainnnnaa
open Go.ChangeShapes Go.WideShapes Go.ChangeAt Go.RowKit
set_option linter.unusedVariables false
set_option linter.unusedSimpArgs false

set_option maxRecDepth 100000 in
set_option maxHeartbeats 4000000 in
theorem searchFail_any (H Cb Fb : Nat) (ty t1 t2 : TypeId) (g : Hd) (n0 n1 n2 : Nat) (c f N : Nat) (w : World) (hH : w.heap[H]? = some (.cells #[.slice g.ca n0 g.cc, .slice g.ha n1 g.hc, .slice g.sa n2 g.sc, .int .i64 g.p, .int .i64 g.q] ty (0, 0))) (hC : w.heap[Cb]? = some (.cells #[.int .i64 c] t1 (0, 0))) (hF : w.heap[Fb]? = some (.cells #[.int .i64 f] t2 (0, 0))) (hr : RdHd w n0 n1 n2 g) (cp : g.caps n0 n1 n2) (ok : OkHd g) (x : Cu) (hx : g.c[c]? = some x) (hN : f + N = n1) (m : Nat) (hm : Drives x.k x.l 0 g.h f m) :
    Calls Try.prog 82 #[.int .i64 N, .func (.func 83) #[] #[.pointer (some ⟨H, 0, none⟩), .pointer (some ⟨Cb, 0, none⟩), .pointer (some ⟨Fb, 0, none⟩)]] w fun e w' => e = .returned (.int .i64 m) ∧ Below w.heap.size w w' := by
  obtain ⟨e0, e1, e2⟩ := hr.len
  have zH := (Array.getElem?_eq_some_iff.1 hH).1
  have zC := (Array.getElem?_eq_some_iff.1 hC).1
  have zF := (Array.getElem?_eq_some_iff.1 hF).1
  have okx := ok.c1 x (List.mem_of_getElem? hx)
  have lN : N ≤ 60 := by have := ok.h0; omega
  have mN : m ≤ N := by have := hm.le; omega
  have CC := Lib.hid (fun (i : Nat) (b : Bool) (hb : b = decide (x.l < x.k * wsum g.h f (i + 1))) (hi : f + i < n1) (wr : World) (B : Below w.heap.size w wr) => failure1_any H Cb Fb ty t1 t2 g n0 n1 n2 c f i wr ((B.block H zH).trans hH) ((B.block Cb zC).trans hC) ((B.block Fb zF).trans hF) (hr.later B) cp ok x hx hi b hb)
  have LO := Lib.hid (fun (k : Nat) (hk : k < m) => (show x.k * wsum g.h f (k + 1) ≤ x.l by have := hm.can k hk; omega))
  have HI := Lib.hid (fun (k : Nat) (hk : m ≤ k) (hk2 : f + k < n1) => (show x.l < x.k * wsum g.h f (k + 1) by have := hm.beyond (by have := okx.1; omega) ok.h1 hk (by omega); omega))
  clear hH hC hF hr cp ok hx hm e0 e1 e2 okx zH zC zF
  go_enter Try.func82, Try.ntmps82
  go_wp2
  go_loopw [5, 6] (fun iv jv wr => ∃ (i j : Nat), i ≤ m ∧ m ≤ j ∧ j ≤ N ∧ iv = .int .i64 i ∧ jv = .int .i64 j ∧ Hid (Below w.heap.size w wr)) (fun iv jv _ => (intOf jv - intOf iv).toNat)
  case atStart => exact ⟨0, N, by omega, mN, by omega, rfl, rfl, Below.refl _ _⟩
  case round =>
    obtain ⟨i, j, h1, h2, h3, rfl, rfl, B⟩ := hrel
    have sz := B.out.size
    by_cases hlt : i < j
    · have l1 : (i : Int) < (j : Int) := by omega
      obtain ⟨h, hh⟩ : ∃ h, h = (i + j) / 2 := ⟨_, rfl⟩
      have q1 : IntKind.i64.wrap ((i : Int) + (j : Int)) = (i : Int) + (j : Int) := IntWalk.i64_in _ (by omega)
      have e1 : ((i : Int) + (j : Int)) / 2 = (h : Int) := by omega
      have b1 : i ≤ h := by omega
      have b2 : h < j := by omega
      have b3 : f + h < n1 := by omega
      have E1 := Lib.hid e1
      clear hh e1
      by_cases g : h < m
      · have C1 := Lib.hid (CC.out h false (by have := LO.out h g; simp; omega) b3 wr B.out)
        clear b3
        go_wp2_with fail
        rw [E1.out]
        refine C1.out.mono ?_
        rintro e w' ⟨rfl, b'⟩
        have B2 : Hid (Below w.heap.size w w') := B.out.trans (b'.mono sz)
        clear b' C1 B
        go_wp2
        exact ⟨⟨h + 1, j, by omega, by omega, by omega, by go_num, rfl, B2⟩, by simp only [intOf]; omega⟩
      · have C1 := Lib.hid (CC.out h true (by have := HI.out h (by omega) b3; simp; omega) b3 wr B.out)
        clear b3
        go_wp2_with fail
        rw [E1.out]
        refine C1.out.mono ?_
        rintro e w' ⟨rfl, b'⟩
        have B2 : Hid (Below w.heap.size w w') := B.out.trans (b'.mono sz)
        clear b' C1 B
        go_wp2
        exact ⟨⟨i, h, by omega, by omega, by omega, rfl, rfl, B2⟩, by simp only [intOf]; omega⟩
    · obtain rfl : i = j := by omega
      obtain rfl : i = m := by omega
      go_wp2
      go_ret
      exact ⟨rfl, B.out⟩

set_option maxRecDepth 100000 in
set_option maxHeartbeats 4000000 in
theorem failure_any (g : Hd) (n0 n1 n2 : Nat) (w : World) (hr : RdHd w n0 n1 n2 g) (cp : g.caps n0 n1 n2) (ok : OkHd g) (c f : Nat) (x : Cu) (hx : g.c[c]? = some x) (hf : f ≤ n1) (m : Nat) (hm : Drives x.k x.l 0 g.h f m) (z : Nat) (hz : z = f + m) :
    Calls Try.prog 64 #[(.agg #[.slice g.ca n0 g.cc, .slice g.ha n1 g.hc, .slice g.sa n2 g.sc, .int .i64 g.p, .int .i64 g.q]), .int .i64 c, .int .i64 f] w fun e w' => e = .returned (.int .i64 z) ∧ Below w.heap.size w w' := by
  obtain ⟨N, hN⟩ : ∃ N, f + N = n1 := ⟨n1 - f, by omega⟩
  have lf : n1 ≤ 60 := by have := ok.h0; have := hr.len; omega
  have ml : m ≤ 60 := by have := hm.le; have := hr.len; omega
  have q1 : IntKind.i64.wrap ((n1 : Int) - (f : Int)) = (N : Int) := by rw [IntWalk.i64_in _ (by omega)]; omega
  have q2 : IntKind.i64.wrap ((f : Int) + (m : Int)) = (z : Int) := by rw [IntWalk.i64_in _ (by omega)]; omega
  have C1 := Lib.hid (fun w => rings_any g n0 n1 n2 w)
  have C2 := Lib.hid (fun w H Cb Fb hH hC hF hr => searchFail_any H Cb Fb 30 2 2 g n0 n1 n2 c f N w hH hC hF hr cp ok x hx hN m hm)
  have HR := Lib.hid hr
  clear hr cp ok hx hm hN hz
  go_enter Try.func64, Try.ntmps64
  go_wp2
  have B0 : Hid (Below w.heap.size w (((w.alloc (.cells #[.slice g.ca n0 g.cc, .slice g.ha n1 g.hc, .slice g.sa n2 g.sc, .int .i64 g.p, .int .i64 g.q] 30)).alloc (.cells #[.int .i64 c] 2)).alloc (.cells #[.int .i64 f] 2))) := (((Below.refl _ _).alloc (Nat.le_refl _) _).alloc (by simp) _).alloc (by simp; omega) _
  have NH := Lib.hid (box3_0 w (.cells #[.slice g.ca n0 g.cc, .slice g.ha n1 g.hc, .slice g.sa n2 g.sc, .int .i64 g.p, .int .i64 g.q] 30) (.cells #[.int .i64 c] 2) (.cells #[.int .i64 f] 2))
  have NC := Lib.hid (box3_1 w (.cells #[.slice g.ca n0 g.cc, .slice g.ha n1 g.hc, .slice g.sa n2 g.sc, .int .i64 g.p, .int .i64 g.q] 30) (.cells #[.int .i64 c] 2) (.cells #[.int .i64 f] 2))
  have NF := Lib.hid (box3_2 w (.cells #[.slice g.ca n0 g.cc, .slice g.ha n1 g.hc, .slice g.sa n2 g.sc, .int .i64 g.p, .int .i64 g.q] 30) (.cells #[.int .i64 c] 2) (.cells #[.int .i64 f] 2))
  have y0 : w.heap.size + 3 ≤ (((w.alloc (.cells #[.slice g.ca n0 g.cc, .slice g.ha n1 g.hc, .slice g.sa n2 g.sc, .int .i64 g.p, .int .i64 g.q] 30)).alloc (.cells #[.int .i64 c] 2)).alloc (.cells #[.int .i64 f] 2)).heap.size := by simp only [World.size_alloc]; omega
  generalize ((w.alloc (.cells #[.slice g.ca n0 g.cc, .slice g.ha n1 g.hc, .slice g.sa n2 g.sc, .int .i64 g.p, .int .i64 g.q] 30)).alloc (.cells #[.int .i64 c] 2)).alloc (.cells #[.int .i64 f] 2) = w0 at *
  have KS : Hid (∀ w', Below w0.heap.size w0 w' → (w'.cell? ⟨w.heap.size, 0, none⟩ = some (.slice g.ca n0 g.cc) ∧ w'.cell? ⟨w.heap.size, 1, none⟩ = some (.slice g.ha n1 g.hc) ∧ w'.cell? ⟨w.heap.size, 2, none⟩ = some (.slice g.sa n2 g.sc) ∧ w'.cell? ⟨w.heap.size, 3, none⟩ = some (.int .i64 g.p) ∧ w'.cell? ⟨w.heap.size, 4, none⟩ = some (.int .i64 g.q) ∧ w'.cell? ⟨w.heap.size + 2, 0, none⟩ = some (.int .i64 f))) := by
    intro w' b
    obtain ⟨⟨p0, p1, p2, p3, p4⟩, -, -⟩ := boxedHd_at ((b.block w.heap.size (by omega)).trans NH.out)
    have pf := cell_of_row w' (w.heap.size + 2) 0 _ _ _ ((b.block (w.heap.size + 2) (by omega)).trans NF.out)
    exact ⟨p0, p1, p2, p3, p4, by simpa using pf⟩
  go_region_held3 (fun w' => (w'.cell? ⟨w.heap.size, 0, none⟩ = some (.slice g.ca n0 g.cc) ∧ w'.cell? ⟨w.heap.size, 1, none⟩ = some (.slice g.ha n1 g.hc) ∧ w'.cell? ⟨w.heap.size, 2, none⟩ = some (.slice g.sa n2 g.sc) ∧ w'.cell? ⟨w.heap.size, 3, none⟩ = some (.int .i64 g.p) ∧ w'.cell? ⟨w.heap.size, 4, none⟩ = some (.int .i64 g.q) ∧ w'.cell? ⟨w.heap.size + 2, 0, none⟩ = some (.int .i64 f)))
    (first | exact KS.out _ D2.out | exact KS.out _ D1.out | exact KS.out _ (Below.refl _ _).drew)
    (first
      | (go_at_call 57; refine (C1.out _).mono ?_; rintro e w1 ⟨rfl, b1⟩; have D1 : Hid (Below w0.heap.size w0 w1) := (Below.refl _ _).drew.trans b1; have s1 := b1.size)
      | (go_at_call 82; refine (C2.out _ w.heap.size (w.heap.size + 1) (w.heap.size + 2) ((D1.out.block w.heap.size (by omega)).trans NH.out) ((D1.out.block (w.heap.size + 1) (by omega)).trans NC.out) ((D1.out.block (w.heap.size + 2) (by omega)).trans NF.out) (HR.out.later (B0.out.trans (D1.out.mono B0.out.size)))).mono ?_; rintro e w2 ⟨rfl, b2⟩; have D2 : Hid (Below w0.heap.size w0 w2) := D1.out.trans (b2.mono D1.out.size)))
  all_goals
    rename_i hHeld
    have pf := (KS.out _ D2.out).2.2.2.2.2
    have B2 : Hid (Below w.heap.size w w2) := B0.out.trans (D2.out.mono B0.out.size)
    clear hHeld b1 b2 D1 D2 KS C1 C2 HR B0 NH NC NF
    try go_wp2
    go_ret
    exact ⟨rfl, B2.out⟩
end Go.Proofs.Ytgockhlainnnnaa
