/- ValidYard on both sides. -/
import Derived.Test.YthfmmlpbflfpaacYardI
import Derived.Deep.RegionHeld3
namespace Go.Proofs.Ythfmmlpbflfpaac
open Go.ChangeShapes Go.WideShapes Go.ChangeAt Go.RowKit
set_option linter.unusedVariables false
set_option linter.unusedSimpArgs false

theorem hasH_any (W : Nat) (ty : TypeId) (h : Int) (v : Value) (w : World) (hW : w.heap[W]? = some (.cells #[.int .i64 h, v] ty (0, 0))) (a : Option Addr) (m c : Nat) (b : Bool) (hb : b = decide ((m : Int) ≤ h)) :
    Calls Try.prog 39 #[.slice a m c, .pointer (some ⟨W, 0, none⟩)] w fun e w' => e = .returned (.bool b) ∧ w = w' := by
  obtain ⟨⟨k0, k1⟩, -, -⟩ := boxedYd_at hW
  subst hb
  clear hW
  go_enter Try.func39, Try.ntmps39
  go_wp2
  go_ret
  exact ⟨rfl, rfl⟩

set_option maxRecDepth 100000 in
set_option maxHeartbeats 4000000 in
theorem every_stacks (W : Nat) (ty : TypeId) (hh : Int) (vv : Value) (v : Value) (xs : List Sl) (w : World) (hW : w.heap[W]? = some (.cells #[.int .i64 hh, vv] ty (0, 0))) (h : RdSS w v xs) (lz : xs.length ≤ 1048576) (b : Bool) (hb : b = true ↔ ∀ x ∈ xs, (x.t.length : Int) ≤ hh) :
    Calls Try.prog 38 #[v, .func (.func 39) #[] #[.pointer (some ⟨W, 0, none⟩)]] w fun e w' => e = .returned (.bool b) ∧ w = w' := by
  have H := Lib.hid h
  have HB := Lib.hid hb
  have CC := Lib.hid (fun a m c b hb => hasH_any W ty hh vv w hW a m c b hb)
  obtain ⟨a, cap, rfl, _⟩ := id h.rows
  obtain ⟨n, hn⟩ : ∃ n, n = xs.length := ⟨_, rfl⟩
  rw [← hn] at H lz
  rw [← hn]
  have HN := Lib.hid hn
  clear hn hb h hW
  go_enter Try.func38, Try.ntmps38
  go_wp2
  go_loopw [6, 9] (fun _ i wr => ∃ k : Nat, k ≤ n ∧ i = .int .i64 k ∧ Hid (∀ c ∈ xs.take k, (c.t.length : Int) ≤ hh) ∧ w = wr) (fun _ i _ => n - (intOf i).toNat)
  case atStart => exact ⟨0, by omega, rfl, by intro c hc; simp at hc, rfl⟩
  case round =>
    obtain ⟨k, hk, rfl, hall, rfl⟩ := hrel
    by_cases hlt : k < n
    · obtain ⟨x, hx⟩ : ∃ x, xs[k]? = some x := ⟨_, List.getElem?_eq_getElem (by have := HN.out; omega)⟩
      obtain ⟨ba, oa, rfl, e0, -, -⟩ := H.out.at hx
      obtain ⟨m, hm⟩ : ∃ m, m = x.t.length := ⟨_, rfl⟩
      rw [← hm] at e0
      have HX := Lib.hid hx
      have HM := Lib.hid hm
      clear hx hm
      by_cases hv : (m : Int) ≤ hh
      · have C := Lib.hid (CC.out x.a m x.c true (by simpa using hv))
        have A2 : Hid (∀ c ∈ xs.take (k + 1), (c.t.length : Int) ≤ hh) := by
          intro y hy
          rw [List.take_add_one, HX.out] at hy
          rcases List.mem_append.mp hy with hy | hy
          · exact hall.out y hy
          · have : y = x := by simpa using hy
            subst this; rw [← HM.out]; exact hv
        clear hall hv
        go_wp2_with fail
        refine C.out.mono ?_
        rintro e w2 ⟨rfl, rfl⟩
        clear C e0
        go_wp2
        exact ⟨⟨k + 1, by omega, by go_num, A2, by trivial⟩, by simp only [intOf]; omega⟩
      · have C := Lib.hid (CC.out x.a m x.c false (by simpa using hv))
        obtain rfl : b = false := b_false HB.out (fun hA => hv (by have := hA x (List.mem_of_getElem? HX.out); rw [← HM.out] at this; exact this))
        clear hall hv
        go_wp2_with fail
        refine C.out.mono ?_
        rintro e w2 ⟨rfl, rfl⟩
        clear C e0
        go_wp2
        go_ret
        exact ⟨rfl, rfl⟩
    · obtain rfl : k = n := by omega
      obtain rfl : b = true := HB.out.mpr (by have := hall.out; rwa [List.take_of_length_le (by have := HN.out; omega)] at this)
      clear hall
      go_wp2
      go_ret
      exact ⟨rfl, rfl⟩

/-- A row of numbers is sorted in place. -/
theorem sort_any (v : Value) (zs : List Int) (w : World) (B N : Nat) (h : OwnI w B v zs) (hN : B ≤ w.heap.size) (lz : zs.length ≤ 1000) :
    Calls Try.prog 41 #[v] w fun e w' => e = .returned (.tuple #[]) ∧ OwnI w' B v (asc zs) ∧ Below B w w' := by
  obtain ⟨a, c, hv, -⟩ := id h.rd
  by_cases z : zs = []
  · subst z
    subst hv
    refine (Try.slices_Sort_int_none a c w).mono ?_
    rintro e w' ⟨rfl, rfl⟩
    exact ⟨rfl, by simpa [asc] using h, (Below.refl _ _).mono hN⟩
  · obtain ⟨-, h2 | ⟨g, cap, cur, h3, h4, -⟩⟩ := id h
    · exact absurd (List.length_eq_zero_iff.mp h2.2) z
    · subst h3
      refine (sort_own g cap zs w B h (by omega)).mono ?_
      rintro e w' ⟨rfl, o, gg⟩
      exact ⟨rfl, o, ((Below.refl _ _).mono hN).grown gg hN (fun k hk => by cases hk; exact h4)⟩

set_option maxRecDepth 100000 in
set_option maxHeartbeats 8000000 in
theorem implYard_any (g : Yd) (n0 : Nat) (w : World) (hr : RdYd w n0 g) (l0 : n0 + sumT g.x ≤ 1048576) (b : Bool) (hb : b = true ↔ OkYd g) :
    Calls Try.prog 27 #[(.agg #[.int .i64 g.h, .slice g.xa n0 g.xc])] w fun e w' => e = .returned (.bool b) ∧ Below w.heap.size w w' := by
  have e0 := hr.len
  obtain ⟨b1, h1⟩ := bool_of (1 ≤ g.h ∧ g.h ≤ 4)
  obtain ⟨b2, h2⟩ := bool_of ((1 : Int) ≤ (n0 : Int) ∧ (n0 : Int) ≤ 4)
  obtain ⟨b3, h3⟩ := bool_of (∀ x ∈ g.x, (x.t.length : Int) ≤ g.h)
  obtain ⟨b4, h4⟩ := bool_of ((∀ x ∈ asc (g.x.flatMap Sl.t), 0 ≤ x ∧ x ≤ 99) ∧ Up (asc (g.x.flatMap Sl.t)))
  have C1 := Lib.hid (fun w => within_any g.h 1 4 b1 h1 w)
  have C2 := Lib.hid (fun w => withinI_any (n0 : Int) 1 4 b2 h2 w)
  have C3 := Lib.hid (fun W ty vv (w : World) hW h => every_stacks W ty g.h vv (.slice g.xa n0 g.xc) g.x w hW h (by omega) b3 h3)
  have C4 := Lib.hid (fun w h h1 h2 => concatS_any (.slice g.xa n0 g.xc) g.x w h h1 h2)
  have C5 := Lib.hid (fun v w h lz => isSet_isLot v (asc (g.x.flatMap Sl.t)) w h lz b4 h4)
  have H := Lib.hid hr.r0
  have HB := Lib.hid hb
  have H1 := Lib.hid h1
  have H2 := Lib.hid h2
  have H3 := Lib.hid h3
  have H4 := Lib.hid h4
  have E0 := Lib.hid e0
  have FL : (g.x.flatMap Sl.t).length = sumT g.x := by rw [← catS_all, catS_len, List.take_length]
  have FLH := Lib.hid FL
  clear hr hb h1 h2 h3 h4 e0 FL
  go_enter Try.func27, Try.ntmps27
  go_wp2_with fail
  refine (C1.out _).mono ?_
  rintro e w' ⟨rfl, rfl⟩
  have NB := Lib.hid (heap_alloc_new w (.cells #[.int .i64 g.h, .slice g.xa n0 g.xc] 26))
  have BB : Hid (Below w.heap.size w (w.alloc (.cells #[.int .i64 g.h, .slice g.xa n0 g.xc] 26))) := by show Below _ _ _; go_grown
  have zb : w.heap.size + 1 ≤ (w.alloc (.cells #[.int .i64 g.h, .slice g.xa n0 g.xc] 26)).heap.size := by simp
  generalize w.alloc (.cells #[.int .i64 g.h, .slice g.xa n0 g.xc] 26) = wb at *
  cases b1 with
  | false =>
    obtain rfl : b = false := b_false HB.out (fun q => by have := H1.out.mpr q.h0; simp at this)
    go_wp2
    go_ret
    exact ⟨rfl, BB.out⟩
  | true =>
  have hh := H1.out.mp (by trivial)
  obtain ⟨⟨k0, k1⟩, -, -⟩ := boxedYd_at NB.out
  go_wp2_with fail
  refine (C2.out _).mono ?_
  rintro e w' ⟨rfl, rfl⟩
  cases b2 with
  | false =>
    obtain rfl : b = false := b_false HB.out (fun q => by have := H2.out.mpr (by have := q.n0; have := E0.out; omega); simp at this)
    go_wp2
    go_ret
    exact ⟨rfl, BB.out⟩
  | true =>
  have nn := H2.out.mp (by trivial)
  go_wp2_with fail
  refine (C3.out _ _ _ _ NB.out (H.out.later BB.out)).mono ?_
  rintro e w' ⟨rfl, rfl⟩
  cases b3 with
  | false =>
    obtain rfl : b = false := b_false HB.out (fun q => by have := H3.out.mpr q.t0; simp at this)
    go_wp2
    go_ret
    exact ⟨rfl, BB.out⟩
  | true =>
  have tt := H3.out.mp (by trivial)
  have T16 : sumT g.x ≤ 16 := by
    have key : ∀ xs : List Sl, (∀ x ∈ xs, x.t.length ≤ 4) → sumT xs ≤ 4 * xs.length := by
      intro xs
      induction xs with
      | nil => intro _; simp [sumT]
      | cons y ys ih =>
        intro h
        have a := ih (fun x hx => h x (by simp [hx]))
        have c := h y (by simp)
        have e : sumT (y :: ys) = y.t.length + sumT ys := by simp [sumT]
        rw [e, List.length_cons]; omega
    have := key g.x (fun x hx => by have := tt x hx; omega)
    have := E0.out
    omega
  go_wp2_with fail
  refine (C4.out _ (H.out.later BB.out) (by have := E0.out; omega) (by omega)).mono ?_
  rintro e w3 ⟨u, rfl, o3, c3⟩
  obtain ⟨au, cu, rfl, -⟩ := id o3.rd
  have D3 := Lib.hid c3
  have O3 := Lib.hid o3
  clear c3 o3 k0 k1
  have CS := Lib.hid (sort_any _ _ w3 wb.heap.size 0 O3.out D3.out.size (by rw [FLH.out]; omega))
  obtain ⟨m, hm⟩ : ∃ m, m = (g.x.flatMap Sl.t).length := ⟨_, rfl⟩
  rw [← hm] at CS
  rw [← hm]
  have HM := Lib.hid hm
  clear hm
  go_wp2_with fail
  refine CS.out.mono ?_
  rintro e w4 ⟨rfl, o4, c4⟩
  have O4 := Lib.hid o4
  have B4 : Hid (Below w.heap.size w w4) := (BB.out.trans (D3.out.mono BB.out.size)).trans (c4.mono BB.out.size)
  clear o4 c4 O3 D3 CS
  by_cases m7 : m ≤ 7
  · have C6 := Lib.hid (C5.out _ w4 O4.out.rd (by rw [asc_length, ← HM.out]; omega))
    have d7 : decide ((m : Int) ≤ 7) = true := decide_eq_true (by omega)
    have key : b = b4 := by
      rw [Bool.eq_iff_iff, HB.out, H4.out, up_asc]
      have pm : ∀ x, x ∈ asc (g.x.flatMap Sl.t) ↔ x ∈ g.x.flatMap Sl.t := fun x => (asc_perm _).mem_iff
      constructor
      · intro q; exact ⟨fun x hx => q.l1.1 x ((pm x).mp hx), q.l1.2⟩
      · intro q
        exact ⟨hh, by have := E0.out; omega, tt, by rw [← FLH.out, ← HM.out]; exact m7, fun x hx => q.1 x ((pm x).mpr hx), q.2⟩
    subst key
    clear C5 tt H1 H2 H3 H4 HB O4
    go_wp2_with fail
    refine C6.out.mono ?_
    rintro e w5 ⟨rfl, c5⟩
    have B5 : Hid (Below w.heap.size w w5) := B4.out.trans (c5.mono B4.out.size)
    clear c5
    go_wp2
    go_ret
    exact ⟨by simp, B5.out⟩
  · have d7 : decide ((m : Int) ≤ 7) = false := decide_eq_false (by omega)
    obtain rfl : b = false := b_false HB.out (fun q => by have := q.l0; rw [← FLH.out, ← HM.out] at this; omega)
    clear C5 tt H1 H2 H3 H4 HB O4
    go_wp2
    go_ret
    exact ⟨rfl, B4.out⟩


end Go.Proofs.Ythfmmlpbflfpaac
