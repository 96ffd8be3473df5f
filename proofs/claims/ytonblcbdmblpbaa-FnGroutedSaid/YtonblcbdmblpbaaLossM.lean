/- Losses: what is valid, on both sides. (Written by tools/mkloss.py.) -/
import Derived.Test.YtonblcbdmblpbaaGroutM
import Derived.Test.YtonblcbdmblpbaaLosss
namespace Go.Proofs.Ytonblcbdmblpbaa
open Go.ChangeShapes Go.WideShapes Go.ChangeAt Go.RowKit
set_option linter.unusedVariables false
set_option linter.unusedSimpArgs false

def OkLo (x : Lo) : Prop := Litres x.v ∧ (0 ≤ x.w ∧ x.w ≤ 5) ∧ (x.w ≤ x.s ∧ x.s ≤ 23 - x.w)
def OkLs (xs : List Lo) : Prop := xs.length ≤ 12 ∧ (∀ c ∈ xs, OkLo c)

theorem RdS.at3l {w : World} {a : Option Addr} {n cap : Nat} {xs : List Lo} (h : RdS 3 encLo w (.slice a n cap) xs) (i : Nat) (x : Lo) (hx : xs[i]? = some x) :
    ∃ b off, a = some ⟨b, off, none⟩ ∧ w.cell? ⟨b, off + i * 3, none⟩ = some (.int .i64 x.s) ∧ w.cell? ⟨b, off + i * 3 + 1, none⟩ = some (.int .i64 x.v) ∧ w.cell? ⟨b, off + i * 3 + 2, none⟩ = some (.int .i64 x.w) := by
  obtain ⟨a', c', hv, h⟩ := h
  simp only [Value.slice.injEq] at hv
  obtain ⟨rfl, -, -⟩ := hv
  obtain ⟨b, off, rfl, h2⟩ := h.resolve_left (by intro e; rw [e] at hx; simp at hx)
  exact ⟨b, off, rfl, h2 i x hx 0 _ rfl, h2 i x hx 1 _ rfl, h2 i x hx 2 _ rfl⟩

theorem isWidth_any (n : Int) (b : Bool) (hb : b = true ↔ 0 ≤ n ∧ n ≤ 5) (w : World) :
    Calls Try.prog 38 #[.int .i64 n] w fun e w' => e = .returned (.bool b) ∧ w = w' := by
  have HB := Lib.hid hb
  clear hb
  go_enter Try.func38, Try.ntmps38
  go_wp2_with fail
  refine (within_any n 0 5 b HB.out w).mono ?_
  rintro e w' ⟨rfl, rfl⟩
  go_wp2
  go_ret
  exact ⟨rfl, rfl⟩


set_option maxHeartbeats 1000000 in
theorem loIs_any (g : Lo) (b : Bool) (hb : b = true ↔ OkLo g) (w : World) :
    Calls Try.prog 68 #[(.agg #[.int .i64 g.s, .int .i64 g.v, .int .i64 g.w])] w fun e w' => e = .returned (.bool b) ∧ w' = w.alloc (.cells #[.int .i64 g.s, .int .i64 g.v, .int .i64 g.w] 55) := by
  obtain ⟨b1, h1⟩ := bool_of (0 ≤ g.w ∧ g.w ≤ 5)
  obtain ⟨b2, h2⟩ := bool_of (Litres g.v)
  obtain ⟨b3, h3⟩ := bool_of (g.w ≤ g.s ∧ g.s ≤ 23 - g.w)
  have e : b = (b1 && (b2 && b3)) := by
    rw [Bool.eq_iff_iff, hb]; simp only [Bool.and_eq_true, h1, h2, h3]; unfold OkLo
    constructor
    · rintro ⟨x, y, z⟩; exact ⟨y, x, z⟩
    · rintro ⟨x, y, z⟩; exact ⟨y, x, z⟩
  have H1 := Lib.hid h1
  have H2 := Lib.hid h2
  have H3 := Lib.hid h3
  subst e
  clear hb h1 h2 h3
  go_enter Try.func68, Try.ntmps68
  go_wp2_with fail
  refine (isWidth_any g.w b1 H1.out _).mono ?_
  rintro e w1 ⟨rfl, rfl⟩
  cases b1
  · go_wp2
    go_ret
    exact ⟨rfl, rfl⟩
  · have q1 : IntKind.i64.wrap (23 - g.w) = 23 - g.w := IntWalk.i64_in _ (by have := H1.out.mp (by simp); omega)
    go_wp2_with fail
    refine (isVolume_any g.v b2 H2.out _).mono ?_
    rintro e w1 ⟨rfl, rfl⟩
    cases b2
    · go_wp2
      go_ret
      exact ⟨rfl, rfl⟩
    · go_wp2_with fail
      refine (within_any g.s g.w (23 - g.w) b3 H3.out _).mono ?_
      rintro e w1 ⟨rfl, rfl⟩
      go_wp2
      go_ret
      exact ⟨by simp, rfl⟩

theorem loIs_blw (g : Lo) (b : Bool) (hb : b = true ↔ OkLo g) (w : World) :
    Calls Try.prog 68 #[(.agg #[.int .i64 g.s, .int .i64 g.v, .int .i64 g.w])] w fun e w' => e = .returned (.bool b) ∧ Below w.heap.size w w' :=
  (loIs_any g b hb w).mono fun e w' ⟨h1, h2⟩ => ⟨h1, by rw [h2]; exact (Below.refl _ _).alloc (Nat.le_refl _) _⟩

set_option maxRecDepth 100000 in
set_option maxHeartbeats 2000000 in
theorem everyLoss_any (v : Value) (xs : List Lo) (w : World) (h : RdS 3 encLo w v xs) (lz : xs.length ≤ 1048576) (b : Bool) (hb : b = true ↔ ∀ c ∈ xs, OkLo c) :
    Calls Try.prog 67 #[v, .func (.func 68) #[] #[]] w fun e w' => e = .returned (.bool b) ∧ Below w.heap.size w w' := by
  have H := Lib.hid h
  have HB := Lib.hid hb
  obtain ⟨a, cap, rfl, _⟩ := h
  obtain ⟨n, hn⟩ : ∃ n, n = xs.length := ⟨_, rfl⟩
  rw [← hn] at H lz
  rw [← hn]
  have HN := Lib.hid hn
  clear hn hb
  go_enter Try.func67, Try.ntmps67
  go_wp2
  go_loopw [9] (fun i wr => ∃ k : Nat, k ≤ n ∧ i = .int .i64 k ∧ Hid (∀ c ∈ xs.take k, OkLo c) ∧ Hid (Below w.heap.size w wr)) (fun i _ => n - (intOf i).toNat)
  case atStart => exact ⟨0, by omega, rfl, by intro c hc; simp at hc, Below.refl _ _⟩
  case round =>
    obtain ⟨k, hk, rfl, hall, B⟩ := hrel
    by_cases hlt : k < n
    · obtain ⟨c, hx⟩ : ∃ x, xs[k]? = some x := ⟨_, List.getElem?_eq_getElem (by have := HN.out; omega)⟩
      obtain ⟨ba, oa, rfl, e0, e1, e2⟩ := (H.out.later B.out).at3l k c hx
      have hsz := B.out.size
      by_cases hc : OkLo c
      · have d1 := Lib.hid (fun w => loIs_blw c true ⟨fun _ => hc, fun _ => rfl⟩ w)
        have hall' : Hid (∀ c ∈ xs.take (k + 1), OkLo c) := by
          intro d hd
          rw [List.take_add_one, hx] at hd
          simp at hd
          rcases hd with hd | rfl
          · exact hall.out d hd
          · exact hc
        clear hx hc hall
        go_wp2_with fail
        refine (d1.out _).mono ?_
        rintro e w3 ⟨rfl, b3⟩
        have B3 : Hid (Below w.heap.size w w3) := ((B.out.alloc hsz _)).trans (b3.mono (by simp; omega))
        clear b3 e0 e1 e2
        go_wp2
        exact ⟨⟨k + 1, by omega, by go_num, hall', B3⟩, by simp only [intOf]; omega⟩
      · have d1 := Lib.hid (fun w => loIs_blw c false ⟨fun h => (by cases h), fun h => absurd h hc⟩ w)
        obtain rfl : b = false := b_false HB.out (fun h => hc (h c (List.mem_of_getElem? hx)))
        clear hx hc hall
        go_wp2_with fail
        refine (d1.out _).mono ?_
        rintro e w3 ⟨rfl, b3⟩
        have B3 : Hid (Below w.heap.size w w3) := ((B.out.alloc hsz _)).trans (b3.mono (by simp; omega))
        clear b3 e0 e1 e2
        go_wp2
        go_ret
        exact ⟨rfl, B3.out⟩
    · obtain rfl : k = n := by omega
      obtain rfl : b = true := HB.out.mpr (by have := hall.out; rwa [List.take_of_length_le (by have := HN.out; omega)] at this)
      go_wp2
      go_ret
      exact ⟨rfl, B.out⟩


set_option maxRecDepth 100000 in
set_option maxHeartbeats 4000000 in
theorem implLosses_any (v : Value) (xs : List Lo) (w : World) (h : RdS 3 encLo w v xs) (lz : xs.length ≤ 1048576) (b : Bool) (hb : b = true ↔ OkLs xs) :
    Calls Try.prog 40 #[v] w fun e w' => e = .returned (.bool b) ∧ Below w.heap.size w w' := by
  obtain ⟨b1, h1⟩ := bool_of (∀ c ∈ xs, OkLo c)
  have c1 := Lib.hid (fun w (hr : RdS 3 encLo w v xs) => everyLoss_any v xs w hr lz b1 h1)
  have H := Lib.hid h
  have HB : Hid (b = true ↔ xs.length ≤ 12 ∧ b1 = true) := by show _ ↔ _; rw [h1]; exact hb
  obtain ⟨a, cap, rfl, _⟩ := h
  obtain ⟨n, hn⟩ : ∃ n, n = xs.length := ⟨_, rfl⟩
  rw [← hn] at H lz c1 HB
  rw [← hn]
  clear hn hb h1
  by_cases g : n ≤ 12
  · have g60 : decide ((n : Int) ≤ 12) = true := decide_eq_true (by omega)
    have e : b = b1 := by rw [Bool.eq_iff_iff, HB.out]; simp [g]
    subst e
    clear HB g
    go_enter Try.func40, Try.ntmps40
    go_wp2_with fail
    refine (c1.out _ H.out).mono ?_
    rintro e w1 ⟨rfl, k1⟩
    have B1 := Lib.hid k1
    clear k1 c1
    go_wp2
    go_ret
    exact ⟨by simp, B1.out⟩
  · have g60 : decide ((n : Int) ≤ 12) = false := decide_eq_false (by omega)
    obtain rfl : b = false := b_false HB.out (fun h => g h.1)
    clear HB
    have g61 : 12 < n := by omega
    clear g
    go_enter Try.func40, Try.ntmps40
    go_wp2
    go_ret
    exact ⟨rfl, Below.refl _ _⟩

end Go.Proofs.Ytonblcbdmblpbaa
