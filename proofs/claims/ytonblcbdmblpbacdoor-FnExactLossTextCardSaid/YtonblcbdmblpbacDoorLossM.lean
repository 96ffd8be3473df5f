/- Losses: what is valid, on both sides. (Written by tools/mkloss.py.) -/
import Derived.Test.YtonblcbdmblpbacDoorLitM
import Derived.Test.YtonblcbdmblpbacDoorLosss
namespace Go.Proofs.YtonblcbdmblpbacDoor
open Go.ChangeShapes Go.WideShapes Go.ChangeAt Go.RowKit
set_option linter.unusedVariables false
set_option linter.unusedSimpArgs false

def OkLo (x : Lo) : Prop := Litres x.v ∧ (0 ≤ x.w ∧ x.w ≤ 5) ∧ (x.w ≤ x.s ∧ x.s ≤ 23 - x.w)
def OkLs (xs : List Lo) : Prop := xs.length ≤ 12 ∧ (∀ c ∈ xs, OkLo c)

theorem RdS.at3l {w : World} {a : Option Addr} {n cap : Nat} {xs : List Lo} (h : RdS 3 encLo w (.slice a n cap) xs) (i : Nat) (x : Lo) (hx : xs[i]? = some x) :
    ∃ b off, a = some ⟨b, off, none⟩ ∧ w.cell? ⟨b, off + i * 3, none⟩ = some (.int .i64 x.s) ∧ w.cell? ⟨b, off + i * 3 + 1, none⟩ = some (.int .i64 x.v) ∧ w.cell? ⟨b, off + i * 3 + 2, none⟩ = some (.int .i64 x.w) := by
  obtain ⟨a', c', hv, h⟩ := h
  simp only [Value.slice.injEq] at hv
  obtain ⟨rfl, -, -⟩ := hv
  obtain ⟨b, off, rfl, h2⟩ := h.resolve_left (by intro e; rw [e] at hx; simp at hx)
  exact ⟨b, off, rfl, h2 i x hx 0 _ rfl, h2 i x hx 1 _ rfl, h2 i x hx 2 _ rfl⟩

theorem isWidth_any (n : Int) (b : Bool) (hb : b = true ↔ 0 ≤ n ∧ n ≤ 5) (w : World) :
    Calls Tryd.prog 22 #[.int .i64 n] w fun e w' => e = .returned (.bool b) ∧ w = w' := by
  have HB := Lib.hid hb
  clear hb
  go_enter Tryd.func22, Tryd.ntmps22
  go_wp2_with fail
  refine (within_any n 0 5 b HB.out w).mono ?_
  rintro e w' ⟨rfl, rfl⟩
  go_wp2
  go_ret
  exact ⟨rfl, rfl⟩

set_option maxRecDepth 100000 in
set_option maxHeartbeats 8000000 in
theorem l07Losses_any (v : Value) (xs : List Lo) (w : World) (h : RdS 3 encLo w v xs) (lz : xs.length ≤ 1048576) (b : Bool) (hb : b = true ↔ OkLs xs) :
    Calls Tryd.prog 11 #[v] w fun e w' => e = .returned (.bool b) ∧ Below w.heap.size w w' := by
  have H := Lib.hid h
  have HB := Lib.hid hb
  obtain ⟨a, cap, rfl, _⟩ := h
  obtain ⟨n, hn⟩ : ∃ n, n = xs.length := ⟨_, rfl⟩
  rw [← hn] at H lz
  rw [← hn]
  have HN := Lib.hid hn
  clear hn hb
  go_enter Tryd.func11, Tryd.ntmps11
  go_wp2
  go_loopw [3] (fun i wr => ∃ k : Nat, k ≤ n ∧ i = .int .i64 k ∧ Hid (∀ c ∈ xs.take k, OkLo c) ∧ Hid (Below w.heap.size w wr)) (fun i _ => n - (intOf i).toNat)
  case atStart => exact ⟨0, by omega, rfl, by intro c hc; simp at hc, Below.refl _ _⟩
  case round =>
    obtain ⟨k, hk, rfl, hall, B⟩ := hrel
    have hsz := B.out.size
    by_cases hlt : k < n
    · obtain ⟨c, hx⟩ : ∃ x, xs[k]? = some x := ⟨_, List.getElem?_eq_getElem (by have := HN.out; omega)⟩
      obtain ⟨ba, oa, rfl, e0, e1, e2⟩ := (H.out.later B.out).at3l k c hx
      have la : ba < wr.heap.size := World.block_lt_of_cell? wr _ e0
      have HX := Lib.hid hx
      obtain ⟨b1, h1⟩ := bool_of (Litres c.v)
      obtain ⟨b2, h2⟩ := bool_of (0 ≤ c.w ∧ c.w ≤ 5)
      obtain ⟨b3, h3⟩ := bool_of (c.w ≤ c.s ∧ c.s ≤ 23 - c.w)
      have C1 := Lib.hid (fun w => l07Litres_any c.v b1 h1 w)
      have C2 := Lib.hid (fun w => in_any c.w 0 5 b2 h2 w)
      have C3 := Lib.hid (fun w => in_any c.s c.w (23 - c.w) b3 h3 w)
      have HO : Hid (OkLo c ↔ (b1 = true ∧ b2 = true ∧ b3 = true)) := by show _ ↔ _; rw [h1, h2, h3]; rfl
      have H2 := Lib.hid h2
      clear hx h1 h2 h3
      cases b1 with
      | false =>
        obtain rfl : b = false := b_false HB.out (fun h => by have := HO.out.mp (h.2 c (List.mem_of_getElem? HX.out)); simp at this)
        clear hall HB HO HX HN H H2
        go_wp2_with fail
        refine (C1.out _).mono ?_
        rintro e w' ⟨rfl, rfl⟩
        go_wp2
        go_ret
        exact ⟨rfl, B.out.alloc hsz _⟩
      | true =>
        cases b2 with
        | false =>
          obtain rfl : b = false := b_false HB.out (fun h => by have := HO.out.mp (h.2 c (List.mem_of_getElem? HX.out)); simp at this)
          clear hall HB HO HX HN H H2
          go_wp2_with fail
          refine (C1.out _).mono ?_
          rintro e w' ⟨rfl, rfl⟩
          go_wp2_with fail
          refine (C2.out _).mono ?_
          rintro e w' ⟨rfl, rfl⟩
          go_wp2
          go_ret
          exact ⟨rfl, B.out.alloc hsz _⟩
        | true =>
          cases b3 with
          | false =>
            obtain rfl : b = false := b_false HB.out (fun h => by have := HO.out.mp (h.2 c (List.mem_of_getElem? HX.out)); simp at this)
            have q1 : IntKind.i64.wrap (23 - c.w) = 23 - c.w := IntWalk.i64_in _ (by have := H2.out.mp (by simp); omega)
            clear hall HB HO HX HN H H2
            go_wp2_with fail
            refine (C1.out _).mono ?_
            rintro e w' ⟨rfl, rfl⟩
            go_wp2_with fail
            refine (C2.out _).mono ?_
            rintro e w' ⟨rfl, rfl⟩
            go_wp2_with fail
            refine (C3.out _).mono ?_
            rintro e w' ⟨rfl, rfl⟩
            go_wp2
            go_ret
            exact ⟨rfl, B.out.alloc hsz _⟩
          | true =>
              have hall' : Hid (∀ c ∈ xs.take (k + 1), OkLo c) := by
                intro d hd
                rw [List.take_add_one, HX.out] at hd
                simp at hd
                rcases hd with hd | rfl
                · exact hall.out d hd
                · exact HO.out.mpr ⟨rfl, rfl, rfl⟩
              have q1 : IntKind.i64.wrap (23 - c.w) = 23 - c.w := IntWalk.i64_in _ (by have := H2.out.mp (by simp); omega)
              clear hall HO HX H2
              go_wp2_with fail
              refine (C1.out _).mono ?_
              rintro e w' ⟨rfl, rfl⟩
              go_wp2_with fail
              refine (C2.out _).mono ?_
              rintro e w' ⟨rfl, rfl⟩
              go_wp2_with fail
              refine (C3.out _).mono ?_
              rintro e w' ⟨rfl, rfl⟩
              go_wp2
              exact ⟨⟨k + 1, by omega, by go_num, hall', B.out.alloc hsz _⟩, by simp only [intOf]; omega⟩
    · obtain rfl : k = n := by omega
      by_cases h12 : k ≤ 12
      · have d12 : decide ((k : Int) ≤ 12) = true := decide_eq_true (by omega)
        obtain rfl : b = true := HB.out.mpr ⟨by have := HN.out; omega, by have := hall.out; rwa [List.take_of_length_le (by have := HN.out; omega)] at this⟩
        clear HB hall
        go_wp2
        go_ret
        exact ⟨rfl, B.out⟩
      · have d12 : decide ((k : Int) ≤ 12) = false := decide_eq_false (by omega)
        obtain rfl : b = false := b_false HB.out (fun h => h12 (by have := h.1; have := HN.out; omega))
        clear HB hall
        go_wp2
        go_ret
        exact ⟨rfl, B.out⟩

set_option maxHeartbeats 1000000 in
theorem loIs_any (g : Lo) (b : Bool) (hb : b = true ↔ OkLo g) (w : World) :
    Calls Tryd.prog 13 #[(.agg #[.int .i64 g.s, .int .i64 g.v, .int .i64 g.w])] w fun e w' => e = .returned (.bool b) ∧ w' = w.alloc (.cells #[.int .i64 g.s, .int .i64 g.v, .int .i64 g.w] 26) := by
  obtain ⟨b1, h1⟩ := bool_of (0 ≤ g.w ∧ g.w ≤ 5)
  obtain ⟨b2, h2⟩ := bool_of (Litres g.v)
  obtain ⟨b3, h3⟩ := bool_of (g.w ≤ g.s ∧ g.s ≤ 23 - g.w)
  have e : b = (b1 && (b2 && b3)) := by
    rw [Bool.eq_iff_iff, hb]; simp only [Bool.and_eq_true, h1, h2, h3]; unfold OkLo
    constructor
    · rintro ⟨x, y, z⟩; exact ⟨y, x, z⟩
    · rintro ⟨x, y, z⟩; exact ⟨y, x, z⟩
  have H1 := Lib.hid h1
  have H2 := Lib.hid h2
  have H3 := Lib.hid h3
  subst e
  clear hb h1 h2 h3
  go_enter Tryd.func13, Tryd.ntmps13
  go_wp2_with fail
  refine (isWidth_any g.w b1 H1.out _).mono ?_
  rintro e w1 ⟨rfl, rfl⟩
  cases b1
  · go_wp2
    go_ret
    exact ⟨rfl, rfl⟩
  · have q1 : IntKind.i64.wrap (23 - g.w) = 23 - g.w := IntWalk.i64_in _ (by have := H1.out.mp (by simp); omega)
    go_wp2_with fail
    refine (isVolume_any g.v b2 H2.out _).mono ?_
    rintro e w1 ⟨rfl, rfl⟩
    cases b2
    · go_wp2
      go_ret
      exact ⟨rfl, rfl⟩
    · go_wp2_with fail
      refine (within_any g.s g.w (23 - g.w) b3 H3.out _).mono ?_
      rintro e w1 ⟨rfl, rfl⟩
      go_wp2
      go_ret
      exact ⟨by simp, rfl⟩

theorem loIs_blw (g : Lo) (b : Bool) (hb : b = true ↔ OkLo g) (w : World) :
    Calls Tryd.prog 13 #[(.agg #[.int .i64 g.s, .int .i64 g.v, .int .i64 g.w])] w fun e w' => e = .returned (.bool b) ∧ Below w.heap.size w w' :=
  (loIs_any g b hb w).mono fun e w' ⟨h1, h2⟩ => ⟨h1, by rw [h2]; exact (Below.refl _ _).alloc (Nat.le_refl _) _⟩


end Go.Proofs.YtonblcbdmblpbacDoor
