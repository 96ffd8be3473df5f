/- Grouts: what is valid, on both sides. (Written by tools/mkgrout.py.) -/
import Derived.Test.YtonblcbdmblpbaaWithin
import Derived.Test.YtonblcbdmblpbaaGrouts
import Derived.Handy
import Derived.IntWalk
import Derived.Deep.RegionHeld3
import Derived.BigQuiet
namespace Go.Proofs.Ytonblcbdmblpbaa
open Go.ChangeShapes Go.WideShapes Go.ChangeAt Go.RowKit
set_option linter.unusedVariables false
set_option linter.unusedSimpArgs false

theorem bool_of (P : Prop) : ∃ b : Bool, b = true ↔ P := by
  by_cases h : P
  · exact ⟨true, by simp [h]⟩
  · exact ⟨false, by simp [h]⟩
theorem band_of {b b1 b2 : Bool} {P Q R : Prop} (h : b = true ↔ R) (h1 : b1 = true ↔ P) (h2 : b2 = true ↔ Q) (hr : R ↔ P ∧ Q) : b = (b1 && b2) := by
  rw [Bool.eq_iff_iff, Bool.and_eq_true, h, h1, h2, hr]

def Litres (n : Int) : Prop := 0 ≤ n ∧ n ≤ 100000
def OkGt (g : Gt) : Prop := (0 ≤ g.r ∧ g.r ≤ 60) ∧ Litres g.v ∧ Litres g.i ∧ (0 ≤ g.s ∧ g.s ≤ 100)
/-- The rings of the first k elements increase. -/
def RiseTo (xs : List Gt) (k : Nat) : Prop := ∀ i r s, i + 1 < k → xs[i]? = some r → xs[i + 1]? = some s → r.r < s.r
theorem RiseTo.zero (xs : List Gt) : RiseTo xs 0 := by intro i r s hi; omega
theorem RiseTo.one (xs : List Gt) : RiseTo xs 1 := by intro i r s hi; omega
theorem RiseTo.succ {xs : List Gt} {k : Nat} {r s : Gt} (h : RiseTo xs (k + 1)) (hr : xs[k]? = some r) (hs : xs[k + 1]? = some s) (hf : r.r < s.r) : RiseTo xs (k + 2) := by
  intro i r' s' hi h1 h2
  by_cases e : i = k
  · subst e
    obtain rfl := Option.some.inj (hr.symm.trans h1)
    obtain rfl := Option.some.inj (hs.symm.trans h2)
    exact hf
  · exact h i r' s' (by omega) h1 h2
def OkGs (xs : List Gt) : Prop := xs.length ≤ 12 ∧ (∀ c ∈ xs, OkGt c) ∧ RiseTo xs xs.length

theorem RdS.at4g {w : World} {a : Option Addr} {n cap : Nat} {xs : List Gt} (h : RdS 4 encGt w (.slice a n cap) xs) (i : Nat) (x : Gt) (hx : xs[i]? = some x) :
    ∃ b off, a = some ⟨b, off, none⟩ ∧ w.cell? ⟨b, off + i * 4, none⟩ = some (.int .i64 x.r) ∧ w.cell? ⟨b, off + i * 4 + 1, none⟩ = some (.int .i64 x.v) ∧ w.cell? ⟨b, off + i * 4 + 2, none⟩ = some (.int .i64 x.i) ∧ w.cell? ⟨b, off + i * 4 + 3, none⟩ = some (.int .i64 x.s) := by
  obtain ⟨a', c', hv, h⟩ := h
  simp only [Value.slice.injEq] at hv
  obtain ⟨rfl, -, -⟩ := hv
  obtain ⟨b, off, rfl, h2⟩ := h.resolve_left (by intro e; rw [e] at hx; simp at hx)
  exact ⟨b, off, rfl, h2 i x hx 0 _ rfl, h2 i x hx 1 _ rfl, h2 i x hx 2 _ rfl, h2 i x hx 3 _ rfl⟩

theorem l07Litres_any (n : Int) (b : Bool) (hb : b = true ↔ Litres n) (w : World) :
    Calls Try.prog 86 #[.int .i64 n] w fun e w' => e = .returned (.bool b) ∧ w = w' := by
  have HB := Lib.hid hb
  clear hb
  go_enter Try.func86, Try.ntmps86
  go_wp2_with fail
  refine (in_any n 0 100000 b HB.out w).mono ?_
  rintro e w' ⟨rfl, rfl⟩
  go_wp2
  go_ret
  exact ⟨rfl, rfl⟩

theorem isVolume_any (n : Int) (b : Bool) (hb : b = true ↔ Litres n) (w : World) :
    Calls Try.prog 37 #[.int .i64 n] w fun e w' => e = .returned (.bool b) ∧ w = w' := by
  have HB := Lib.hid hb
  clear hb
  go_enter Try.func37, Try.ntmps37
  go_wp2_with fail
  refine (within_any n 0 100000 b HB.out w).mono ?_
  rintro e w' ⟨rfl, rfl⟩
  go_wp2
  go_ret
  exact ⟨rfl, rfl⟩

theorem isRing7_any (n : Int) (b : Bool) (hb : b = true ↔ 0 ≤ n ∧ n ≤ 60) (w : World) :
    Calls Try.prog 84 #[.int .i64 n] w fun e w' => e = .returned (.bool b) ∧ w = w' := by
  have HB := Lib.hid hb
  clear hb
  go_enter Try.func84, Try.ntmps84
  go_wp2_with fail
  refine (within_any n 0 60 b HB.out w).mono ?_
  rintro e w' ⟨rfl, rfl⟩
  go_wp2
  go_ret
  exact ⟨rfl, rfl⟩

set_option maxRecDepth 100000 in
set_option maxHeartbeats 8000000 in
theorem l07Grouts_any (v : Value) (xs : List Gt) (w : World) (h : RdS 4 encGt w v xs) (lz : xs.length ≤ 1048576) (b : Bool) (hb : b = true ↔ OkGs xs) :
    Calls Try.prog 61 #[v] w fun e w' => e = .returned (.bool b) ∧ Below w.heap.size w w' := by
  have H := Lib.hid h
  have HB := Lib.hid hb
  obtain ⟨a, cap, rfl, _⟩ := h
  obtain ⟨n, hn⟩ : ∃ n, n = xs.length := ⟨_, rfl⟩
  rw [← hn] at H lz
  rw [← hn]
  have HN := Lib.hid hn
  clear hn hb
  go_enter Try.func61, Try.ntmps61
  go_wp2
  go_loopw [3] (fun i wr => ∃ k : Nat, k ≤ n ∧ i = .int .i64 k ∧ Hid (∀ c ∈ xs.take k, OkGt c) ∧ Hid (RiseTo xs k) ∧ Hid (Below w.heap.size w wr)) (fun i _ => n - (intOf i).toNat)
  case atStart => exact ⟨0, by omega, rfl, by intro c hc; simp at hc, RiseTo.zero xs, Below.refl _ _⟩
  case round =>
    obtain ⟨k, hk, rfl, hall, hrise, B⟩ := hrel
    have hsz := B.out.size
    by_cases hlt : k < n
    · obtain ⟨c, hx⟩ : ∃ x, xs[k]? = some x := ⟨_, List.getElem?_eq_getElem (by have := HN.out; omega)⟩
      obtain ⟨ba, oa, rfl, e0, e1, e2, e3⟩ := (H.out.later B.out).at4g k c hx
      have la : ba < wr.heap.size := World.block_lt_of_cell? wr _ e0
      have HX := Lib.hid hx
      obtain ⟨b1, h1⟩ := bool_of (0 ≤ c.r ∧ c.r ≤ 60)
      obtain ⟨b2, h2⟩ := bool_of (Litres c.v)
      obtain ⟨b3, h3⟩ := bool_of (Litres c.i)
      obtain ⟨b4, h4⟩ := bool_of (0 ≤ c.s ∧ c.s ≤ 100)
      have C1 := Lib.hid (fun w => in_any c.r 0 60 b1 h1 w)
      have C2 := Lib.hid (fun w => l07Litres_any c.v b2 h2 w)
      have C3 := Lib.hid (fun w => l07Litres_any c.i b3 h3 w)
      have C4 := Lib.hid (fun w => in_any c.s 0 100 b4 h4 w)
      have HO : Hid (OkGt c ↔ (b1 = true ∧ b2 = true ∧ b3 = true ∧ b4 = true)) := by show _ ↔ _; rw [h1, h2, h3, h4]; rfl
      clear hx h1 h2 h3 h4
      cases b1 with
      | false =>
        obtain rfl : b = false := b_false HB.out (fun h => by have := HO.out.mp (h.2.1 c (List.mem_of_getElem? HX.out)); simp at this)
        clear hall hrise HB HO HX HN H
        go_wp2
        go_quiet ((go_at_call 85; exact (C1.out _).mono fun _ _ h => ⟨h.1, ⟨_, h.2.symm⟩⟩))
        go_wp2
        go_ret
        exact ⟨rfl, below_drewN (B.out.alloc hsz _) _⟩
      | true =>
        cases b2 with
        | false =>
          obtain rfl : b = false := b_false HB.out (fun h => by have := HO.out.mp (h.2.1 c (List.mem_of_getElem? HX.out)); simp at this)
          clear hall hrise HB HO HX HN H
          go_wp2
          go_quiet ((first | (go_at_call 85; exact (C1.out _).mono fun _ _ h => ⟨h.1, ⟨_, h.2.symm⟩⟩) | (go_at_call 86; exact (C2.out _).mono fun _ _ h => ⟨h.1, ⟨_, h.2.symm⟩⟩)))
          go_wp2
          go_ret
          exact ⟨rfl, below_drewN (B.out.alloc hsz _) _⟩
        | true =>
          cases b3 with
          | false =>
            obtain rfl : b = false := b_false HB.out (fun h => by have := HO.out.mp (h.2.1 c (List.mem_of_getElem? HX.out)); simp at this)
            clear hall hrise HB HO HX HN H
            go_wp2
            go_quiet ((first | (go_at_call 85; exact (C1.out _).mono fun _ _ h => ⟨h.1, ⟨_, h.2.symm⟩⟩) | (go_at_call 86; (first | with_reducible exact (C2.out _).mono fun _ _ h => ⟨h.1, ⟨_, h.2.symm⟩⟩ | with_reducible exact (C3.out _).mono fun _ _ h => ⟨h.1, ⟨_, h.2.symm⟩⟩))))
            go_wp2
            go_ret
            exact ⟨rfl, below_drewN (B.out.alloc hsz _) _⟩
          | true =>
            cases b4 with
            | false =>
              obtain rfl : b = false := b_false HB.out (fun h => by have := HO.out.mp (h.2.1 c (List.mem_of_getElem? HX.out)); simp at this)
              clear hall hrise HB HO HX HN H
              go_wp2
              go_quiet ((first | (go_at_call 85; (first | with_reducible exact (C1.out _).mono fun _ _ h => ⟨h.1, ⟨_, h.2.symm⟩⟩ | with_reducible exact (C4.out _).mono fun _ _ h => ⟨h.1, ⟨_, h.2.symm⟩⟩)) | (go_at_call 86; (first | with_reducible exact (C2.out _).mono fun _ _ h => ⟨h.1, ⟨_, h.2.symm⟩⟩ | with_reducible exact (C3.out _).mono fun _ _ h => ⟨h.1, ⟨_, h.2.symm⟩⟩))))
              go_wp2
              go_ret
              exact ⟨rfl, below_drewN (B.out.alloc hsz _) _⟩
            | true =>
              have hall' : Hid (∀ c ∈ xs.take (k + 1), OkGt c) := by
                intro d hd
                rw [List.take_add_one, HX.out] at hd
                simp at hd
                rcases hd with hd | rfl
                · exact hall.out d hd
                · exact HO.out.mpr ⟨rfl, rfl, rfl, rfl⟩
              by_cases k0 : k = 0
              · have K0 := Lib.hid k0
                have d0 : decide (0 < k) = false := decide_eq_false (by omega)
                have R1 : Hid (RiseTo xs (k + 1)) := by show RiseTo _ _; rw [k0]; exact RiseTo.one xs
                clear hall hrise HO HX k0
                go_wp2
                go_quiet ((first | (go_at_call 85; (first | with_reducible exact (C1.out _).mono fun _ _ h => ⟨h.1, ⟨_, h.2.symm⟩⟩ | with_reducible exact (C4.out _).mono fun _ _ h => ⟨h.1, ⟨_, h.2.symm⟩⟩)) | (go_at_call 86; (first | with_reducible exact (C2.out _).mono fun _ _ h => ⟨h.1, ⟨_, h.2.symm⟩⟩ | with_reducible exact (C3.out _).mono fun _ _ h => ⟨h.1, ⟨_, h.2.symm⟩⟩))))
                go_wp2
                exact ⟨⟨k + 1, by omega, by go_num, hall', R1, below_drewN (B.out.alloc hsz _) _⟩, by simp only [intOf]; omega⟩
              · obtain ⟨j, hj⟩ : ∃ j, k = j + 1 := ⟨k - 1, by omega⟩
                have d0 : decide (0 < k) = true := decide_eq_true (by omega)
                obtain ⟨p, hp⟩ : ∃ x, xs[j]? = some x := ⟨_, List.getElem?_eq_getElem (by have := HN.out; omega)⟩
                obtain ⟨bb, ob, eb, f0, -⟩ := (H.out.later B.out).at4g j p hp
                simp only [Option.some.injEq, Addr.mk.injEq, and_true] at eb
                obtain ⟨rfl, rfl⟩ := eb
                have HP := Lib.hid hp
                have q1 : IntKind.i64.wrap ((k : Int) - 1) = (j : Int) := by rw [IntWalk.i64_in _ (by omega)]; omega
                have jn : j < n := by omega
                have M := Lib.hid hj
                clear hj hp k0
                by_cases hr : p.r < c.r
                · have d1 : decide (c.r ≤ p.r) = false := decide_eq_false (by omega)
                  have R1 : Hid (RiseTo xs (k + 1)) := by
                    have e := M.out
                    have r := hrise.out
                    have x := HX.out
                    show RiseTo _ _
                    rw [e] at r x ⊢
                    exact r.succ HP.out x hr
                  clear hall hrise HO HX HP hr
                  go_wp2
                  go_quiet ((first | (go_at_call 85; (first | with_reducible exact (C1.out _).mono fun _ _ h => ⟨h.1, ⟨_, h.2.symm⟩⟩ | with_reducible exact (C4.out _).mono fun _ _ h => ⟨h.1, ⟨_, h.2.symm⟩⟩)) | (go_at_call 86; (first | with_reducible exact (C2.out _).mono fun _ _ h => ⟨h.1, ⟨_, h.2.symm⟩⟩ | with_reducible exact (C3.out _).mono fun _ _ h => ⟨h.1, ⟨_, h.2.symm⟩⟩))))
                  go_wp2
                  exact ⟨⟨k + 1, by omega, by go_num, hall', R1, below_drewN (B.out.alloc hsz _) _⟩, by simp only [intOf]; omega⟩
                · have d1 : decide (c.r ≤ p.r) = true := decide_eq_true (by omega)
                  obtain rfl : b = false := b_false HB.out (fun h => hr (h.2.2 j p c (by have := HN.out; have := M.out; omega) HP.out (by rw [← M.out]; exact HX.out)))
                  clear hall hrise HO HX HP hr
                  go_wp2
                  go_quiet ((first | (go_at_call 85; (first | with_reducible exact (C1.out _).mono fun _ _ h => ⟨h.1, ⟨_, h.2.symm⟩⟩ | with_reducible exact (C4.out _).mono fun _ _ h => ⟨h.1, ⟨_, h.2.symm⟩⟩)) | (go_at_call 86; (first | with_reducible exact (C2.out _).mono fun _ _ h => ⟨h.1, ⟨_, h.2.symm⟩⟩ | with_reducible exact (C3.out _).mono fun _ _ h => ⟨h.1, ⟨_, h.2.symm⟩⟩))))
                  go_wp2
                  go_ret
                  exact ⟨rfl, below_drewN (B.out.alloc hsz _) _⟩
    · obtain rfl : k = n := by omega
      by_cases h12 : k ≤ 12
      · have d12 : decide ((k : Int) ≤ 12) = true := decide_eq_true (by omega)
        obtain rfl : b = true := HB.out.mpr ⟨by have := HN.out; omega, by have := hall.out; rwa [List.take_of_length_le (by have := HN.out; omega)] at this, by have := hrise.out; rw [← HN.out]; exact this⟩
        clear HB hall hrise
        go_wp2
        go_ret
        exact ⟨rfl, B.out⟩
      · have d12 : decide ((k : Int) ≤ 12) = false := decide_eq_false (by omega)
        obtain rfl : b = false := b_false HB.out (fun h => h12 (by have := h.1; have := HN.out; omega))
        clear HB hall hrise
        go_wp2
        go_ret
        exact ⟨rfl, B.out⟩
end Go.Proofs.Ytonblcbdmblpbaa
