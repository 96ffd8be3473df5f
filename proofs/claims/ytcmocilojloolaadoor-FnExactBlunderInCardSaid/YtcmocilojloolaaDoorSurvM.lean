/- Valid surveys: both sides. (Written by tools/mksurvm.py.) -/
import Derived.Test.YtcmocilojloolaaDoorWithin
import Derived.Test.YtcmocilojloolaaDoorSurvA
import Derived.Test.YtcmocilojloolaaDoorTreeM
import Derived.BigQuiet
import Derived.IntWalk
import Derived.Deep.RegionHeld3
namespace Go.Proofs.YtcmocilojloolaaDoor
open Go.ChangeShapes Go.WideShapes Go.ChangeAt Go.RowKit
set_option linter.unusedVariables false
set_option linter.unusedSimpArgs false

theorem bool_ofV (P : Prop) : ∃ b : Bool, b = true ↔ P := by
  by_cases h : P
  · exact ⟨true, by simp [h]⟩
  · exact ⟨false, by simp [h]⟩

theorem RdS.at4g {T : Type} {enc : T → List Value} {w : World} {a : Option Addr} {n cap : Nat} {xs : List T} (h : RdS 4 enc w (.slice a n cap) xs) (i : Nat) (x : T) (hx : xs[i]? = some x) (u0 u1 u2 u3 : Value) (he : enc x = [u0, u1, u2, u3]) :
    ∃ b off, a = some ⟨b, off, none⟩ ∧ w.cell? ⟨b, off + i * 4, none⟩ = some u0 ∧ w.cell? ⟨b, off + i * 4 + 1, none⟩ = some u1 ∧ w.cell? ⟨b, off + i * 4 + 2, none⟩ = some u2 ∧ w.cell? ⟨b, off + i * 4 + 3, none⟩ = some u3 := by
  obtain ⟨a', c', hv, h2⟩ := h
  simp only [Value.slice.injEq] at hv
  obtain ⟨rfl, -, -⟩ := hv
  obtain ⟨b, off, rfl, hc⟩ := h2.resolve_left (by intro e; rw [e] at hx; simp at hx)
  have c0 := hc i x hx 0 u0 (by rw [he]; rfl)
  have c1 := hc i x hx 1 u1 (by rw [he]; rfl)
  have c2 := hc i x hx 2 u2 (by rw [he]; rfl)
  have c3 := hc i x hx 3 u3 (by rw [he]; rfl)
  exact ⟨b, off, rfl, c0, by rw [Nat.add_assoc]; exact c1, by rw [Nat.add_assoc]; exact c2, by rw [Nat.add_assoc]; exact c3⟩

def OkX (p : Int) (x : St) : Prop := (0 ≤ x.f ∧ x.f ≤ p - 1) ∧ (0 ≤ x.t ∧ x.t ≤ p - 1) ∧ x.f ≠ x.t ∧ (-100 ≤ x.r ∧ x.r ≤ 100) ∧ (1 ≤ x.v ∧ x.v ≤ 3)
/-- A valid survey. -/
structure OkSv (g : Sv) : Prop where
  p0 : 2 ≤ g.p ∧ g.p ≤ 5
  n0 : g.x.length ≤ 8
  x0 : ∀ x ∈ g.x, OkX g.p x
theorem OkSv.same {g k : Sv} (h : OkSv g) (e : g.same k) : OkSv k := by
  obtain ⟨e0, e1⟩ := e
  obtain ⟨a, b, c⟩ := h
  rw [e0] at a c
  rw [e1] at b c
  exact ⟨a, b, c⟩
theorem okSv_same {g k : Sv} (e : g.same k) : OkSv g ↔ OkSv k := ⟨fun h => h.same e, fun h => h.same (Sv.same_symm e)⟩
theorem OkX.ok {p : Int} {n : Nat} {x : St} (h : OkX p x) (hn : (n : Int) = p) : OkSt n x := by
  obtain ⟨⟨a, b⟩, ⟨c, d⟩, e, ⟨f, g⟩, ⟨i, j⟩⟩ := h
  exact ⟨a, by omega, c, by omega, e, f, g, i, j⟩

theorem take_allV {T : Type} {P : T → Prop} {zs : List T} {k : Nat} {x : T} (h : ∀ y ∈ zs.take k, P y) (hx : zs[k]? = some x) (hp : P x) : ∀ y ∈ zs.take (k + 1), P y := by
  intro y hy
  rw [List.take_add_one, hx] at hy
  rcases List.mem_append.mp hy with hy | hy
  · exact h y hy
  · have : y = x := by simpa using hy
    subst this; exact hp

set_option maxRecDepth 100000 in
set_option maxHeartbeats 8000000 in
theorem l10Is_any (G : Nat) (ty : TypeId) (g : Sv) (n0 : Nat) (w : World) (hG : w.heap[G]? = some (.cells #[.int .i64 g.p, .slice g.xa n0 g.xc] ty (0, 0))) (hr : RdSv w n0 g) (l0 : n0 ≤ 1048576) (b : Bool) (hb : b = true ↔ OkSv g) :
    Calls Tryd.prog 79 #[.pointer (some ⟨G, 0, none⟩)] w fun e w' => e = .returned (.bool b) ∧ Below w.heap.size w w' := by
  have e0 := hr.len
  obtain ⟨⟨p0, p1⟩, -, lG⟩ := boxedSv_at hG
  obtain ⟨b1, h1⟩ := bool_ofV (2 ≤ g.p ∧ g.p ≤ 5)
  have C1 := Lib.hid (fun w => in_any g.p 2 5 b1 h1 w)
  have CI := Lib.hid (fun w z lo hi b hb => in_any z lo hi b hb w)
  have HG := Lib.hid hG
  have H := Lib.hid hr.r0
  have HB := Lib.hid hb
  have H1 := Lib.hid h1
  have E0 := Lib.hid e0
  clear hG hr hb h1 e0
  go_enter Tryd.func79, Tryd.ntmps79
  go_wp2_with fail
  refine (C1.out _).mono ?_
  rintro e w' ⟨rfl, rfl⟩
  cases b1 with
  | false =>
    obtain rfl : b = false := b_false HB.out (fun q => by have := H1.out.mpr q.p0; simp at this)
    go_wp2
    go_ret
    exact ⟨rfl, Below.refl _ _⟩
  | true =>
  have hh := H1.out.mp (by trivial)
  by_cases n8 : 8 < n0
  · obtain rfl : b = false := b_false HB.out (fun q => by have := q.n0; have := E0.out; omega)
    go_wp2
    go_ret
    exact ⟨rfl, Below.refl _ _⟩
  have d2 : decide (8 < n0) = false := decide_eq_false (by omega)
  have qp : IntKind.i64.wrap (g.p - 1) = g.p - 1 := IntWalk.i64_in _ (by omega)
  clear C1 H1
  go_wp2
  go_loopw [3] (fun i wr => ∃ k : Nat, k ≤ n0 ∧ i = .int .i64 k ∧ Hid (∀ x ∈ g.x.take k, OkX g.p x) ∧ Hid (Below w.heap.size w wr)) (fun i _ => n0 - (intOf i).toNat)
  case atStart => exact ⟨0, by omega, rfl, fun x hx => by simp at hx, Below.refl _ _⟩
  case round =>
    obtain ⟨k, hk, rfl, ha, B⟩ := hrel
    clear p0 p1
    have hsz := B.out.size
    obtain ⟨⟨p0, p1⟩, -, -⟩ := boxedSv_at ((B.out.block G lG).trans HG.out)
    by_cases hlt : k < n0
    · obtain ⟨x, hx⟩ : ∃ x, g.x[k]? = some x := ⟨_, List.getElem?_eq_getElem (by have := E0.out; omega)⟩
      obtain ⟨ba, oa, ea, u0, u1, u2, u3⟩ := (H.out.later B.out).at4g k x hx _ _ _ _ rfl
      rw [ea] at p1
      have HX := Lib.hid hx
      have lG' : G < wr.heap.size := by omega
      clear ea hx
      obtain ⟨c1, h1⟩ := bool_ofV (0 ≤ x.f ∧ x.f ≤ g.p - 1)
      obtain ⟨c2, h2⟩ := bool_ofV (0 ≤ x.t ∧ x.t ≤ g.p - 1)
      obtain ⟨c4, h4⟩ := bool_ofV (-100 ≤ x.r ∧ x.r ≤ 100)
      obtain ⟨c5, h5⟩ := bool_ofV (1 ≤ x.v ∧ x.v ≤ 3)
      have D1 := Lib.hid (fun w => in_any x.f 0 (g.p - 1) c1 h1 w)
      have D2 := Lib.hid (fun w => in_any x.t 0 (g.p - 1) c2 h2 w)
      have D4 := Lib.hid (fun w => in_any x.r (-100) 100 c4 h4 w)
      have D5 := Lib.hid (fun w => in_any x.v 1 3 c5 h5 w)
      have HO : Hid (OkX g.p x ↔ (c1 = true ∧ c2 = true ∧ x.f ≠ x.t ∧ c4 = true ∧ c5 = true)) := by show _ ↔ _; rw [h1, h2, h4, h5]; rfl
      clear h1 h2 h4 h5
      cases c1 with
      | false =>
        obtain rfl : b = false := b_false HB.out (fun h => by have := HO.out.mp (h.x0 x (List.mem_of_getElem? HX.out)); simp at this)
        clear ha HB HO HX H CI
        go_wp2
        go_quiet ((first | (go_at_call 92; (with_reducible refine (D1.out _).mono ?_); exact fun _ _ h => ⟨h.1, ⟨_, h.2.symm⟩⟩) | (go_at_call 92; (with_reducible refine (D2.out _).mono ?_); exact fun _ _ h => ⟨h.1, ⟨_, h.2.symm⟩⟩) | (go_at_call 92; (with_reducible refine (D4.out _).mono ?_); exact fun _ _ h => ⟨h.1, ⟨_, h.2.symm⟩⟩) | (go_at_call 92; (with_reducible refine (D5.out _).mono ?_); exact fun _ _ h => ⟨h.1, ⟨_, h.2.symm⟩⟩)))
        go_wp2
        go_ret
        exact ⟨rfl, below_drewN (B.out.alloc hsz _) _⟩
      | true =>
      cases c2 with
      | false =>
        obtain rfl : b = false := b_false HB.out (fun h => by have := HO.out.mp (h.x0 x (List.mem_of_getElem? HX.out)); simp at this)
        clear ha HB HO HX H CI
        go_wp2
        go_quiet ((first | (go_at_call 92; (with_reducible refine (D1.out _).mono ?_); exact fun _ _ h => ⟨h.1, ⟨_, h.2.symm⟩⟩) | (go_at_call 92; (with_reducible refine (D2.out _).mono ?_); exact fun _ _ h => ⟨h.1, ⟨_, h.2.symm⟩⟩) | (go_at_call 92; (with_reducible refine (D4.out _).mono ?_); exact fun _ _ h => ⟨h.1, ⟨_, h.2.symm⟩⟩) | (go_at_call 92; (with_reducible refine (D5.out _).mono ?_); exact fun _ _ h => ⟨h.1, ⟨_, h.2.symm⟩⟩)))
        go_wp2
        go_ret
        exact ⟨rfl, below_drewN (B.out.alloc hsz _) _⟩
      | true =>
      by_cases ft : x.f = x.t
      · have dft : decide (x.f = x.t) = true := decide_eq_true ft
        obtain rfl : b = false := b_false HB.out (fun h => (HO.out.mp (h.x0 x (List.mem_of_getElem? HX.out))).2.2.1 ft)
        have dft2 : (x.f == x.t) = true := by simpa using ft
        rw [← ft] at u1 D2
        clear ha HB HO HX H CI ft dft dft2
        go_wp2
        go_quiet ((first | (go_at_call 92; (with_reducible refine (D1.out _).mono ?_); exact fun _ _ h => ⟨h.1, ⟨_, h.2.symm⟩⟩) | (go_at_call 92; (with_reducible refine (D2.out _).mono ?_); exact fun _ _ h => ⟨h.1, ⟨_, h.2.symm⟩⟩) | (go_at_call 92; (with_reducible refine (D4.out _).mono ?_); exact fun _ _ h => ⟨h.1, ⟨_, h.2.symm⟩⟩) | (go_at_call 92; (with_reducible refine (D5.out _).mono ?_); exact fun _ _ h => ⟨h.1, ⟨_, h.2.symm⟩⟩)))
        go_wp2
        go_ret
        exact ⟨rfl, below_drewN (B.out.alloc hsz _) _⟩
      have dft : decide (x.f = x.t) = false := decide_eq_false ft
      have dft2 : (x.f == x.t) = false := by simpa using ft
      cases c4 with
      | false =>
        obtain rfl : b = false := b_false HB.out (fun h => by have := HO.out.mp (h.x0 x (List.mem_of_getElem? HX.out)); simp at this)
        clear ha HB HO HX H CI
        go_wp2
        go_quiet ((first | (go_at_call 92; (with_reducible refine (D1.out _).mono ?_); exact fun _ _ h => ⟨h.1, ⟨_, h.2.symm⟩⟩) | (go_at_call 92; (with_reducible refine (D2.out _).mono ?_); exact fun _ _ h => ⟨h.1, ⟨_, h.2.symm⟩⟩) | (go_at_call 92; (with_reducible refine (D4.out _).mono ?_); exact fun _ _ h => ⟨h.1, ⟨_, h.2.symm⟩⟩) | (go_at_call 92; (with_reducible refine (D5.out _).mono ?_); exact fun _ _ h => ⟨h.1, ⟨_, h.2.symm⟩⟩)))
        go_wp2
        go_ret
        exact ⟨rfl, below_drewN (B.out.alloc hsz _) _⟩
      | true =>
      cases c5 with
      | false =>
        obtain rfl : b = false := b_false HB.out (fun h => by have := HO.out.mp (h.x0 x (List.mem_of_getElem? HX.out)); simp at this)
        clear ha HB HO HX H CI
        go_wp2
        go_quiet ((first | (go_at_call 92; (with_reducible refine (D1.out _).mono ?_); exact fun _ _ h => ⟨h.1, ⟨_, h.2.symm⟩⟩) | (go_at_call 92; (with_reducible refine (D2.out _).mono ?_); exact fun _ _ h => ⟨h.1, ⟨_, h.2.symm⟩⟩) | (go_at_call 92; (with_reducible refine (D4.out _).mono ?_); exact fun _ _ h => ⟨h.1, ⟨_, h.2.symm⟩⟩) | (go_at_call 92; (with_reducible refine (D5.out _).mono ?_); exact fun _ _ h => ⟨h.1, ⟨_, h.2.symm⟩⟩)))
        go_wp2
        go_ret
        exact ⟨rfl, below_drewN (B.out.alloc hsz _) _⟩
      | true =>
      have ha2 : Hid (∀ x ∈ g.x.take (k + 1), OkX g.p x) := take_allV ha.out HX.out (HO.out.mpr ⟨rfl, rfl, ft, rfl, rfl⟩)
      clear ha HO HX CI
      go_wp2
      go_quiet ((first | (go_at_call 92; (with_reducible refine (D1.out _).mono ?_); exact fun _ _ h => ⟨h.1, ⟨_, h.2.symm⟩⟩) | (go_at_call 92; (with_reducible refine (D2.out _).mono ?_); exact fun _ _ h => ⟨h.1, ⟨_, h.2.symm⟩⟩) | (go_at_call 92; (with_reducible refine (D4.out _).mono ?_); exact fun _ _ h => ⟨h.1, ⟨_, h.2.symm⟩⟩) | (go_at_call 92; (with_reducible refine (D5.out _).mono ?_); exact fun _ _ h => ⟨h.1, ⟨_, h.2.symm⟩⟩)))
      go_wp2
      exact ⟨⟨k + 1, by omega, by go_num, ha2, below_drewN (B.out.alloc hsz _) _⟩, by simp only [intOf]; omega⟩
    · obtain rfl : k = n0 := by omega
      obtain rfl : b = true := HB.out.mpr ⟨hh, by have := E0.out; omega, by have := ha.out; rwa [List.take_of_length_le (by have := E0.out; omega)] at this⟩
      clear HB ha
      go_wp2
      go_ret
      exact ⟨rfl, B.out⟩

theorem hasPoint_any (g : Sv) (n0 : Nat) (hp : 2 ≤ g.p ∧ g.p ≤ 5) (k : Int) (b : Bool) (hb : b = true ↔ 0 ≤ k ∧ k ≤ g.p - 1) (w : World) :
    Calls Tryd.prog 93 #[(.agg #[.int .i64 g.p, .slice g.xa n0 g.xc]), .int .i64 k] w fun e w' => e = .returned (.bool b) ∧ w' = w.alloc (.cells #[.int .i64 g.p, .slice g.xa n0 g.xc] 26) := by
  have HB := Lib.hid hb
  have qp : IntKind.i64.wrap (g.p - 1) = g.p - 1 := IntWalk.i64_in _ (by omega)
  clear hb
  go_enter Tryd.func93, Tryd.ntmps93
  go_wp2_with fail
  refine (within_any k 0 (g.p - 1) b HB.out _).mono ?_
  rintro e w' ⟨rfl, rfl⟩
  go_wp2
  go_ret
  exact ⟨rfl, rfl⟩

set_option maxRecDepth 100000 in
set_option maxHeartbeats 4000000 in
theorem allows_any (g : Sv) (n0 : Nat) (hp : 2 ≤ g.p ∧ g.p ≤ 5) (x : St) (b : Bool) (hb : b = true ↔ OkX g.p x) (w : World) :
    Calls Tryd.prog 110 #[(.agg #[.int .i64 g.p, .slice g.xa n0 g.xc]), (.agg #[.int .i64 x.f, .int .i64 x.t, .int .i64 x.r, .int .i64 x.v])] w fun e w' => e = .returned (.bool b) ∧ Below w.heap.size w w' := by
  obtain ⟨c1, h1⟩ := bool_ofV (0 ≤ x.f ∧ x.f ≤ g.p - 1)
  obtain ⟨c2, h2⟩ := bool_ofV (0 ≤ x.t ∧ x.t ≤ g.p - 1)
  obtain ⟨c4, h4⟩ := bool_ofV (-100 ≤ x.r ∧ x.r ≤ 100)
  obtain ⟨c5, h5⟩ := bool_ofV (1 ≤ x.v ∧ x.v ≤ 3)
  have D1 := Lib.hid (fun w => hasPoint_any g n0 hp x.f c1 h1 w)
  have D2 := Lib.hid (fun w => hasPoint_any g n0 hp x.t c2 h2 w)
  have D4 := Lib.hid (fun w => within_any x.r (-100) 100 c4 h4 w)
  have D5 := Lib.hid (fun w => within_any x.v 1 3 c5 h5 w)
  have HO : Hid (b = true ↔ (c1 = true ∧ c2 = true ∧ x.f ≠ x.t ∧ c4 = true ∧ c5 = true)) := by show _ ↔ _; rw [hb, h1, h2, h4, h5]; rfl
  clear h1 h2 h4 h5 hb
  cases c1 with
  | false =>
    obtain rfl : b = false := b_false HO.out (by simp)
    go_enter Tryd.func110, Tryd.ntmps110
    go_wp2_with fail
    refine (D1.out _).mono ?_
    rintro e w' ⟨rfl, rfl⟩
    go_wp2
    go_ret
    exact ⟨rfl, by go_grown⟩
  | true =>
  cases c2 with
  | false =>
    obtain rfl : b = false := b_false HO.out (by simp)
    go_enter Tryd.func110, Tryd.ntmps110
    go_wp2_with fail
    refine (D1.out _).mono ?_
    rintro e w' ⟨rfl, rfl⟩
    go_wp2_with fail
    refine (D2.out _).mono ?_
    rintro e w' ⟨rfl, rfl⟩
    go_wp2
    go_ret
    exact ⟨rfl, by go_grown⟩
  | true =>
  by_cases ft : x.f = x.t
  · obtain rfl : b = false := b_false HO.out (fun h => h.2.2.1 ft)
    have dft : (x.f != x.t) = false := by simpa using ft
    clear ft
    go_enter Tryd.func110, Tryd.ntmps110
    go_wp2_with fail
    refine (D1.out _).mono ?_
    rintro e w' ⟨rfl, rfl⟩
    go_wp2_with fail
    refine (D2.out _).mono ?_
    rintro e w' ⟨rfl, rfl⟩
    go_wp2
    go_ret
    exact ⟨rfl, by go_grown⟩
  have dft : (x.f != x.t) = true := by simpa using ft
  cases c4 with
  | false =>
    obtain rfl : b = false := b_false HO.out (by simp)
    clear ft
    go_enter Tryd.func110, Tryd.ntmps110
    go_wp2_with fail
    refine (D1.out _).mono ?_
    rintro e w' ⟨rfl, rfl⟩
    go_wp2_with fail
    refine (D2.out _).mono ?_
    rintro e w' ⟨rfl, rfl⟩
    go_wp2_with fail
    refine (D4.out _).mono ?_
    rintro e w' ⟨rfl, rfl⟩
    go_wp2
    go_ret
    exact ⟨rfl, by go_grown⟩
  | true =>
  obtain rfl : b = c5 := by rw [Bool.eq_iff_iff, HO.out]; simp [ft]
  clear ft
  go_enter Tryd.func110, Tryd.ntmps110
  go_wp2_with fail
  refine (D1.out _).mono ?_
  rintro e w' ⟨rfl, rfl⟩
  go_wp2_with fail
  refine (D2.out _).mono ?_
  rintro e w' ⟨rfl, rfl⟩
  go_wp2_with fail
  refine (D4.out _).mono ?_
  rintro e w' ⟨rfl, rfl⟩
  go_wp2_with fail
  refine (D5.out _).mono ?_
  rintro e w' ⟨rfl, rfl⟩
  go_wp2
  go_ret
  exact ⟨rfl, by go_grown⟩

set_option maxRecDepth 100000 in
set_option maxHeartbeats 2000000 in
theorem everySight_any (g : Sv) (n0 : Nat) (hp : 2 ≤ g.p ∧ g.p ≤ 5) (v : Value) (xs : List St) (w : World) (h : RdS 4 encSt w v xs) (lz : xs.length ≤ 1048576) (b : Bool) (hb : b = true ↔ ∀ x ∈ xs, OkX g.p x) :
    Calls Tryd.prog 109 #[v, .func (Fn.func 110) #[(.agg #[.int .i64 g.p, .slice g.xa n0 g.xc])] #[]] w fun e w' => e = .returned (.bool b) ∧ Below w.heap.size w w' := by
  have H := Lib.hid h
  have HB := Lib.hid hb
  obtain ⟨a, cap, rfl, _⟩ := h
  obtain ⟨n, hn⟩ : ∃ n, n = xs.length := ⟨_, rfl⟩
  rw [← hn] at H lz
  rw [← hn]
  have HN := Lib.hid hn
  have CC := Lib.hid (fun x b hb w => allows_any g n0 hp x b hb w)
  clear hn hb
  go_enter Tryd.func109, Tryd.ntmps109
  go_wp2
  go_loopw [9] (fun i wr => ∃ k : Nat, k ≤ n ∧ i = .int .i64 k ∧ Hid (∀ x ∈ xs.take k, OkX g.p x) ∧ Hid (Below w.heap.size w wr)) (fun i _ => n - (intOf i).toNat)
  case atStart => exact ⟨0, by omega, rfl, by intro c hc; simp at hc, Below.refl _ _⟩
  case round =>
    obtain ⟨k, hk, rfl, hall, B⟩ := hrel
    by_cases hlt : k < n
    · obtain ⟨x, hx⟩ : ∃ x, xs[k]? = some x := ⟨_, List.getElem?_eq_getElem (by have := HN.out; omega)⟩
      obtain ⟨ba, oa, rfl, u0, u1, u2, u3⟩ := (H.out.later B.out).at4g k x hx _ _ _ _ rfl
      have hsz := B.out.size
      have HX := Lib.hid hx
      clear hx
      by_cases hc : OkX g.p x
      · have d1 := Lib.hid (fun w => CC.out x true ⟨fun _ => hc, fun _ => rfl⟩ w)
        have hall' : Hid (∀ x ∈ xs.take (k + 1), OkX g.p x) := take_allV hall.out HX.out hc
        clear hc hall CC
        go_wp2_with fail
        refine (d1.out _).mono ?_
        rintro e w3 ⟨rfl, b3⟩
        have B3 : Hid (Below w.heap.size w w3) := ((B.out.alloc hsz _)).trans (b3.mono (by simp; omega))
        clear b3 u0 u1 u2 u3
        go_wp2
        exact ⟨⟨k + 1, by omega, by go_num, hall', B3⟩, by simp only [intOf]; omega⟩
      · have d1 := Lib.hid (fun w => CC.out x false ⟨fun h => (by cases h), fun h => absurd h hc⟩ w)
        obtain rfl : b = false := b_false HB.out (fun h => hc (h x (List.mem_of_getElem? HX.out)))
        clear hc hall CC
        go_wp2_with fail
        refine (d1.out _).mono ?_
        rintro e w3 ⟨rfl, b3⟩
        have B3 : Hid (Below w.heap.size w w3) := ((B.out.alloc hsz _)).trans (b3.mono (by simp; omega))
        clear b3 u0 u1 u2 u3
        go_wp2
        go_ret
        exact ⟨rfl, B3.out⟩
    · obtain rfl : k = n := by omega
      obtain rfl : b = true := HB.out.mpr (by have := hall.out; rwa [List.take_of_length_le (by have := HN.out; omega)] at this)
      clear hall CC
      go_wp2
      go_ret
      exact ⟨rfl, B.out⟩

set_option maxRecDepth 100000 in
set_option maxHeartbeats 4000000 in
theorem implSurvey_any (g : Sv) (n0 : Nat) (w : World) (h : RdSv w n0 g) (l0 : n0 ≤ 1048576) (b : Bool) (hb : b = true ↔ OkSv g) :
    Calls Tryd.prog 82 #[(.agg #[.int .i64 g.p, .slice g.xa n0 g.xc])] w fun e w' => e = .returned (.bool b) ∧ Below w.heap.size w w' := by
  have e0 := h.len
  obtain ⟨b1, h1⟩ := bool_ofV (2 ≤ g.p ∧ g.p ≤ 5)
  have C1 := Lib.hid (fun w => within_any g.p 2 5 b1 h1 w)
  have H := Lib.hid h
  have E0 := Lib.hid e0
  have HB := Lib.hid hb
  have H1 := Lib.hid h1
  clear h hb h1 e0
  go_enter Tryd.func82, Tryd.ntmps82
  go_wp2_with fail
  refine (C1.out _).mono ?_
  rintro e w' ⟨rfl, rfl⟩
  cases b1 with
  | false =>
    obtain rfl : b = false := b_false HB.out (fun q => by have := H1.out.mpr q.p0; simp at this)
    go_wp2
    go_ret
    exact ⟨rfl, by go_grown⟩
  | true =>
  have hh := H1.out.mp (by trivial)
  by_cases n8 : 8 < n0
  · obtain rfl : b = false := b_false HB.out (fun q => by have := q.n0; have := E0.out; omega)
    have d2 : decide (n0 ≤ 8) = false := decide_eq_false (by omega)
    have d3 : decide ((n0 : Int) ≤ 8) = false := decide_eq_false (by omega)
    go_wp2
    go_ret
    exact ⟨rfl, by go_grown⟩
  have d2 : decide (n0 ≤ 8) = true := decide_eq_true (by omega)
  have d3 : decide ((n0 : Int) ≤ 8) = true := decide_eq_true (by omega)
  obtain ⟨b2, h2⟩ := bool_ofV (∀ x ∈ g.x, OkX g.p x)
  have C2 := Lib.hid (fun w h => everySight_any g n0 hh (.slice g.xa n0 g.xc) g.x w h (by have := E0.out; omega) b2 h2)
  obtain rfl : b = b2 := by
    rw [Bool.eq_iff_iff, HB.out, h2]
    exact ⟨fun q => q.x0, fun q => ⟨hh, by have := E0.out; omega, q⟩⟩
  clear h2 HB
  go_wp2_with fail
  refine (C2.out _ (H.out.r0.later (by go_grown))).mono ?_
  rintro e w2 ⟨rfl, b2'⟩
  have B2 : Hid (Below w.heap.size w w2) := Below.trans (by go_grown) (b2'.mono (by simp only [World.size_alloc]; omega))
  clear b2'
  go_wp2
  go_ret
  exact ⟨rfl, B2.out⟩


end Go.Proofs.YtcmocilojloolaaDoor
