/- Tubes, on both sides. -/
import Derived.Test.YtgockhlainnnnacDoorRingM
import Derived.Test.YtgockhlainnnnacDoorInts
import Derived.Deep.RegionHeld3
import Derived.StillTailTactics
import Derived.WalkSpells
namespace Go.Proofs.YtgockhlainnnnacDoor
open Go.ChangeShapes Go.WideShapes Go.ChangeAt Go.RowKit
set_option linter.unusedVariables false
set_option linter.unusedSimpArgs false

theorem RdS.at2 {w : World} {a : Option Addr} {n cap : Nat} {xs : List Rg} (h : RdS 2 encRg w (.slice a n cap) xs) (i : Nat) (x : Rg) (hx : xs[i]? = some x) :
    ∃ b off, a = some ⟨b, off, none⟩ ∧ w.cell? ⟨b, off + i * 2, none⟩ = some (.int .i64 x.k) ∧ w.cell? ⟨b, off + i * 2 + 1, none⟩ = some (.int .i64 x.y) := by
  obtain ⟨a', c', hv, h⟩ := h
  simp only [Value.slice.injEq] at hv
  obtain ⟨rfl, -, -⟩ := hv
  obtain ⟨b, off, rfl, h2⟩ := h.resolve_left (by intro e; rw [e] at hx; simp at hx)
  exact ⟨b, off, rfl, h2 i x hx 0 _ rfl, h2 i x hx 1 _ rfl⟩

theorem and15_fin : ∀ k : Fin 16, bits BinOp.and IntKind.u64 (k.val : Int) 15 = (k.val : Int) := by decide +kernel

theorem rot_fin : ∀ k : Fin 16, bits BinOp.or IntKind.u16 (IntKind.u16.wrap (9363 * 2 ^ k.val)) (9363 / 2 ^ (16 - k.val)) = jM (k.val : Int) := by decide +kernel

set_option maxHeartbeats 1000000 in
theorem rot_any (k : Nat) (hk : k < 16) (w : World) :
    Calls Tryd.prog 73 #[.int .u16 9363, .int .i64 k] w fun e w' => e = .returned (.int .u16 (jM k)) ∧ w' = w := by
  have q1 : bits BinOp.and IntKind.u64 (k : Int) 15 = (k : Int) := and15_fin ⟨k, hk⟩
  have q2 : IntKind.u64.wrap (k : Int) = (k : Int) := by rw [IntKind.wrap_u64]; omega
  have q3 : IntKind.u64.wrap (16 - (k : Int)) = 16 - (k : Int) := by rw [IntKind.wrap_u64]; omega
  have h1 : (0 : Int) ≤ k := by omega
  have h2 : (0 : Int) ≤ 16 - k := by omega
  have h3 : (k : Int) < 16 := by omega
  go_enter Tryd.func73, Tryd.ntmps73
  go_wp2
  go_ret
  refine ⟨?_, rfl⟩
  show Ending.returned (.int .u16 _) = _
  rw [rot_fin ⟨k, hk⟩]

set_option maxHeartbeats 1000000 in
theorem joints_any (q : Rg) (h : OkR q) (w : World) :
    Calls Tryd.prog 44 #[(.agg #[.int .i64 q.k, .int .i64 q.y])] w fun e w' => e = .returned (.int .u16 (jM q.y)) ∧ Below w.heap.size w w' := by
  obtain ⟨k, hk⟩ : ∃ k : Nat, q.y = k := ⟨q.y.toNat, by have := h.2; omega⟩
  have c := Lib.hid (fun w => rot_any k (by have := h.2; omega) w)
  rw [hk]
  rw [← hk] at c
  rw [← hk]
  clear hk h
  go_enter Tryd.func44, Tryd.ntmps44
  go_wp2_with fail
  refine (c.out _).mono ?_
  rintro e w' ⟨rfl, rfl⟩
  go_wp2
  go_ret
  exact ⟨rfl, by go_grown⟩

set_option maxHeartbeats 1000000 in
theorem meeting_any (q r : Rg) (hq : OkR q) (hr : OkR r) (m : Int) (hm : bits BinOp.and IntKind.u16 (jM q.y) (jM r.y) = m) (w : World) :
    Calls Tryd.prog 47 #[(.agg #[.int .i64 q.k, .int .i64 q.y]), (.agg #[.int .i64 r.k, .int .i64 r.y])] w fun e w' => e = .returned (.int .u16 m) ∧ Below w.heap.size w w' := by
  have c1 := Lib.hid (fun w => joints_any q hq w)
  have c2 := Lib.hid (fun w => joints_any r hr w)
  have HM := Lib.hid hm
  have KS : Hid (∀ w', Below (w.heap.size + 2) ((w.alloc (.cells #[.int .i64 q.k, .int .i64 q.y] 35)).alloc (.cells #[.int .i64 r.k, .int .i64 r.y] 35)) w' → (w'.cell? ⟨w.heap.size, 0, none⟩ = some (.int .i64 q.k) ∧ w'.cell? ⟨w.heap.size, 1, none⟩ = some (.int .i64 q.y) ∧ w'.cell? ⟨w.heap.size + 1, 0, none⟩ = some (.int .i64 r.k) ∧ w'.cell? ⟨w.heap.size + 1, 1, none⟩ = some (.int .i64 r.y))) := by
    intro w' b
    obtain ⟨⟨a0, a1⟩, -⟩ := boxRg_at ((b.block w.heap.size (by omega)).trans (heap_alloc2_old w _ _))
    obtain ⟨⟨a2, a3⟩, -⟩ := boxRg_at ((b.block (w.heap.size + 1) (by omega)).trans (heap_alloc2_new w _ _))
    exact ⟨a0, a1, a2, a3⟩
  have G0 : Hid (Below w.heap.size w ((w.alloc (.cells #[.int .i64 q.k, .int .i64 q.y] 35)).alloc (.cells #[.int .i64 r.k, .int .i64 r.y] 35))) := by show Below _ _ _; go_grown
  clear hq hr hm
  go_enter Tryd.func47, Tryd.ntmps47
  go_wp2_with fail
  go_region_held3 (fun w' => (w'.cell? ⟨w.heap.size, 0, none⟩ = some (.int .i64 q.k) ∧ w'.cell? ⟨w.heap.size, 1, none⟩ = some (.int .i64 q.y) ∧ w'.cell? ⟨w.heap.size + 1, 0, none⟩ = some (.int .i64 r.k) ∧ w'.cell? ⟨w.heap.size + 1, 1, none⟩ = some (.int .i64 r.y)))
    (first | exact KS.out _ B2.out | exact KS.out _ B1.out | exact KS.out _ (Below.refl _ _).drew)
    (first
      | (go_at_call 44; (first | with_reducible refine (c1.out _).mono ?_ | with_reducible refine (c2.out _).mono ?_); rintro e w2 ⟨rfl, b2⟩; have B2 : Hid (Below (w.heap.size + 2) ((w.alloc (.cells #[.int .i64 q.k, .int .i64 q.y] 35)).alloc (.cells #[.int .i64 r.k, .int .i64 r.y] 35)) w2) := B1.out.trans (b2.mono (by have e := B1.out.size; simp only [World.size_alloc] at e; exact e)))
      | (go_at_call 44; (first | with_reducible refine (c1.out _).mono ?_ | with_reducible refine (c2.out _).mono ?_); rintro e w1 ⟨rfl, b1⟩; have B1 : Hid (Below (w.heap.size + 2) ((w.alloc (.cells #[.int .i64 q.k, .int .i64 q.y] 35)).alloc (.cells #[.int .i64 r.k, .int .i64 r.y] 35)) w1) := (Below.refl _ _).drew.trans (b1.mono (by simp))))
  go_wp2
  go_ret
  have z := B2.out
  exact ⟨by first | (have := HM.out; simp_all; done) | (rw [← HM.out]; rfl), G0.out.trans (z.mono (by omega))⟩

set_option maxRecDepth 100000 in
set_option maxHeartbeats 2000000 in
theorem everyRing_any (v : Value) (xs : List Rg) (w : World) (h : RdS 2 encRg w v xs) (lz : xs.length ≤ 1048576) (b : Bool) (hb : b = true ↔ ∀ c ∈ xs, OkR c) :
    Calls Tryd.prog 50 #[v, .func (.func 43) #[] #[]] w fun e w' => e = .returned (.bool b) ∧ Below w.heap.size w w' := by
  have H := Lib.hid h
  have HB := Lib.hid hb
  obtain ⟨a, cap, rfl, _⟩ := h
  obtain ⟨n, hn⟩ : ∃ n, n = xs.length := ⟨_, rfl⟩
  rw [← hn] at H lz
  rw [← hn]
  have HN := Lib.hid hn
  clear hn hb
  go_enter Tryd.func50, Tryd.ntmps50
  go_wp2
  go_loopw [9] (fun i wr => ∃ k : Nat, k ≤ n ∧ i = .int .i64 k ∧ Hid (∀ c ∈ xs.take k, OkR c) ∧ Hid (Below w.heap.size w wr)) (fun i _ => n - (intOf i).toNat)
  case atStart => exact ⟨0, by omega, rfl, by intro c hc; simp at hc, Below.refl _ _⟩
  case round =>
    obtain ⟨k, hk, rfl, hall, B⟩ := hrel
    by_cases hlt : k < n
    · obtain ⟨c, hx⟩ : ∃ x, xs[k]? = some x := ⟨_, List.getElem?_eq_getElem (by have := HN.out; omega)⟩
      obtain ⟨ba, oa, rfl, e0, e1⟩ := (H.out.later B.out).at2 k c hx
      have hsz := B.out.size
      by_cases hc : OkR c
      · have d1 := Lib.hid (fun w => implRing_any c true ⟨fun _ => hc, fun _ => rfl⟩ w)
        have hall' : Hid (∀ c ∈ xs.take (k + 1), OkR c) := by
          intro d hd
          rw [List.take_add_one, hx] at hd
          simp at hd
          rcases hd with hd | rfl
          · exact hall.out d hd
          · exact hc
        clear hx hc hall
        go_wp2_with fail
        refine (d1.out _).mono ?_
        rintro e w3 ⟨rfl, b3⟩
        have B3 : Hid (Below w.heap.size w w3) := ((B.out.alloc hsz _)).trans (b3.mono (by simp; omega))
        clear b3 e0 e1
        go_wp2
        exact ⟨⟨k + 1, by omega, by go_num, hall', B3⟩, by simp only [intOf]; omega⟩
      · have d1 := Lib.hid (fun w => implRing_any c false ⟨fun h => (by cases h), fun h => absurd h hc⟩ w)
        obtain rfl : b = false := b_false HB.out (fun h => hc (h c (List.mem_of_getElem? hx)))
        clear hx hc hall
        go_wp2_with fail
        refine (d1.out _).mono ?_
        rintro e w3 ⟨rfl, b3⟩
        have B3 : Hid (Below w.heap.size w w3) := ((B.out.alloc hsz _)).trans (b3.mono (by simp; omega))
        clear b3 e0 e1
        go_wp2
        go_ret
        exact ⟨rfl, B3.out⟩
    · obtain rfl : k = n := by omega
      obtain rfl : b = true := HB.out.mpr (by have := hall.out; rwa [List.take_of_length_le (by have := HN.out; omega)] at this)
      go_wp2
      go_ret
      exact ⟨rfl, B.out⟩

/-- No two neighbouring ones of the first k rings have joints that meet. -/
def FreeTo (xs : List Rg) (k : Nat) : Prop := ∀ i r s, i + 1 < k → xs[i]? = some r → xs[i + 1]? = some s → Free r.y s.y

theorem FreeTo.succ {xs : List Rg} {k : Nat} {r s : Rg} (h : FreeTo xs (k + 1)) (hr : xs[k]? = some r) (hs : xs[k + 1]? = some s) (hf : Free r.y s.y) : FreeTo xs (k + 2) := by
  intro i r' s' hi h1 h2
  by_cases e : i = k
  · subst e
    obtain rfl := Option.some.inj (hr.symm.trans h1)
    obtain rfl := Option.some.inj (hs.symm.trans h2)
    exact hf
  · exact h i r' s' (by omega) h1 h2

theorem FreeTo.one (xs : List Rg) : FreeTo xs 1 := by intro i r s hi; omega

set_option maxHeartbeats 2000000 in
theorem apart1_any (q r : Rg) (hq : OkR q) (hr : OkR r) (b : Bool) (hb : b = true ↔ Free q.y r.y) (w : World) :
    Calls Tryd.prog 52 #[(.agg #[.int .i64 q.k, .int .i64 q.y]), (.agg #[.int .i64 r.k, .int .i64 r.y])] w fun e w' => e = .returned (.bool b) ∧ Below w.heap.size w w' := by
  obtain ⟨m, hm⟩ : ∃ m, bits BinOp.and IntKind.u16 (jM q.y) (jM r.y) = m := ⟨_, rfl⟩
  have e : ((m == 0) : Bool) = b := by
    have h := free_bits q.y r.y hq.2 hr.2
    rw [hm, ← hb] at h
    cases b with
    | true => simpa using h.2 rfl
    | false => simp only [beq_eq_false_iff_ne]; exact fun e => by have := h.1 e; cases this
  have C := Lib.hid (fun w => meeting_any q r hq hr m hm w)
  have E := Lib.hid e
  clear hm hq hr hb e
  go_enter Tryd.func52, Tryd.ntmps52
  go_wp2_with fail
  refine (C.out _).mono ?_
  rintro e w1 ⟨rfl, b1⟩
  have B1 : Hid (Below w.heap.size w w1) := (show Below w.heap.size w _ by go_grown).trans (b1.mono (by have := b1.size; first | exact Nat.le_refl _ | (simp only [World.size_alloc]; omega)))
  clear b1
  go_wp2
  go_ret
  exact ⟨by rw [← E.out]; rfl, B1.out⟩

set_option maxRecDepth 100000 in
set_option maxHeartbeats 4000000 in
theorem everyTwo_apart (v : Value) (xs : List Rg) (w : World) (h : RdS 2 encRg w v xs) (lz : xs.length ≤ 1048576) (hA : ∀ c ∈ xs, OkR c) (b : Bool) (hb : b = true ↔ FreeTo xs xs.length) :
    Calls Tryd.prog 51 #[v, .func (Fn.func 52) #[] #[]] w fun e w' => e = .returned (.bool b) ∧ Below w.heap.size w w' := by
  have H := Lib.hid h
  have HA := Lib.hid hA
  obtain ⟨a, cap, rfl, -⟩ := h
  obtain ⟨n, hn⟩ : ∃ n, n = xs.length := ⟨_, rfl⟩
  rw [← hn] at lz H hb
  rw [← hn]
  have HN := Lib.hid hn
  have HB := Lib.hid hb
  clear hn hb hA
  go_enter Tryd.func51, Tryd.ntmps51
  go_wp2
  go_loopw [5] (fun i wr => ∃ k : Nat, 1 ≤ k ∧ k ≤ n + 1 ∧ i = .int .i64 k ∧ Hid (FreeTo xs k) ∧ Hid (Below w.heap.size w wr)) (fun i _ => n + 1 - (intOf i).toNat)
  case atStart => exact ⟨1, by omega, by omega, rfl, FreeTo.one xs, Below.refl _ _⟩
  case round =>
    obtain ⟨k, k1, hk, rfl, ha, B⟩ := hrel
    have sz := B.out.size
    by_cases hlt : k < n
    · obtain ⟨j, hj⟩ : ∃ j, k = j + 1 := ⟨k - 1, by omega⟩
      obtain ⟨x, hx⟩ : ∃ x, xs[j]? = some x := ⟨_, List.getElem?_eq_getElem (by have := HN.out; omega)⟩
      obtain ⟨y, hy⟩ : ∃ y, xs[k]? = some y := ⟨_, List.getElem?_eq_getElem (by have := HN.out; omega)⟩
      obtain ⟨ba, oa, rfl, a0, a1⟩ := (H.out.later B.out).at2 j x hx
      obtain ⟨bb, ob, eb, b0, b1⟩ := (H.out.later B.out).at2 k y hy
      simp only [Option.some.injEq, Addr.mk.injEq, and_true] at eb
      obtain ⟨rfl, rfl⟩ := eb
      have la : ba < wr.heap.size := World.block_lt_of_cell? wr _ a0
      have okx := HA.out x (List.mem_of_getElem? hx)
      have oky := HA.out y (List.mem_of_getElem? hy)
      have HX := Lib.hid hx
      have HY := Lib.hid hy
      have HJ := Lib.hid hj
      have q1 : IntKind.i64.wrap ((k : Int) - 1) = (j : Int) := by rw [IntWalk.i64_in _ (by omega)]; omega
      have jn : j < n := by omega
      obtain ⟨bv, hbv⟩ : ∃ bv : Bool, bv = true ↔ Free x.y y.y := by
        by_cases g : Free x.y y.y
        · exact ⟨true, fun _ => g, fun _ => rfl⟩
        · exact ⟨false, fun e => (by cases e), fun e => absurd e g⟩
      have C := Lib.hid (fun w => apart1_any x y okx oky bv hbv w)
      have BV := Lib.hid hbv
      have KS : Hid (∀ w', Below wr.heap.size wr w' → (w'.cell? ⟨ba, oa + j * 2, none⟩ = some (.int .i64 x.k) ∧ w'.cell? ⟨ba, oa + j * 2 + 1, none⟩ = some (.int .i64 x.y) ∧ w'.cell? ⟨ba, oa + k * 2, none⟩ = some (.int .i64 y.k) ∧ w'.cell? ⟨ba, oa + k * 2 + 1, none⟩ = some (.int .i64 y.y))) :=
        fun w' b => ⟨(b.cell (p := ⟨ba, oa + j * 2, none⟩) la).trans a0, (b.cell (p := ⟨ba, oa + j * 2 + 1, none⟩) la).trans a1, (b.cell (p := ⟨ba, oa + k * 2, none⟩) la).trans b0, (b.cell (p := ⟨ba, oa + k * 2 + 1, none⟩) la).trans b1⟩
      clear hx hy hj hbv a0 a1 b0 b1 la okx oky
      go_wp2
      go_region_held3 (fun w' => (w'.cell? ⟨ba, oa + j * 2, none⟩ = some (.int .i64 x.k) ∧ w'.cell? ⟨ba, oa + j * 2 + 1, none⟩ = some (.int .i64 x.y) ∧ w'.cell? ⟨ba, oa + k * 2, none⟩ = some (.int .i64 y.k) ∧ w'.cell? ⟨ba, oa + k * 2 + 1, none⟩ = some (.int .i64 y.y)))
        (first | exact KS.out _ D1.out | exact KS.out _ (Below.refl _ _).drew)
        ((go_at_call 52; refine (C.out _).mono ?_; rintro e w1 ⟨rfl, b1⟩; have D1 : Hid (Below wr.heap.size wr w1) := (Below.refl _ _).drew.trans b1))
      rename_i hHeld
      have B2 : Hid (Below w.heap.size w w1) := B.out.trans (D1.out.mono sz)
      clear hHeld D1 KS C B b1
      cases bv with
      | true =>
        have A1 : Hid (FreeTo xs (k + 1)) := by
          have e := HJ.out
          have h2 := ha.out
          have hy := HY.out
          show FreeTo _ _
          rw [e] at h2 hy ⊢
          exact FreeTo.succ h2 HX.out hy (BV.out.mp (by simp))
        clear ha
        go_wp2
        exact ⟨⟨k + 1, by omega, by omega, by go_num, A1, B2⟩, by simp only [intOf]; omega⟩
      | false =>
        obtain rfl : b = false := b_false HB.out (fun hA => by have e := hA j x y (by have := HJ.out; omega) HX.out (by rw [← HJ.out]; exact HY.out); have := BV.out.mpr e; cases this)
        clear ha
        go_wp2
        go_ret
        exact ⟨rfl, B2.out⟩
    · obtain rfl : b = true := HB.out.mpr (fun i x y hi hx hy => ha.out i x y (by omega) hx hy)
      clear ha
      go_wp2
      go_ret
      exact ⟨rfl, B.out⟩

set_option maxRecDepth 100000 in
set_option maxHeartbeats 4000000 in
theorem implTube_any (v : Value) (xs : List Rg) (w : World) (h : RdS 2 encRg w v xs) (lz : xs.length ≤ 1048576) (b : Bool) (hb : b = true ↔ OkT xs) :
    Calls Tryd.prog 26 #[v] w fun e w' => e = .returned (.bool b) ∧ Below w.heap.size w w' := by
  have H := Lib.hid h
  have HB := Lib.hid hb
  obtain ⟨a, cap, rfl, _⟩ := h
  obtain ⟨n, hn⟩ : ∃ n, n = xs.length := ⟨_, rfl⟩
  by_cases h1 : n ≤ 60
  · obtain ⟨b1, hb1⟩ : ∃ b1 : Bool, b1 = true ↔ ∀ c ∈ xs, OkR c := by
      by_cases h : ∀ c ∈ xs, OkR c
      · exact ⟨true, fun _ => h, fun _ => rfl⟩
      · exact ⟨false, fun e => (by cases e), fun e => absurd e h⟩
    have c1 := Lib.hid (fun w (hr : RdS 2 encRg w (.slice a n cap) xs) => everyRing_any _ xs w hr (by omega) b1 hb1)
    have FB : b = true ↔ b1 = true ∧ FreeTo xs xs.length := hb.trans ⟨fun h => ⟨hb1.2 h.2.1, fun i r s hi h1 h2 => h.2.2 i r s h1 h2⟩, fun h => ⟨by omega, hb1.1 h.1, fun i r s h1 h2 => h.2 i r s (by have := (List.getElem?_eq_some_iff.1 h2).1; omega) h1 h2⟩⟩
    have c2 := Lib.hid (fun (e : b1 = true) w (hr : RdS 2 encRg w (.slice a n cap) xs) => everyTwo_apart _ xs w hr lz (hb1.1 e) b (FB.trans ⟨fun h => h.2, fun h => ⟨e, h⟩⟩))
    rw [← hn] at H lz
    rw [← hn]
    have FB' := Lib.hid FB
    have g60 : decide ((n : Int) ≤ 60) = true := decide_eq_true (by omega)
    clear hn hb hb1 FB HB
    cases b1 with
    | false =>
      obtain rfl : b = false := b_false FB'.out (fun h => by cases h.1)
      go_enter Tryd.func26, Tryd.ntmps26
      go_wp2_with fail
      refine (c1.out _ H.out).mono ?_
      rintro e w1 ⟨rfl, b1⟩
      have B1 := Lib.hid b1
      clear b1 c1 c2
      go_wp2
      go_ret
      exact ⟨rfl, B1.out⟩
    | true =>
      have C2 := Lib.hid (c2.out rfl)
      clear c2
      go_enter Tryd.func26, Tryd.ntmps26
      go_wp2_with fail
      refine (c1.out _ H.out).mono ?_
      rintro e w1 ⟨rfl, b1⟩
      have B1 := Lib.hid b1
      clear b1 c1
      go_wp2_with fail
      refine (C2.out _ (H.out.later B1.out)).mono ?_
      rintro e w2 ⟨rfl, b2⟩
      have B2 : Hid (Below w.heap.size w w2) := B1.out.trans (b2.mono B1.out.size)
      clear b2
      go_wp2
      go_ret
      exact ⟨rfl, B2.out⟩
  · obtain rfl : b = false := b_false hb (fun h => h1 (by have := h.1; omega))
    have g60 : decide ((n : Int) ≤ 60) = false := decide_eq_false (by omega)
    have g61 : 60 < n := by omega
    rw [← hn]
    clear hn hb h1
    go_enter Tryd.func26, Tryd.ntmps26
    go_wp2
    go_ret
    exact ⟨rfl, Below.refl _ _⟩
end Go.Proofs.YtgockhlainnnnacDoor
