/- Tubes, on both sides. -/
import Derived.Test.YtgokhbcifgikgaaDoorRingM
import Derived.Test.YtgokhbcifgikgaaDoorInts
import Derived.Deep.RegionHeld3
import Derived.StillTailTactics
import Derived.WalkSpells
namespace Go.Proofs.YtgokhbcifgikgaaDoor
open Go.ChangeShapes Go.WideShapes Go.ChangeAt Go.RowKit
set_option linter.unusedVariables false
set_option linter.unusedSimpArgs false

theorem RdS.at2 {w : World} {a : Option Addr} {n cap : Nat} {xs : List Rg} (h : RdS 2 encRg w (.slice a n cap) xs) (i : Nat) (x : Rg) (hx : xs[i]? = some x) :
    ∃ b off, a = some ⟨b, off, none⟩ ∧ w.cell? ⟨b, off + i * 2, none⟩ = some (.int .i64 x.k) ∧ w.cell? ⟨b, off + i * 2 + 1, none⟩ = some (.int .i64 x.y) := by
  obtain ⟨a', c', hv, h⟩ := h
  simp only [Value.slice.injEq] at hv
  obtain ⟨rfl, -, -⟩ := hv
  obtain ⟨b, off, rfl, h2⟩ := h.resolve_left (by intro e; rw [e] at hx; simp at hx)
  exact ⟨b, off, rfl, h2 i x hx 0 _ rfl, h2 i x hx 1 _ rfl⟩

theorem and15_fin : ∀ k : Fin 16, bits BinOp.and IntKind.u64 (k.val : Int) 15 = (k.val : Int) := by decide +kernel

theorem rot_fin : ∀ k : Fin 16, bits BinOp.or IntKind.u16 (IntKind.u16.wrap (9363 * 2 ^ k.val)) (9363 / 2 ^ (16 - k.val)) = jM (k.val : Int) := by decide +kernel

set_option maxHeartbeats 1000000 in
theorem rot_any (k : Nat) (hk : k < 16) (w : World) :
    Calls Tryd.prog 82 #[.int .u16 9363, .int .i64 k] w fun e w' => e = .returned (.int .u16 (jM k)) ∧ w' = w := by
  have q1 : bits BinOp.and IntKind.u64 (k : Int) 15 = (k : Int) := and15_fin ⟨k, hk⟩
  have q2 : IntKind.u64.wrap (k : Int) = (k : Int) := by rw [IntKind.wrap_u64]; omega
  have q3 : IntKind.u64.wrap (16 - (k : Int)) = 16 - (k : Int) := by rw [IntKind.wrap_u64]; omega
  have h1 : (0 : Int) ≤ k := by omega
  have h2 : (0 : Int) ≤ 16 - k := by omega
  have h3 : (k : Int) < 16 := by omega
  go_enter Tryd.func82, Tryd.ntmps82
  go_wp2
  go_ret
  refine ⟨?_, rfl⟩
  show Ending.returned (.int .u16 _) = _
  rw [rot_fin ⟨k, hk⟩]

set_option maxHeartbeats 1000000 in
theorem joints_any (q : Rg) (h : OkR q) (w : World) :
    Calls Tryd.prog 56 #[(.agg #[.int .i64 q.k, .int .i64 q.y])] w fun e w' => e = .returned (.int .u16 (jM q.y)) ∧ Below w.heap.size w w' := by
  obtain ⟨k, hk⟩ : ∃ k : Nat, q.y = k := ⟨q.y.toNat, by have := h.2; omega⟩
  have c := Lib.hid (fun w => rot_any k (by have := h.2; omega) w)
  rw [hk]
  rw [← hk] at c
  rw [← hk]
  clear hk h
  go_enter Tryd.func56, Tryd.ntmps56
  go_wp2_with fail
  refine (c.out _).mono ?_
  rintro e w' ⟨rfl, rfl⟩
  go_wp2
  go_ret
  exact ⟨rfl, by go_grown⟩

set_option maxHeartbeats 1000000 in
theorem meeting_any (q r : Rg) (hq : OkR q) (hr : OkR r) (m : Int) (hm : bits BinOp.and IntKind.u16 (jM q.y) (jM r.y) = m) (w : World) :
    Calls Tryd.prog 59 #[(.agg #[.int .i64 q.k, .int .i64 q.y]), (.agg #[.int .i64 r.k, .int .i64 r.y])] w fun e w' => e = .returned (.int .u16 m) ∧ Below w.heap.size w w' := by
  have c1 := Lib.hid (fun w => joints_any q hq w)
  have c2 := Lib.hid (fun w => joints_any r hr w)
  have HM := Lib.hid hm
  have KS : Hid (∀ w', Below (w.heap.size + 2) ((w.alloc (.cells #[.int .i64 q.k, .int .i64 q.y] 26)).alloc (.cells #[.int .i64 r.k, .int .i64 r.y] 26)) w' → (w'.cell? ⟨w.heap.size, 0, none⟩ = some (.int .i64 q.k) ∧ w'.cell? ⟨w.heap.size, 1, none⟩ = some (.int .i64 q.y) ∧ w'.cell? ⟨w.heap.size + 1, 0, none⟩ = some (.int .i64 r.k) ∧ w'.cell? ⟨w.heap.size + 1, 1, none⟩ = some (.int .i64 r.y))) := by
    intro w' b
    obtain ⟨⟨a0, a1⟩, -⟩ := boxRg_at ((b.block w.heap.size (by omega)).trans (heap_alloc2_old w _ _))
    obtain ⟨⟨a2, a3⟩, -⟩ := boxRg_at ((b.block (w.heap.size + 1) (by omega)).trans (heap_alloc2_new w _ _))
    exact ⟨a0, a1, a2, a3⟩
  have G0 : Hid (Below w.heap.size w ((w.alloc (.cells #[.int .i64 q.k, .int .i64 q.y] 26)).alloc (.cells #[.int .i64 r.k, .int .i64 r.y] 26))) := by show Below _ _ _; go_grown
  clear hq hr hm
  go_enter Tryd.func59, Tryd.ntmps59
  go_wp2_with fail
  go_region_held3 (fun w' => (w'.cell? ⟨w.heap.size, 0, none⟩ = some (.int .i64 q.k) ∧ w'.cell? ⟨w.heap.size, 1, none⟩ = some (.int .i64 q.y) ∧ w'.cell? ⟨w.heap.size + 1, 0, none⟩ = some (.int .i64 r.k) ∧ w'.cell? ⟨w.heap.size + 1, 1, none⟩ = some (.int .i64 r.y)))
    (first | exact KS.out _ B2.out | exact KS.out _ B1.out | exact KS.out _ (Below.refl _ _).drew)
    (first
      | (go_at_call 56; (first | with_reducible refine (c1.out _).mono ?_ | with_reducible refine (c2.out _).mono ?_); rintro e w2 ⟨rfl, b2⟩; have B2 : Hid (Below (w.heap.size + 2) ((w.alloc (.cells #[.int .i64 q.k, .int .i64 q.y] 26)).alloc (.cells #[.int .i64 r.k, .int .i64 r.y] 26)) w2) := B1.out.trans (b2.mono (by have e := B1.out.size; simp only [World.size_alloc] at e; exact e)))
      | (go_at_call 56; (first | with_reducible refine (c1.out _).mono ?_ | with_reducible refine (c2.out _).mono ?_); rintro e w1 ⟨rfl, b1⟩; have B1 : Hid (Below (w.heap.size + 2) ((w.alloc (.cells #[.int .i64 q.k, .int .i64 q.y] 26)).alloc (.cells #[.int .i64 r.k, .int .i64 r.y] 26)) w1) := (Below.refl _ _).drew.trans (b1.mono (by simp))))
  go_wp2
  go_ret
  have z := B2.out
  exact ⟨by first | (have := HM.out; simp_all; done) | (rw [← HM.out]; rfl), G0.out.trans (z.mono (by omega))⟩

set_option maxRecDepth 100000 in
set_option maxHeartbeats 2000000 in
theorem everyRing_any (v : Value) (xs : List Rg) (w : World) (h : RdS 2 encRg w v xs) (lz : xs.length ≤ 1048576) (b : Bool) (hb : b = true ↔ ∀ c ∈ xs, OkR c) :
    Calls Tryd.prog 62 #[v, .func (.func 53) #[] #[]] w fun e w' => e = .returned (.bool b) ∧ Below w.heap.size w w' := by
  have H := Lib.hid h
  have HB := Lib.hid hb
  obtain ⟨a, cap, rfl, _⟩ := h
  obtain ⟨n, hn⟩ : ∃ n, n = xs.length := ⟨_, rfl⟩
  rw [← hn] at H lz
  rw [← hn]
  have HN := Lib.hid hn
  clear hn hb
  go_enter Tryd.func62, Tryd.ntmps62
  go_wp2
  go_loopw [9] (fun i wr => ∃ k : Nat, k ≤ n ∧ i = .int .i64 k ∧ Hid (∀ c ∈ xs.take k, OkR c) ∧ Hid (Below w.heap.size w wr)) (fun i _ => n - (intOf i).toNat)
  case atStart => exact ⟨0, by omega, rfl, by intro c hc; simp at hc, Below.refl _ _⟩
  case round =>
    obtain ⟨k, hk, rfl, hall, B⟩ := hrel
    by_cases hlt : k < n
    · obtain ⟨c, hx⟩ : ∃ x, xs[k]? = some x := ⟨_, List.getElem?_eq_getElem (by have := HN.out; omega)⟩
      obtain ⟨ba, oa, rfl, e0, e1⟩ := (H.out.later B.out).at2 k c hx
      have hsz := B.out.size
      by_cases hc : OkR c
      · have d1 := Lib.hid (fun w => implRing_any c true ⟨fun _ => hc, fun _ => rfl⟩ w)
        have hall' : Hid (∀ c ∈ xs.take (k + 1), OkR c) := by
          intro d hd
          rw [List.take_add_one, hx] at hd
          simp at hd
          rcases hd with hd | rfl
          · exact hall.out d hd
          · exact hc
        clear hx hc hall
        go_wp2_with fail
        refine (d1.out _).mono ?_
        rintro e w3 ⟨rfl, b3⟩
        have B3 : Hid (Below w.heap.size w w3) := ((B.out.alloc hsz _)).trans (b3.mono (by simp; omega))
        clear b3 e0 e1
        go_wp2
        exact ⟨⟨k + 1, by omega, by go_num, hall', B3⟩, by simp only [intOf]; omega⟩
      · have d1 := Lib.hid (fun w => implRing_any c false ⟨fun h => (by cases h), fun h => absurd h hc⟩ w)
        obtain rfl : b = false := b_false HB.out (fun h => hc (h c (List.mem_of_getElem? hx)))
        clear hx hc hall
        go_wp2_with fail
        refine (d1.out _).mono ?_
        rintro e w3 ⟨rfl, b3⟩
        have B3 : Hid (Below w.heap.size w w3) := ((B.out.alloc hsz _)).trans (b3.mono (by simp; omega))
        clear b3 e0 e1
        go_wp2
        go_ret
        exact ⟨rfl, B3.out⟩
    · obtain rfl : k = n := by omega
      obtain rfl : b = true := HB.out.mpr (by have := hall.out; rwa [List.take_of_length_le (by have := HN.out; omega)] at this)
      go_wp2
      go_ret
      exact ⟨rfl, B.out⟩

/-- No two neighbouring ones of the first k rings have joints that meet. -/
def FreeTo (xs : List Rg) (k : Nat) : Prop := ∀ i r s, i + 1 < k → xs[i]? = some r → xs[i + 1]? = some s → Free r.y s.y

theorem FreeTo.succ {xs : List Rg} {k : Nat} {r s : Rg} (h : FreeTo xs (k + 1)) (hr : xs[k]? = some r) (hs : xs[k + 1]? = some s) (hf : Free r.y s.y) : FreeTo xs (k + 2) := by
  intro i r' s' hi h1 h2
  by_cases e : i = k
  · subst e
    obtain rfl := Option.some.inj (hr.symm.trans h1)
    obtain rfl := Option.some.inj (hs.symm.trans h2)
    exact hf
  · exact h i r' s' (by omega) h1 h2

theorem FreeTo.one (xs : List Rg) : FreeTo xs 1 := by intro i r s hi; omega

set_option maxRecDepth 100000 in
set_option maxHeartbeats 4000000 in
theorem implTube_any (v : Value) (xs : List Rg) (w : World) (h : RdS 2 encRg w v xs) (lz : xs.length ≤ 1048576) (b : Bool) (hb : b = true ↔ OkT xs) :
    Calls Tryd.prog 27 #[v] w fun e w' => e = .returned (.bool b) ∧ Below w.heap.size w w' := by
  have H := Lib.hid h
  have HB := Lib.hid hb
  obtain ⟨a, cap, rfl, _⟩ := h
  obtain ⟨n, hn⟩ : ∃ n, n = xs.length := ⟨_, rfl⟩
  by_cases h1 : n ≤ 60
  · obtain ⟨b1, hb1⟩ : ∃ b1 : Bool, b1 = true ↔ ∀ c ∈ xs, OkR c := by
      by_cases h : ∀ c ∈ xs, OkR c
      · exact ⟨true, fun _ => h, fun _ => rfl⟩
      · exact ⟨false, fun e => (by cases e), fun e => absurd e h⟩
    have c1 := Lib.hid (fun w (hr : RdS 2 encRg w (.slice a n cap) xs) => everyRing_any _ xs w hr (by omega) b1 hb1)
    rw [← hn] at H lz
    rw [← hn]
    have HN := Lib.hid hn
    have HB1 := Lib.hid hb1
    have g60 : ¬ (60 < n) := by omega
    clear hn hb hb1
    cases b1 with
    | false =>
      obtain rfl : b = false := b_false HB.out (fun h => by have := HB1.out.mpr h.2.1; cases this)
      go_enter Tryd.func27, Tryd.ntmps27
      go_wp2_with fail
      refine (c1.out _ H.out).mono ?_
      rintro e w1 ⟨rfl, b1⟩
      have B1 := Lib.hid b1
      clear b1
      go_wp2
      go_ret
      exact ⟨rfl, B1.out⟩
    | true =>
      have HA : Hid (∀ c ∈ xs, OkR c) := HB1.out.mp rfl
      go_enter Tryd.func27, Tryd.ntmps27
      go_wp2_with fail
      refine (c1.out _ H.out).mono ?_
      rintro e w1 ⟨rfl, b1⟩
      have B1 := Lib.hid b1
      clear b1 c1
      go_wp2
      go_loopw [3] (fun i wr => ∃ k m : Nat, (m ≤ n ∨ k = 0) ∧ Hid (m = k + 1) ∧ i = .int .i64 (m : Int) ∧ Hid (FreeTo xs m) ∧ Hid (Below w.heap.size w wr)) (fun i _ => n + 1 - (intOf i).toNat)
      case atStart => exact ⟨0, 1, .inr rfl, rfl, rfl, FreeTo.one xs, B1⟩
      case round =>
        obtain ⟨k, m1, hk, hm1, rfl, hall, B⟩ := hrel
        clear B1
        by_cases hlt : m1 < n
        · obtain ⟨r, hr⟩ : ∃ x, xs[k]? = some x := ⟨_, List.getElem?_eq_getElem (by have := HN.out; have := hm1.out; omega)⟩
          obtain ⟨s, hs⟩ : ∃ x, xs[m1]? = some x := ⟨_, List.getElem?_eq_getElem (by have := HN.out; omega)⟩
          obtain ⟨ba, oa, rfl, e0, e1⟩ := (H.out.later B.out).at2 k r hr
          obtain ⟨ba', oa', hba, e2, e3⟩ := (H.out.later B.out).at2 m1 s hs
          simp only [Option.some.injEq, Addr.mk.injEq, and_true] at hba
          obtain ⟨rfl, rfl⟩ := hba
          have hsz := B.out.size
          have okr := HA.out r (List.mem_of_getElem? hr)
          have oks := HA.out s (List.mem_of_getElem? hs)
          have q1 : IntKind.i64.wrap ((m1 : Int) - 1) = (k : Int) := by rw [show (m1 : Int) - 1 = (k : Int) by have := hm1.out; omega]; exact IntWalk.i64_in _ (by have := hm1.out; omega)
          have kn : k < n := by have := hm1.out; omega
          have HR := Lib.hid hr
          have HS := Lib.hid hs
          clear hr hs
          obtain ⟨m, hm⟩ : ∃ m, bits BinOp.and IntKind.u16 (jM s.y) (jM r.y) = m := ⟨_, rfl⟩
          have hfm : m = 0 ↔ Free r.y s.y := by rw [← hm, free_bits _ _ oks.2 okr.2]; exact free_symm _ _ oks.2 okr.2
          have MC := Lib.hid (fun w => meeting_any s r oks okr m hm w)
          have HF := Lib.hid hfm
          clear hm okr oks
          by_cases hm0 : m = 0
          · have hf := hfm.mp hm0
            subst hm0
            have hall' : Hid (FreeTo xs (m1 + 1)) := by
              have e := hm1.out
              have h2 := hall.out
              rw [e] at h2 HS ⊢
              exact FreeTo.succ h2 HR.out HS.out hf
            clear hfm hf
            go_wp2_with fail
            go_still_tail 9, (by kernel_rfl)
            change wpList _ _ _ _ _ wr.drew
            have B2 : Hid (Below w.heap.size w wr.drew) := B.out.drew
            clear e0 e1 e2 e3 B
            generalize wr.drew = w2 at *
            go_wp2_with fail
            refine (MC.out _).mono ?_
            rintro e w3 ⟨rfl, b3⟩
            have B3 : Hid (Below w.heap.size w w3) := B2.out.trans (b3.mono B2.out.size)
            clear b3 B2
            go_wp2
            exact ⟨⟨k + 1, m1 + 1, .inl (by omega), by show _ = _; have := hm1.out; omega, by go_num, hall', B3⟩, by simp only [intOf]; omega⟩
          · have hne : ((m != 0) : Bool) = true := by simpa using hm0
            obtain rfl : b = false := b_false HB.out (fun h => hm0 (hfm.mpr (h.2.2 k r s HR.out (by have e := hm1.out; have := HS.out; rwa [e] at this))))
            clear hfm hm0
            go_wp2_with fail
            go_still_tail 9, (by kernel_rfl)
            change wpList _ _ _ _ _ wr.drew
            have B2 : Hid (Below w.heap.size w wr.drew) := B.out.drew
            clear e0 e1 e2 e3 B
            generalize wr.drew = w2 at *
            go_wp2_with fail
            refine (MC.out _).mono ?_
            rintro e w3 ⟨rfl, b3⟩
            have B3 : Hid (Below w.heap.size w w3) := B2.out.trans (b3.mono B2.out.size)
            clear b3 B2
            go_wp2
            go_ret
            exact ⟨rfl, B3.out⟩
        · obtain rfl : b = true := HB.out.mpr ⟨by have := HN.out; omega, HA.out, fun i r s h1 h2 => hall.out i r s (by have := (List.getElem?_eq_some_iff.1 h2).1; have := HN.out; omega) h1 h2⟩
          go_wp2
          go_ret
          exact ⟨rfl, B.out⟩
  · obtain rfl : b = false := b_false hb (fun h => h1 (by have := h.1; omega))
    have g60 : 60 < n := by omega
    rw [← hn]
    clear hn hb h1
    go_enter Tryd.func27, Tryd.ntmps27
    go_wp2
    go_ret
    exact ⟨rfl, Below.refl _ _⟩
end Go.Proofs.YtgokhbcifgikgaaDoor
