/- Texts of plans: both sides' parts. -/
import Derived.Test.YtgockhlainnnnabDoorJoinSu
import Derived.Test.YtgockhlainnnnabDoorPlanM
import Derived.Deep.RegionHeld3
namespace Go.Proofs.YtgockhlainnnnabDoor
open Go.ChangeShapes Go.WideShapes Go.ChangeAt Go.RowKit
set_option linter.unusedVariables false
set_option linter.unusedSimpArgs false

def I64s (zs : List Int) : Prop := ∀ x ∈ zs, -9223372036854775808 ≤ x ∧ x ≤ 9223372036854775807
/-- The text of a stop. -/
def textSu (x : Su) : List UInt8 := Lib.itoa x.r ++ [58] ++ joinTo [44] x.t x.t.length

/-- A rising list within bounds is short. -/
theorem rises_len {lo hi : Int} {zs : List Int} (h : RisesIn lo hi zs) : (zs.length : Int) ≤ hi - lo + 1 ∨ zs = [] := by
  by_cases e : zs = []
  · exact .inr e
  · left
    have l0 : 0 < zs.length := List.length_pos_iff.mpr e
    have step : ∀ i, (hi' : i < zs.length) → lo + (i : Int) ≤ zs[i] := by
      intro i
      induction i with
      | zero => intro hi'; have := (h.1 _ (List.getElem_mem hi')).1; simpa using this
      | succ i ih =>
        intro hi'
        have h1 := ih (by omega)
        have h2 := h.2 i _ _ (List.getElem?_eq_getElem (by omega)) (List.getElem?_eq_getElem hi')
        push_cast
        omega
    have h1 := step (zs.length - 1) (by omega)
    have h2 := (h.1 _ (List.getElem_mem (show zs.length - 1 < zs.length by omega))).2
    omega

/-- What the texts want of a stop. -/
structure SmallSu (x : Su) : Prop where
  r : -9223372036854775808 ≤ x.r ∧ x.r ≤ 9223372036854775807
  n : x.t.length ≤ 5
  t : I64s x.t

theorem textSu_len {x : Su} (h : SmallSu x) : (textSu x).length ≤ 140 := by
  have h1 := Lib.itoa_length_le x.r h.r.1 h.r.2
  have h2 := joinTo_len [44] (by simp) x.t h.t x.t.length (Nat.le_refl _)
  have := h.n
  simp only [textSu, List.length_append, List.length_cons, List.length_nil]
  omega

set_option maxRecDepth 100000 in
set_option maxHeartbeats 8000000 in
theorem l06Comma_any (v : Value) (zs : List Int) (w : World) (hr : RdI w v zs) (lz : zs.length ≤ 1048576) (hx : I64s zs) :
    Calls Tryd.prog 78 #[v] w fun e w' => e = .returned (.string ⟨(joinTo [44] zs zs.length).toArray⟩) ∧ Below w.heap.size w w' := by
  have HR := Lib.hid hr
  obtain ⟨a, cap, rfl, -⟩ := hr
  have HX := Lib.hid hx
  have JL := Lib.hid (joinTo_len [44] (by simp) zs hx)
  obtain ⟨n, hn⟩ : ∃ n, n = zs.length := ⟨_, rfl⟩
  rw [← hn] at lz HR JL ⊢
  have HN := Lib.hid hn
  have A0 : Hid ((⟨#[]⟩ : ByteArray) = ⟨(joinTo [44] zs 0).toArray⟩) := rfl
  clear hn hx
  go_enter Tryd.func78, Tryd.ntmps78
  go_wp2
  go_loopw [3, 4] (fun ov iv wr => ∃ (k : Nat) (A : ByteArray), k ≤ n ∧ iv = .int .i64 k ∧ ov = .string A ∧ A.size ≤ 100000000 ∧ Hid (A = ⟨(joinTo [44] zs k).toArray⟩) ∧ Hid (Below w.heap.size w wr)) (fun _ iv _ => n - (intOf iv).toNat)
  case atStart => exact ⟨0, ⟨#[]⟩, by omega, rfl, rfl, by decide, A0, Below.refl _ _⟩
  case round =>
    obtain ⟨k, A, hk, rfl, rfl, sA, ha, B⟩ := hrel
    clear A0
    have sz := B.out.size
    by_cases hlt : k < n
    · obtain ⟨x, hxk⟩ : ∃ x, zs[k]? = some x := ⟨_, List.getElem?_eq_getElem (by have := HN.out; omega)⟩
      have hx := HX.out x (List.mem_of_getElem? hxk)
      obtain ⟨a', c', hv, h2⟩ := HR.out.later B.out
      simp only [Value.slice.injEq] at hv
      obtain ⟨rfl, -, -⟩ := hv
      obtain ⟨ba, oa, rfl, hc⟩ := h2.resolve_left (by intro e; rw [e] at hxk; simp at hxk)
      have c1 := hc k x hxk
      obtain ⟨D, hD⟩ : ∃ D : ByteArray, D = ⟨(Lib.itoa x).toArray⟩ := ⟨_, rfl⟩
      have sD : D.size ≤ 21 := by rw [hD]; exact Lib.itoa_length_le x hx.1 hx.2
      have C := Lib.hid (fun w => l01Dec_any x hx.1 hx.2 w)
      rw [← hD] at C
      have jl1 := JL.out (k + 1) (by omega)
      have JS : Hid (joinTo [44] zs (k + 1) = joinTo [44] zs k ++ ((if k = 0 then [] else [44]) ++ Lib.itoa x)) := by show _ = _; simp only [joinTo]; simp [List.getD, hxk]
      have HD := Lib.hid hD
      clear hxk hx hc h2 hD
      by_cases k0 : k = 0
      · have g0 : decide (0 < k) = false := by simp; omega
        have g1 : ¬ 9223372036854775807 < A.size + D.size := by omega
        have A1 : Hid (A ++ D = ⟨(joinTo [44] zs (k + 1)).toArray⟩) := by show _ = _; rw [JS.out, if_pos k0, ha.out, HD.out, str_app]; rfl
        have s1 : (A ++ D).size ≤ 100000000 := by rw [A1.out]; show (joinTo [44] zs (k + 1)).toArray.size ≤ _; rw [List.size_toArray]; omega
        clear k0 JS ha HD jl1
        go_wp2_with fail
        refine (C.out _).mono ?_
        rintro e w2 ⟨rfl, b2⟩
        have B2 : Hid (Below w.heap.size w w2) := B.out.trans (b2.mono sz)
        clear b2 c1 C B
        go_wp2
        exact ⟨⟨k + 1, A ++ D, by omega, by go_num, rfl, s1, A1, B2⟩, by simp only [intOf]; omega⟩
      · have g0 : decide (0 < k) = true := by simp; omega
        have e0 : (A ++ (⟨#[44]⟩ : ByteArray)).size = A.size + 1 := by rw [ByteArray.size_append]; rfl
        have g1 : ¬ 9223372036854775807 < A.size + 1 := by omega
        have g2 : ¬ 9223372036854775807 < A.size + 1 + D.size := by omega
        have A1 : Hid (A ++ (⟨#[44]⟩ : ByteArray) ++ D = ⟨(joinTo [44] zs (k + 1)).toArray⟩) := by
          show _ = _
          have e1 : (⟨#[44]⟩ : ByteArray) = ⟨([44] : List UInt8).toArray⟩ := rfl
          rw [JS.out, if_neg k0, ha.out, HD.out, e1, str_app, str_app, List.append_assoc]
        have s1 : (A ++ (⟨#[44]⟩ : ByteArray) ++ D).size ≤ 100000000 := by rw [A1.out]; show (joinTo [44] zs (k + 1)).toArray.size ≤ _; rw [List.size_toArray]; omega
        clear k0 JS ha HD jl1
        go_wp2_with fail
        refine (C.out _).mono ?_
        rintro e w2 ⟨rfl, b2⟩
        have B2 : Hid (Below w.heap.size w w2) := B.out.trans (b2.mono sz)
        clear b2 c1 C B
        go_wp2
        exact ⟨⟨k + 1, A ++ (⟨#[44]⟩ : ByteArray) ++ D, by omega, by go_num, rfl, s1, A1, B2⟩, by simp only [intOf]; omega⟩
    · obtain rfl : k = n := by omega
      have HA := Lib.hid ha.out
      clear ha
      go_wp2
      go_ret
      exact ⟨by rw [← HA.out]; rfl, B.out⟩

set_option maxRecDepth 100000 in
set_option maxHeartbeats 8000000 in
theorem l08PlanText_any (v : Value) (xs : List Su) (w : World) (hr : RdSt w v xs) (lz : xs.length ≤ 1048576) (hx : ∀ x ∈ xs, SmallSu x) :
    Calls Tryd.prog 50 #[v] w fun e w' => e = .returned (.string ⟨(joinG [59] (xs.map textSu) xs.length).toArray⟩) ∧ Below w.heap.size w w' := by
  have HR := Lib.hid hr
  obtain ⟨a, cap, rfl, -⟩ := id hr.rows
  have HX := Lib.hid hx
  have JL := Lib.hid (joinG_len [59] (by simp) (xs.map textSu) 140 (fun t ht => by obtain ⟨x, hx1, rfl⟩ := List.mem_map.1 ht; exact textSu_len (hx x hx1)))
  obtain ⟨n, hn⟩ : ∃ n, n = xs.length := ⟨_, rfl⟩
  rw [List.length_map, ← hn] at JL
  rw [← hn] at lz HR ⊢
  have HN := Lib.hid hn
  have A0 : Hid ((⟨#[]⟩ : ByteArray) = ⟨(joinG [59] (xs.map textSu) 0).toArray⟩) := rfl
  clear hn hx hr
  go_enter Tryd.func50, Tryd.ntmps50
  go_wp2
  go_loopw [3, 4] (fun ov iv wr => ∃ (k : Nat) (A : ByteArray), k ≤ n ∧ iv = .int .i64 k ∧ ov = .string A ∧ A.size ≤ 1000000000 ∧ Hid (A = ⟨(joinG [59] (xs.map textSu) k).toArray⟩) ∧ Hid (Below w.heap.size w wr)) (fun _ iv _ => n - (intOf iv).toNat)
  case atStart => exact ⟨0, ⟨#[]⟩, by omega, rfl, rfl, by decide, A0, Below.refl _ _⟩
  case round =>
    obtain ⟨k, A, hk, rfl, rfl, sA, ha, B⟩ := hrel
    clear A0
    have sz := B.out.size
    by_cases hlt : k < n
    · obtain ⟨x, hxk⟩ : ∃ x, xs[k]? = some x := ⟨_, List.getElem?_eq_getElem (by have := HN.out; omega)⟩
      have hx := HX.out x (List.mem_of_getElem? hxk)
      obtain ⟨ba, oa, rfl, c0, c1, xr, lb⟩ := (HR.out.later B.out).at hxk
      obtain ⟨D, hD⟩ : ∃ D : ByteArray, D = ⟨(Lib.itoa x.r).toArray⟩ := ⟨_, rfl⟩
      obtain ⟨F, hF⟩ : ∃ D : ByteArray, D = ⟨(joinTo [44] x.t x.t.length).toArray⟩ := ⟨_, rfl⟩
      have sD : D.size ≤ 21 := by rw [hD]; exact Lib.itoa_length_le x.r hx.r.1 hx.r.2
      have sF : F.size ≤ 110 := by
        rw [hF]; show (joinTo [44] x.t x.t.length).toArray.size ≤ _
        rw [List.size_toArray]
        have h2 := joinTo_len [44] (by simp) x.t hx.t x.t.length (Nat.le_refl _)
        have := hx.n
        omega
      have C := Lib.hid (fun w => l01Dec_any x.r hx.r.1 hx.r.2 w)
      have C2 := Lib.hid (fun w h => l06Comma_any (.slice x.a x.t.length x.c) x.t w h (by have := hx.n; omega) hx.t)
      rw [← hD] at C
      rw [← hF] at C2
      have XR := Lib.hid xr
      obtain ⟨m, hm⟩ : ∃ m, m = x.t.length := ⟨_, rfl⟩
      rw [← hm] at c1 C2 XR
      have jl1 := JL.out (k + 1) (by omega)
      have JS : Hid (joinG [59] (xs.map textSu) (k + 1) = joinG [59] (xs.map textSu) k ++ ((if k = 0 then [] else [59]) ++ textSu x)) := by show _ = _; simp only [joinG]; simp [List.getD, hxk]
      have HD := Lib.hid hD
      have HF := Lib.hid hF
      have e2 : (D ++ (⟨#[58]⟩ : ByteArray)).size = D.size + 1 := by rw [ByteArray.size_append]; rfl
      have e3 : (D ++ (⟨#[58]⟩ : ByteArray) ++ F).size = D.size + 1 + F.size := by rw [ByteArray.size_append, e2]
      have f1 : ¬ 9223372036854775807 < D.size + 1 := by omega
      have f2 : ¬ 9223372036854775807 < D.size + 1 + F.size := by omega
      have TX : Hid (D ++ (⟨#[58]⟩ : ByteArray) ++ F = ⟨(textSu x).toArray⟩) := by
        show _ = _
        have e1 : (⟨#[58]⟩ : ByteArray) = ⟨([58] : List UInt8).toArray⟩ := rfl
        rw [hD, hF, e1, str_app, str_app]; rfl
      have KS : Hid (∀ w', Below wr.heap.size wr w' → (w'.cell? ⟨ba, oa + k * 2, none⟩ = some (.int .i64 x.r) ∧ w'.cell? ⟨ba, oa + k * 2 + 1, none⟩ = some (.slice x.a m x.c))) :=
        fun w' b => ⟨(b.cell (p := ⟨ba, oa + k * 2, none⟩) lb).trans c0, (b.cell (p := ⟨ba, oa + k * 2 + 1, none⟩) lb).trans c1⟩
      clear hxk hx hD hF hm xr c0 c1 lb
      by_cases k0 : k = 0
      · have g0 : decide (0 < k) = false := by simp; omega
        have g1 : ¬ 9223372036854775807 < A.size + (D.size + 1 + F.size) := by omega
        have A1 : Hid (A ++ (D ++ (⟨#[58]⟩ : ByteArray) ++ F) = ⟨(joinG [59] (xs.map textSu) (k + 1)).toArray⟩) := by show _ = _; rw [JS.out, if_pos k0, ha.out, TX.out, str_app]; rfl
        have s1 : (A ++ (D ++ (⟨#[58]⟩ : ByteArray) ++ F)).size ≤ 1000000000 := by rw [A1.out]; show (joinG [59] (xs.map textSu) (k + 1)).toArray.size ≤ _; rw [List.size_toArray]; omega
        clear k0 JS ha HD HF jl1 TX
        go_wp2
        go_region_held3 (fun w' => (w'.cell? ⟨ba, oa + k * 2, none⟩ = some (.int .i64 x.r) ∧ w'.cell? ⟨ba, oa + k * 2 + 1, none⟩ = some (.slice x.a m x.c)))
          (first | exact KS.out _ D2.out | exact KS.out _ D1.out | exact KS.out _ (Below.refl _ _).drew)
          (first
            | (go_at_call 77; refine (C.out _).mono ?_; rintro e w1 ⟨rfl, b1⟩; have D1 : Hid (Below wr.heap.size wr w1) := (Below.refl _ _).drew.trans b1)
            | (go_at_call 78; refine (C2.out _ (XR.out.later D1.out)).mono ?_; rintro e w2 ⟨rfl, b2⟩; have D2 : Hid (Below wr.heap.size wr w2) := D1.out.trans (b2.mono D1.out.size)))
        rename_i hHeld
        have B2 : Hid (Below w.heap.size w w2) := B.out.trans (D2.out.mono sz)
        clear hHeld b1 b2 D1 D2 KS C C2 XR B
        go_wp2
        exact ⟨⟨k + 1, A ++ (D ++ (⟨#[58]⟩ : ByteArray) ++ F), by omega, by go_num, rfl, s1, A1, B2⟩, by simp only [intOf]; omega⟩
      · have g0 : decide (0 < k) = true := by simp; omega
        have e0 : (A ++ (⟨#[59]⟩ : ByteArray)).size = A.size + 1 := by rw [ByteArray.size_append]; rfl
        have g1 : ¬ 9223372036854775807 < A.size + 1 := by omega
        have g2 : ¬ 9223372036854775807 < A.size + 1 + (D.size + 1 + F.size) := by omega
        have A1 : Hid (A ++ (⟨#[59]⟩ : ByteArray) ++ (D ++ (⟨#[58]⟩ : ByteArray) ++ F) = ⟨(joinG [59] (xs.map textSu) (k + 1)).toArray⟩) := by
          show _ = _
          have e1 : (⟨#[59]⟩ : ByteArray) = ⟨([59] : List UInt8).toArray⟩ := rfl
          rw [JS.out, if_neg k0, ha.out, TX.out, e1, str_app, str_app, List.append_assoc]
        have s1 : (A ++ (⟨#[59]⟩ : ByteArray) ++ (D ++ (⟨#[58]⟩ : ByteArray) ++ F)).size ≤ 1000000000 := by rw [A1.out]; show (joinG [59] (xs.map textSu) (k + 1)).toArray.size ≤ _; rw [List.size_toArray]; omega
        clear k0 JS ha HD HF jl1 TX
        go_wp2
        go_region_held3 (fun w' => (w'.cell? ⟨ba, oa + k * 2, none⟩ = some (.int .i64 x.r) ∧ w'.cell? ⟨ba, oa + k * 2 + 1, none⟩ = some (.slice x.a m x.c)))
          (first | exact KS.out _ D2.out | exact KS.out _ D1.out | exact KS.out _ (Below.refl _ _).drew)
          (first
            | (go_at_call 77; refine (C.out _).mono ?_; rintro e w1 ⟨rfl, b1⟩; have D1 : Hid (Below wr.heap.size wr w1) := (Below.refl _ _).drew.trans b1)
            | (go_at_call 78; refine (C2.out _ (XR.out.later D1.out)).mono ?_; rintro e w2 ⟨rfl, b2⟩; have D2 : Hid (Below wr.heap.size wr w2) := D1.out.trans (b2.mono D1.out.size)))
        rename_i hHeld
        have B2 : Hid (Below w.heap.size w w2) := B.out.trans (D2.out.mono sz)
        clear hHeld b1 b2 D1 D2 KS C C2 XR B
        go_wp2
        exact ⟨⟨k + 1, A ++ (⟨#[59]⟩ : ByteArray) ++ (D ++ (⟨#[58]⟩ : ByteArray) ++ F), by omega, by go_num, rfl, s1, A1, B2⟩, by simp only [intOf]; omega⟩
    · obtain rfl : k = n := by omega
      have HA := Lib.hid ha.out
      clear ha
      go_wp2
      go_ret
      exact ⟨by rw [← HA.out]; rfl, B.out⟩

set_option maxRecDepth 100000 in
set_option maxHeartbeats 8000000 in
theorem stopText_any (x : Su) (hx : SmallSu x) (w : World) (hT : TDec w) (hr : RdI w (.slice x.a x.t.length x.c) x.t) :
    Calls Tryd.prog 54 #[.agg #[.int .i64 x.r, .slice x.a x.t.length x.c]] w fun e w' => e = .returned (.string ⟨(textSu x).toArray⟩) ∧ Below w.heap.size w w' := by
  obtain ⟨D, hD⟩ : ∃ D : ByteArray, D = ⟨(Lib.itoa x.r).toArray⟩ := ⟨_, rfl⟩
  obtain ⟨F, hF⟩ : ∃ D : ByteArray, D = ⟨(joinTo [44] x.t x.t.length).toArray⟩ := ⟨_, rfl⟩
  have sD : D.size ≤ 21 := by rw [hD]; exact Lib.itoa_length_le x.r hx.r.1 hx.r.2
  have sF : F.size ≤ 110 := by
    rw [hF]; show (joinTo [44] x.t x.t.length).toArray.size ≤ _
    rw [List.size_toArray]
    have h2 := joinTo_len [44] (by simp) x.t hx.t x.t.length (Nat.le_refl _)
    have := hx.n
    omega
  have C := Lib.hid (fun w hT => decimal_any x.r hx.r.1 hx.r.2 w hT)
  have C2 := Lib.hid (fun w hr hT => joinInts_any (.slice x.a x.t.length x.c) x.t [44] (by simp) w hr (by have := hx.n; omega) hx.t hT)
  rw [← hD] at C
  rw [← hF] at C2
  have XR := Lib.hid hr
  have HT := Lib.hid hT
  have TX : Hid ((⟨(textSu x).toArray⟩ : ByteArray) = D ++ (⟨#[58]⟩ : ByteArray) ++ F) := by
    show _ = _
    have e1 : (⟨#[58]⟩ : ByteArray) = ⟨([58] : List UInt8).toArray⟩ := rfl
    rw [hD, hF, e1, str_app, str_app]; rfl
  rw [TX.out]
  have e2 : (D ++ (⟨#[58]⟩ : ByteArray)).size = D.size + 1 := by rw [ByteArray.size_append]; rfl
  have f1 : ¬ 9223372036854775807 < D.size + 1 := by omega
  have f2 : ¬ 9223372036854775807 < D.size + 1 + F.size := by omega
  obtain ⟨m, hm⟩ : ∃ m, m = x.t.length := ⟨_, rfl⟩
  rw [← hm] at C2 XR
  rw [← hm]
  clear hD hF hm hr hT hx
  go_enter Tryd.func54, Tryd.ntmps54
  go_wp2_with fail
  generalize hx0 : w.alloc (.cells #[.int .i64 x.r, .slice x.a m x.c] 88) = w0
  have B0 : Hid (Below w.heap.size w w0) := by rw [← hx0]; show Below _ _ _; go_grown
  have N0 : w0.heap[w.heap.size]? = some (.cells #[.int .i64 x.r, .slice x.a m x.c] 88 (0, 0)) := by rw [← hx0]; exact heap_alloc_new _ _
  obtain ⟨⟨k0, k1⟩, -, lg⟩ := boxedSu_at N0
  have KS : Hid (∀ w', Below w0.heap.size w0 w' → (w'.cell? ⟨w.heap.size, 0, none⟩ = some (.int .i64 x.r) ∧ w'.cell? ⟨w.heap.size, 1, none⟩ = some (.slice x.a m x.c))) :=
    fun w' b => ⟨(b.cell (p := ⟨w.heap.size, 0, none⟩) lg).trans k0, (b.cell (p := ⟨w.heap.size, 1, none⟩) lg).trans k1⟩
  clear hx0 N0 k0 k1 lg
  go_region_held3 (fun w' => (w'.cell? ⟨w.heap.size, 0, none⟩ = some (.int .i64 x.r) ∧ w'.cell? ⟨w.heap.size, 1, none⟩ = some (.slice x.a m x.c)))
    (first | exact KS.out _ D2.out | exact KS.out _ D1.out | exact KS.out _ (Below.refl _ _).drew)
    (first
      | (go_at_call 47; refine (C.out _ (HT.out.later (B0.out.trans ((Below.refl _ _).drew.mono B0.out.size)))).mono ?_; rintro e w1 ⟨rfl, b1⟩; have D1 : Hid (Below w0.heap.size w0 w1) := (Below.refl _ _).drew.trans b1)
      | (go_at_call 46; refine (C2.out _ (XR.out.later (B0.out.trans (D1.out.mono B0.out.size))) (HT.out.later (B0.out.trans (D1.out.mono B0.out.size)))).mono ?_; rintro e w2 ⟨rfl, b2⟩; have D2 : Hid (Below w0.heap.size w0 w2) := D1.out.trans (b2.mono D1.out.size)))
  rename_i hHeld
  have B2 : Hid (Below w.heap.size w w2) := B0.out.trans (D2.out.mono B0.out.size)
  clear hHeld b1 b2 D1 D2 KS C C2 XR B0
  go_wp2
  go_ret
  exact ⟨rfl, B2.out⟩
end Go.Proofs.YtgockhlainnnnabDoor
