/- Texts of rings, on both sides. -/
import Derived.Test.YthhnnkgfnhggbabDoorDec2
import Derived.Test.YthhnnkgfnhggbabDoorRingIs
import Derived.Test.YthhnnkgfnhggbabDoorJoinG
import Derived.Deep.RegionHeld3
namespace Go.Proofs.YthhnnkgfnhggbabDoor
open Go.ChangeShapes Go.WideShapes Go.ChangeAt Go.RowKit
set_option linter.unusedVariables false
set_option linter.unusedSimpArgs false

def kindL (k : Int) : List UInt8 := if k = 0 then [115] else [116]
/-- The text of a ring. -/
def textRg (x : Rg) : List UInt8 := kindL x.k ++ Lib.itoa x.y
theorem okR_small {c : Rg} (h : OkR c) : (c.k = 0 ∨ c.k = 1) ∧ 0 ≤ c.y ∧ c.y ≤ 15 := by
  unfold OkR at h
  omega
theorem textRg_len {c : Rg} (h : OkR c) : (textRg c).length ≤ 30 := by
  obtain ⟨_, h1, h2⟩ := okR_small h
  have := Lib.itoa_length_le c.y (by omega) (by omega)
  have e : (kindL c.k).length = 1 := by unfold kindL; split <;> rfl
  rw [textRg, List.length_append, e]
  omega
theorem cell_boxRg {w w' : World} {c : Rg} {t : TypeId} (b : Below (w.heap.size + 1) (w.alloc (.cells #[.int .i64 c.k, .int .i64 c.y] t)) w') :
    w'.cell? ⟨w.heap.size, 0, none⟩ = some (.int .i64 c.k) ∧ w'.cell? ⟨w.heap.size, 1, none⟩ = some (.int .i64 c.y) := by
  obtain ⟨⟨k0, k1⟩, -⟩ := boxRg_at ((b.block _ (by omega)).trans (heap_alloc_new w _))
  exact ⟨k0, k1⟩

set_option maxRecDepth 100000 in
set_option maxHeartbeats 8000000 in
theorem ringText_any (c : Rg) (h : OkR c) (w : World) (hT : TDec w) :
    Calls Tryd.prog 77 #[(.agg #[.int .i64 c.k, .int .i64 c.y])] w fun e w' => e = .returned (.string ⟨(textRg c).toArray⟩) ∧ Below w.heap.size w w' := by
  obtain ⟨hk, y1, y2⟩ := okR_small h
  have lo := Lib.itoa_length_le c.y (by omega) (by omega)
  have C1 := Lib.hid (fun w hT => decimal_any c.y (by omega) (by omega) w hT)
  have G0 : Below w.heap.size w (w.alloc (.cells #[.int .i64 c.k, .int .i64 c.y] 64)) := (Below.refl _ _).alloc (Nat.le_refl _) _
  have HT := Lib.hid (hT.later G0)
  have KS : Hid (∀ w', Below (w.heap.size + 1) (w.alloc (.cells #[.int .i64 c.k, .int .i64 c.y] 64)) w' → (w'.cell? ⟨w.heap.size, 0, none⟩ = some (.int .i64 c.k) ∧ w'.cell? ⟨w.heap.size, 1, none⟩ = some (.int .i64 c.y))) := fun w' b => cell_boxRg b
  clear h hT G0
  obtain ⟨ck, cy⟩ := c
  simp only at hk y1 y2 lo C1 KS HT ⊢
  rcases hk with hk | hk
  all_goals subst hk
  all_goals
    obtain ⟨A, hA⟩ : ∃ A : ByteArray, A = ⟨(Lib.itoa cy).toArray⟩ := ⟨_, rfl⟩
    have sA : A.size ≤ 21 := by rw [hA]; exact lo
    rw [← hA] at C1
  · have HE : Hid ((⟨(textRg ⟨0, cy⟩).toArray⟩ : ByteArray) = (⟨#[115]⟩ : ByteArray) ++ A) := by
      show _ = _
      rw [hA, show (⟨#[115]⟩ : ByteArray) = ⟨([115] : List UInt8).toArray⟩ from rfl, str_app]
      rfl
    rw [HE.out]
    have k1 : ¬ 9223372036854775807 < 1 + A.size := by omega
    have k0 : (⟨#[115]⟩ : ByteArray).size = 1 := rfl
    have v1 : IntKind.i64.wrap 1 = 1 := rfl
    have v2 : IntKind.i64.wrap (0 + 1) = 1 := rfl
    have ex : (⟨#[115, 116]⟩ : ByteArray).extract 0 1 = ⟨#[115]⟩ := rfl
    clear hA lo y1 y2 HE
    go_enter Tryd.func77, Tryd.ntmps77
    go_wp2_with fail
    go_region_held3 (fun w' => (w'.cell? ⟨w.heap.size, 0, none⟩ = some (.int .i64 0) ∧ w'.cell? ⟨w.heap.size, 1, none⟩ = some (.int .i64 cy)))
      (first | exact KS.out _ D1.out | exact KS.out _ (Below.refl _ _).drew)
      ((go_at_call 87; (with_reducible refine (C1.out _ (HT.out.later (Below.refl _ _).drew)).mono ?_); rintro e w1 ⟨rfl, b1⟩; have D1 : Hid (Below (w.heap.size + 1) (w.alloc (.cells #[.int .i64 0, .int .i64 cy] 64)) w1) := (Below.refl _ _).drew.trans (b1.mono (by simp))))
    have BE : Hid (Below w.heap.size w w1) := Below.trans (by go_grown) (D1.out.mono (by omega))
    go_wp2
    go_ret
    exact ⟨rfl, BE.out⟩
  · have HE : Hid ((⟨(textRg ⟨1, cy⟩).toArray⟩ : ByteArray) = (⟨#[116]⟩ : ByteArray) ++ A) := by
      show _ = _
      rw [hA, show (⟨#[116]⟩ : ByteArray) = ⟨([116] : List UInt8).toArray⟩ from rfl, str_app]
      rfl
    rw [HE.out]
    have k1 : ¬ 9223372036854775807 < 1 + A.size := by omega
    have k0 : (⟨#[116]⟩ : ByteArray).size = 1 := rfl
    have v1 : IntKind.i64.wrap 2 = 2 := rfl
    have v2 : IntKind.i64.wrap (1 + 1) = 2 := rfl
    have ex : (⟨#[115, 116]⟩ : ByteArray).extract 1 2 = ⟨#[116]⟩ := rfl
    clear hA lo y1 y2 HE
    go_enter Tryd.func77, Tryd.ntmps77
    go_wp2_with fail
    go_region_held3 (fun w' => (w'.cell? ⟨w.heap.size, 0, none⟩ = some (.int .i64 1) ∧ w'.cell? ⟨w.heap.size, 1, none⟩ = some (.int .i64 cy)))
      (first | exact KS.out _ D1.out | exact KS.out _ (Below.refl _ _).drew)
      ((go_at_call 87; (with_reducible refine (C1.out _ (HT.out.later (Below.refl _ _).drew)).mono ?_); rintro e w1 ⟨rfl, b1⟩; have D1 : Hid (Below (w.heap.size + 1) (w.alloc (.cells #[.int .i64 1, .int .i64 cy] 64)) w1) := (Below.refl _ _).drew.trans (b1.mono (by simp))))
    have BE : Hid (Below w.heap.size w w1) := Below.trans (by go_grown) (D1.out.mono (by omega))
    go_wp2
    go_ret
    exact ⟨rfl, BE.out⟩

set_option maxRecDepth 100000 in
set_option maxHeartbeats 8000000 in
theorem l03Text_any (v : Value) (xs : List Rg) (w : World) (hr : RdS 2 encRg w v xs) (ok : ∀ x ∈ xs, OkR x) (lx : xs.length ≤ 1000) :
    Calls Tryd.prog 75 #[v] w fun e w' => e = .returned (.string ⟨(joinG [32] (xs.map textRg) xs.length).toArray⟩) ∧ Below w.heap.size w w' := by
  have HR := Lib.hid hr
  obtain ⟨a, cap, rfl, -⟩ := hr
  obtain ⟨n, hn⟩ : ∃ n, n = xs.length := ⟨_, rfl⟩
  have JL := Lib.hid (joinG_len [32] (by simp) (xs.map textRg) 30 (fun t ht => by obtain ⟨x, hx1, rfl⟩ := List.mem_map.1 ht; exact textRg_len (ok x hx1)))
  rw [List.length_map, ← hn] at JL
  rw [← hn] at lx ⊢
  have HN := Lib.hid hn
  have OK := Lib.hid ok
  clear hn ok
  go_enter Tryd.func75, Tryd.ntmps75
  go_wp2
  go_loopw [3, 4] (fun t i wr => ∃ k : Nat, k ≤ n ∧ i = .int .i64 (k : Int) ∧ t = .string ⟨(joinG [32] (xs.map textRg) k).toArray⟩ ∧ Hid (Below w.heap.size w wr)) (fun _ i _ => n - (intOf i).toNat)
  case atStart => exact ⟨0, by omega, by simp, rfl, Below.refl _ _⟩
  case round =>
    obtain ⟨k, kn, rfl, rfl, BK⟩ := hrel
    have sz := BK.out.size
    by_cases hlt : k < n
    · obtain ⟨x, hx⟩ : ∃ x, xs[k]? = some x := ⟨_, List.getElem?_eq_getElem (by have := HN.out; omega)⟩
      obtain ⟨a', c', hv, h⟩ := HR.out.later BK.out
      simp only [Value.slice.injEq] at hv
      obtain ⟨rfl, -, -⟩ := hv
      obtain ⟨ba, oa, rfl, h2⟩ := h.resolve_left (by intro e; rw [e] at hx; simp at hx)
      have cx : wr.cell? ⟨ba, oa + k * 2, none⟩ = some (.int .i64 x.k) := h2 k x hx 0 _ rfl
      have cy : wr.cell? ⟨ba, oa + k * 2 + 1, none⟩ = some (.int .i64 x.y) := h2 k x hx 1 _ rfl
      obtain ⟨hk, y1, y2⟩ := okR_small (OK.out x (List.mem_of_getElem? hx))
      have q1 : IntKind.i64.wrap ((k : Int) + 1) = ((k + 1 : Nat) : Int) := by push_cast; exact IntWalk.i64_in _ (by omega)
      have C := Lib.hid (fun w => l01Dec_any x.y (by omega) (by omega) w)
      have jl := JL.out k (by omega)
      have hgd : (xs.map textRg).getD k [] = textRg x := by simp [List.getD, hx]
      have JS : Hid (joinG [32] (xs.map textRg) (k + 1) = joinG [32] (xs.map textRg) k ++ ((if k = 0 then [] else [32]) ++ textRg x)) := by show _ = _; simp only [joinG, hgd]
      have lo := Lib.itoa_length_le x.y (by omega) (by omega)
      obtain ⟨A, hA⟩ : ∃ A : ByteArray, A = ⟨(joinG [32] (xs.map textRg) k).toArray⟩ := ⟨_, rfl⟩
      obtain ⟨D, hD⟩ : ∃ A : ByteArray, A = ⟨(Lib.itoa x.y).toArray⟩ := ⟨_, rfl⟩
      have sA : A.size ≤ 34 * k := by rw [hA]; exact jl
      have sD : D.size ≤ 21 := by rw [hD]; exact lo
      have HA := Lib.hid hA
      have HD := Lib.hid hD
      rw [← hD] at C
      rw [← hA]
      clear hA hD hx h2 h hgd jl lo
      have e32 : Hid ((⟨#[32]⟩ : ByteArray) = ⟨([32] : List UInt8).toArray⟩) := Lib.hid rfl
      obtain ⟨xk, xy⟩ := x
      simp only at hk cx cy y1 y2 C JS HD
      rcases Nat.eq_zero_or_pos k with k0 | kp
      · subst k0
        have cx0 : wr.cell? ⟨ba, oa, none⟩ = some (.int .i64 xk) := by simpa using cx
        have cy0 : wr.cell? ⟨ba, oa + 1, none⟩ = some (.int .i64 xy) := by simpa using cy
        clear cx cy
        rcases hk with hk | hk
        all_goals subst hk
        · have s1 : (A ++ (⟨#[115]⟩ : ByteArray)).size = A.size + 1 := by rw [ByteArray.size_append]; rfl
          have k2 : ¬ 9223372036854775807 < A.size + 1 := by omega
          have k3 : ¬ 9223372036854775807 < A.size + 1 + D.size := by omega
          have E : Hid ((⟨(joinG [32] (xs.map textRg) (0 + 1)).toArray⟩ : ByteArray) = A ++ (⟨#[115]⟩ : ByteArray) ++ D) := by
            show _ = _
            rw [JS.out, HA.out, HD.out, show (⟨#[115]⟩ : ByteArray) = ⟨([115] : List UInt8).toArray⟩ from rfl, str_app, str_app, if_pos rfl, textRg, kindL, if_pos rfl]
            simp only [List.nil_append, List.append_assoc]
          clear JS
          go_wp2_with fail
          refine (C.out _).mono ?_
          rintro e w2 ⟨rfl, b2⟩
          have B2 : Hid (Below w.heap.size w w2) := BK.out.trans (b2.mono sz)
          clear b2 C cx0 cy0 BK
          go_wp2
          exact ⟨⟨0 + 1, by omega, by push_cast; rfl, by rw [E.out], B2⟩, by simp only [intOf]; omega⟩
        · have s1 : (A ++ (⟨#[116]⟩ : ByteArray)).size = A.size + 1 := by rw [ByteArray.size_append]; rfl
          have k2 : ¬ 9223372036854775807 < A.size + 1 := by omega
          have k3 : ¬ 9223372036854775807 < A.size + 1 + D.size := by omega
          have E : Hid ((⟨(joinG [32] (xs.map textRg) (0 + 1)).toArray⟩ : ByteArray) = A ++ (⟨#[116]⟩ : ByteArray) ++ D) := by
            show _ = _
            rw [JS.out, HA.out, HD.out, show (⟨#[116]⟩ : ByteArray) = ⟨([116] : List UInt8).toArray⟩ from rfl, str_app, str_app, if_pos rfl, textRg, kindL, if_neg (show ¬ ((1 : Int) = 0) by decide)]
            simp only [List.nil_append, List.append_assoc]
          clear JS
          go_wp2_with fail
          refine (C.out _).mono ?_
          rintro e w2 ⟨rfl, b2⟩
          have B2 : Hid (Below w.heap.size w w2) := BK.out.trans (b2.mono sz)
          clear b2 C cx0 cy0 BK
          go_wp2
          exact ⟨⟨0 + 1, by omega, by push_cast; rfl, by rw [E.out], B2⟩, by simp only [intOf]; omega⟩
      · have kz : ¬ k = 0 := by omega
        have s0 : (A ++ (⟨#[32]⟩ : ByteArray)).size = A.size + 1 := by rw [ByteArray.size_append]; rfl
        have k2 : ¬ 9223372036854775807 < A.size + 1 := by omega
        have k3 : ¬ 9223372036854775807 < A.size + 1 + 1 := by omega
        have k4 : ¬ 9223372036854775807 < A.size + 1 + 1 + D.size := by omega
        rcases hk with hk | hk
        all_goals subst hk
        · have s1 : (A ++ (⟨#[32]⟩ : ByteArray) ++ (⟨#[115]⟩ : ByteArray)).size = A.size + 1 + 1 := by rw [ByteArray.size_append, s0]; rfl
          have E : Hid ((⟨(joinG [32] (xs.map textRg) (k + 1)).toArray⟩ : ByteArray) = A ++ (⟨#[32]⟩ : ByteArray) ++ (⟨#[115]⟩ : ByteArray) ++ D) := by
            show _ = _
            rw [JS.out, HA.out, HD.out, e32.out, show (⟨#[115]⟩ : ByteArray) = ⟨([115] : List UInt8).toArray⟩ from rfl, str_app, str_app, str_app, if_neg kz, textRg, kindL, if_pos rfl]
            simp only [List.append_assoc]
          clear JS kz
          go_wp2_with fail
          refine (C.out _).mono ?_
          rintro e w2 ⟨rfl, b2⟩
          have B2 : Hid (Below w.heap.size w w2) := BK.out.trans (b2.mono sz)
          clear b2 C cx cy BK
          go_wp2
          exact ⟨⟨k + 1, by omega, by push_cast; rfl, by rw [E.out], B2⟩, by simp only [intOf]; omega⟩
        · have s1 : (A ++ (⟨#[32]⟩ : ByteArray) ++ (⟨#[116]⟩ : ByteArray)).size = A.size + 1 + 1 := by rw [ByteArray.size_append, s0]; rfl
          have E : Hid ((⟨(joinG [32] (xs.map textRg) (k + 1)).toArray⟩ : ByteArray) = A ++ (⟨#[32]⟩ : ByteArray) ++ (⟨#[116]⟩ : ByteArray) ++ D) := by
            show _ = _
            rw [JS.out, HA.out, HD.out, e32.out, show (⟨#[116]⟩ : ByteArray) = ⟨([116] : List UInt8).toArray⟩ from rfl, str_app, str_app, str_app, if_neg kz, textRg, kindL, if_neg (show ¬ ((1 : Int) = 0) by decide)]
            simp only [List.append_assoc]
          clear JS kz
          go_wp2_with fail
          refine (C.out _).mono ?_
          rintro e w2 ⟨rfl, b2⟩
          have B2 : Hid (Below w.heap.size w w2) := BK.out.trans (b2.mono sz)
          clear b2 C cx cy BK
          go_wp2
          exact ⟨⟨k + 1, by omega, by push_cast; rfl, by rw [E.out], B2⟩, by simp only [intOf]; omega⟩
    · obtain rfl : k = n := by omega
      go_wp2
      go_ret
      exact ⟨rfl, BK.out⟩
end Go.Proofs.YthhnnkgfnhggbabDoor
