/- The laws' words: the tops at a ring do not increase; rings and heights are checked. -/
import Derived.Test.YtobfephcmiolbabClsM
import Derived.Test.YtobfephcmiolbabHoleV
import Derived.Test.YtobfephcmiolbabGrA
namespace Go.Proofs.Ytobfephcmiolbab
open Go.ChangeShapes Go.WideShapes Go.ChangeAt Go.RowKit
set_option linter.unusedVariables false
set_option linter.unusedSimpArgs false

theorem mix_mono {a b a' b' t D : Int} (ha : a' ≤ a) (hb : b' ≤ b) (t0 : 0 ≤ t) (t1 : t ≤ D) (hD : 0 < D) : a' + (b' - a') * t / D ≤ a + (b - a) * t / D := by
  have e : ∀ a b : Int, a + (b - a) * t / D = (a * (D - t) + b * t) / D := by
    intro a b
    have : a * (D - t) + b * t = (b - a) * t + a * D := by rw [Int.mul_sub, Int.sub_mul]; omega
    rw [this, Int.add_mul_ediv_right _ _ (by omega), Int.add_comm]
  rw [e, e]
  refine Int.ediv_le_ediv hD ?_
  have h1 := Int.mul_le_mul_of_nonneg_right ha (show 0 ≤ D - t by omega)
  have h2 := Int.mul_le_mul_of_nonneg_right hb t0
  omega

theorem inter_at' {x y : Hu} {ring : Int} {k : Nat} {c : Int} (h : (inter x y ring x.t.length)[k]? = some c) (hl : y.t.length = x.t.length) : ∃ a b, x.t[k]? = some a ∧ y.t[k]? = some b ∧ c = a + (b - a) * (ring - x.r) / (y.r - x.r) := by
  have hk : k < x.t.length := by have := (List.getElem?_eq_some_iff.1 h).1; rwa [inter_len] at this
  obtain ⟨a, ha⟩ : ∃ a, x.t[k]? = some a := ⟨_, List.getElem?_eq_getElem hk⟩
  obtain ⟨b, hb⟩ : ∃ b, y.t[k]? = some b := ⟨_, List.getElem?_eq_getElem (by omega)⟩
  rw [inter_get hk ha hb] at h
  exact ⟨a, b, ha, hb, (Option.some.inj h).symm⟩

theorem tops_down {g : Gu} (ok : OkG g) {ring : Int} {B : Nat} (hB : Behind g.xs ring B) {ts : List Int} (h : IsTops g.xs ring B ts) : Down ts ∧ ts.length = g.d.length := by
  cases h with
  | front x hB0 hx => obtain ⟨-, -, l, -, d⟩ := ok.holes x (List.mem_of_getElem? hx); exact ⟨d, l⟩
  | last x hBl h0 hx => obtain ⟨-, -, l, -, d⟩ := ok.holes x (List.mem_of_getElem? hx); exact ⟨d, l⟩
  | mid x y h0 hBl hx hy =>
    obtain ⟨-, -, l, -, d⟩ := ok.holes x (List.mem_of_getElem? hx)
    obtain ⟨-, -, l', -, d'⟩ := ok.holes y (List.mem_of_getElem? hy)
    have h2 := hB.before (B - 1) x (by omega) hx
    have h3 := hB.behind B y (by omega) hy
    refine ⟨fun i u v hu hv => ?_, by rw [inter_len, l]⟩
    obtain ⟨a, b, ha, hb, rfl⟩ := inter_at' hu (by omega)
    obtain ⟨a', b', ha', hb', rfl⟩ := inter_at' hv (by omega)
    exact mix_mono (d i a a' ha ha') (d' i b b' hb hb') (by omega) (by omega) (by omega)

theorem l06Ring_any (x : Int) (w : World) (b : Bool) (hb : b = true ↔ 0 ≤ x ∧ x ≤ 60) : Calls Try.prog 61 #[.int .i64 x] w fun e w' => e = .returned (.bool b) ∧ w = w' := by
  have C := Lib.hid (fun w => in_any x 0 60 b hb w)
  clear hb
  go_enter Try.func61, Try.ntmps61
  go_wp2_with fail
  refine (C.out _).mono ?_
  rintro e w' ⟨rfl, rfl⟩
  go_wp2
  go_ret
  exact ⟨rfl, rfl⟩

theorem l06Height_any (x : Int) (w : World) (b : Bool) (hb : b = true ↔ (-100000) ≤ x ∧ x ≤ 100000) : Calls Try.prog 66 #[.int .i64 x] w fun e w' => e = .returned (.bool b) ∧ w = w' := by
  have C := Lib.hid (fun w => in_any x (-100000) 100000 b hb w)
  clear hb
  go_enter Try.func66, Try.ntmps66
  go_wp2_with fail
  refine (C.out _).mono ?_
  rintro e w' ⟨rfl, rfl⟩
  go_wp2
  go_ret
  exact ⟨rfl, rfl⟩

/-- Places, and what their tops are. -/
theorem place_ex (g : Gu) (ring : Int) : ∃ (ok : Bool) (B : Nat) (ts : List Int), (ok = true ↔ OkG g) ∧ (ok = true → Behind g.xs ring B ∧ IsTops g.xs ring B ts ∧ Down ts ∧ ts.length = g.d.length) := by
  obtain ⟨b, hb⟩ := ok_boolG (OkG g)
  by_cases h : OkG g
  · obtain ⟨B, hB⟩ := behind_ex h.rise ring
    obtain ⟨ts, hts⟩ := tops_ex g.xs ring B hB.le h.h1
    exact ⟨b, B, ts, hb, fun _ => ⟨hB, hts, tops_down h hB hts⟩⟩
  · exact ⟨b, 0, [], hb, fun e => absurd (hb.1 e) h⟩
theorem place_same {g k : Gu} (hs : k.same g) {ring : Int} {ok : Bool} {B : Nat} {ts : List Int} (h1 : ok = true ↔ OkG g) (h2 : ok = true → Behind g.xs ring B ∧ IsTops g.xs ring B ts ∧ Down ts ∧ ts.length = g.d.length) :
    (ok = true ↔ OkG k) ∧ (ok = true → Behind k.xs ring B ∧ IsTops k.xs ring B ts ∧ Down ts ∧ ts.length = k.d.length) :=
  ⟨h1.trans ⟨okG_same hs, okG_same (Gu.same_symm hs)⟩, fun e => ⟨behind_same hs.2 (h2 e).1, tops_same hs.2 (h2 e).2.1, (h2 e).2.2.1, by rw [(h2 e).2.2.2, hs.1]⟩⟩
end Go.Proofs.Ytobfephcmiolbab
