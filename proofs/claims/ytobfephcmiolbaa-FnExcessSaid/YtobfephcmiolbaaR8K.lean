/- What the laws of chapters 5 to 7 draw: lengths, choices, a balance. -/
import Derived.Test.YtobfephcmiolbaaSrc2
import Derived.Test.YtobfephcmiolbaaWithin
import Derived.Test.YtobfephcmiolbaaInts
import Derived.Test.YtobfephcmiolbaaExKit
import Derived.Test.YtobfephcmiolbaaMuckM
import Derived.Deep.AppendLies
namespace Go.Proofs.Ytobfephcmiolbaa
open Go.ChangeShapes Go.WideShapes Go.ChangeAt Go.RowKit
set_option linter.unusedVariables false
set_option linter.unusedSimpArgs false

theorem SrcAt.below8 {w w' : World} {B g : Nat} {v : Value} {zs : List Int} {n : Nat} (h : SrcAt w g v zs n) (hb : Below B w w') (hg : g < B) (hv : zs ≠ [] → ∀ b, v.ownBlock = some b → b < B) : SrcAt w' g v zs n := by
  obtain ⟨a, b, ⟨s, c, c0, c1⟩, d, e, f, k⟩ := h
  refine ⟨(hb.cell (p := ⟨g, 0, none⟩) hg).trans a, (hb.cell (p := ⟨g, 1, none⟩) hg).trans b, ⟨s, (hb.cell (p := ⟨g, 2, none⟩) hg).trans c, c0, c1⟩, (hb.frozen (p := ⟨g, 1, none⟩) hg).trans d, (hb.frozen (p := ⟨g, 2, none⟩) hg).trans e, f.of_cells (fun hz b o u hbk hc => (hb.cell (p := ⟨b, o, none⟩) (hv hz b hbk)).trans hc), k⟩

theorem rdB_lt8 {w : World} {v : Value} {zs : List Int} (h : RdB w v zs) (hz : zs ≠ []) (b : Nat) (hb : v.ownBlock = some b) : b < w.heap.size := by
  obtain ⟨a, cap, rfl, h2, -⟩ := h
  obtain ⟨b', off, rfl, h3⟩ := h2.resolve_left hz
  obtain ⟨x, xs, rfl⟩ := List.exists_cons_of_ne_nil hz
  have hlt := World.block_lt_of_cell? w _ (h3 0 x rfl)
  simp only [Value.ownBlock, Option.some.injEq] at hb
  subst hb
  exact hlt

theorem IsRow.later8 {k : IntKind} {w w' : World} {a : Option Addr} {len cap : Nat} {zs : List Int} (h : IsRow k w a len cap zs) (hb : Below w.heap.size w w') : IsRow k w' a len cap zs := by
  rcases h with h | ⟨x, e, h1, h2, h3, h4, h5⟩
  · exact .inl h
  · exact .inr ⟨x, e, h1, h2, h3, fun i hi => (hb.cell (p := x.add i) (World.block_lt_of_cell? w _ (h4 i hi))).trans (h4 i hi), h5⟩

theorem r8Long8_any (a0 a1 : Option Addr) (l0 l1 c0 c1 : Nat) (h0 : l0 ≤ 9223372036854775807) (h1 : l1 ≤ 9223372036854775807) (b : Bool) (hb : b = true ↔ ¬ ((l0 : Int) ≤ 48 ∧ (l1 : Int) ≤ 48)) (w : World) :
    Calls Try.prog 19 #[.slice a0 l0 c0, .slice a1 l1 c1] w fun e w' => e = .returned (.bool b) ∧ w = w' := by
  by_cases g0 : (48 : Int) < l0
  · obtain rfl : b = true := hb.mpr (by omega)
    clear hb
    go_enter Try.func19, Try.ntmps19
    go_wp2
    go_ret
    exact ⟨rfl, rfl⟩
  · by_cases g1 : (48 : Int) < l1
    · obtain rfl : b = true := hb.mpr (by omega)
      have d : decide ((48 : Int) < l1) = true := by simpa using g1
      clear hb
      go_enter Try.func19, Try.ntmps19
      go_wp2
      go_ret
      exact ⟨rfl, rfl⟩
    · obtain rfl : b = false := b_false hb (by omega)
      have d : decide ((48 : Int) < l1) = false := by simpa using g1
      clear hb
      go_enter Try.func19, Try.ntmps19
      go_wp2
      go_ret
      exact ⟨rfl, rfl⟩

set_option maxHeartbeats 1000000 in
theorem r8At_any (a : Option Addr) (len cap : Nat) (zs : List Int) (w : World) (h : IsRow .u8 w a len cap zs) (lz : len ≤ 1048576) (k : Nat) (hk : k ≤ 1000) (n : Int) (hn : 2 ≤ n) (hn2 : n ≤ 1000000) :
    Calls Try.prog 21 #[.slice a len cap, .int .i64 k, .int .i64 n] w fun e w' => ∃ r : Int, e = .returned (.int .i64 r) ∧ 0 ≤ r ∧ r < n ∧ w = w' := by
  have z0 : ¬ n ≤ 1 := by omega
  have z1 : (n == 0) = false := by simp; omega
  have z2 : (0 == n) = false := by simp; omega
  have q0 : IntKind.i64.wrap (len : Int) = (len : Int) := IntWalk.i64_in _ (by omega)
  by_cases hlt : k < len
  · rcases h with ⟨_, h0, _⟩ | ⟨x, rfl, h1, h2, h3, h4, h5⟩
    · omega
    · obtain ⟨d, hd⟩ : ∃ d, zs.getD k 0 = d := ⟨_, rfl⟩
      have c0 := h4 k (by omega)
      have cz := h4 0 (by omega)
      rw [hd] at c0
      have hm : d ∈ zs := by rw [← hd, List.getD_eq_getElem?_getD, List.getElem?_eq_getElem (by omega)]; simp
      have hw := h5 d hm
      have d0 : 0 ≤ d ∧ d ≤ 255 := by
        simp [Lit.wf, IntKind.min, IntKind.max, IntKind.signed, IntKind.bits] at hw
        omega
      have q1 : IntKind.i64.wrap d = d := IntWalk.i64_in _ (by omega)
      have hb := tmod_bd d n (by omega)
      have hp : 0 ≤ d.tmod n := by rw [Int.tmod_eq_emod_of_nonneg d0.1]; exact Int.emod_nonneg _ (by omega)
      have q2 : IntKind.i64.wrap (d.tmod n) = d.tmod n := IntWalk.i64_in _ (by omega)
      have i1 : (0 : Int) ≤ (k : Int) := by omega
      have i2 : (k : Int) < (len : Int) := by omega
      have i3 : ¬ (len : Int) ≤ (k : Int) := by omega
      have hr : Hid (0 ≤ d.tmod n ∧ d.tmod n < n) := ⟨hp, hb.2⟩
      obtain ⟨e, he⟩ : ∃ e, d.tmod n = e := ⟨_, rfl⟩
      have q3 : d % n = e := by rw [← he, Int.tmod_eq_emod_of_nonneg d0.1]
      rw [he] at q2 hr
      clear hd hm hw h4 h5 hb hp h3
      obtain ⟨bx, ox, sx⟩ := x
      have hspot : sx = none := by simpa [Addr.add] using World.cell?_spot cz
      subst hspot
      rw [Go.WideShapes.add_plain] at c0
      clear cz
      go_enter Try.func21, Try.ntmps21
      go_wp2
      go_ret
      first | exact ⟨e, rfl, hr.out.1, hr.out.2, rfl⟩ | exact ⟨_, rfl, by have := hr.out; omega, by have := hr.out; omega, rfl⟩
  · have z3 : (len : Int) ≤ (k : Int) := by omega
    clear h
    go_enter Try.func21, Try.ntmps21
    go_wp2
    go_ret
    exact ⟨0, rfl, by omega, by omega, rfl⟩

def DrawnB (xs : List Int) : Prop := xs.length ≤ 9 ∧ ∀ x ∈ xs, -20 ≤ x ∧ x ≤ 20

set_option maxRecDepth 100000 in
set_option maxHeartbeats 8000000 in
theorem r8Balance_any (w : World) (v : Value) (zs : List Int) (h : RdB w v zs) (lz : zs.length ≤ 1099511627776) :
    Calls Try.prog 20 #[v] w fun e w' => ∃ u xs, e = .returned u ∧ OwnI w' (w.heap.size + 1) u xs ∧ Below w.heap.size w w' ∧ DrawnB xs := by
  obtain ⟨i0, hi, hz0, hz1, hz2⟩ := info_parts info_i64
  have VL := Lib.hid (fun hz b hb => rdB_lt8 h hz b hb)
  have H := Lib.hid h
  obtain ⟨g, hg⟩ : ∃ g, g = w.heap.size := ⟨_, rfl⟩
  have HG := Lib.hid hg
  clear h hg
  go_enter Try.func20, Try.ntmps20
  go_wp2_with fail
  refine (from_any w v zs H.out).mono ?_
  rintro e w1 ⟨rfl, s0, b0⟩
  have S0 := Lib.hid s0
  have B0 := Lib.hid b0
  rw [← HG.out] at S0 B0
  rw [← HG.out]
  have ug1 : g + 1 ≤ w1.heap.size := S0.out.lt
  have O1 : Hid (OwnI (w1.alloc (.cells #[] 2)) (g + 1) (.slice (some ⟨w1.heap.size, 0, none⟩) 0 0) []) := World.ownsRow_lit (e := 2) (size := 1) w1 #[] 0 ug1 (by decide) rfl
  have S1' : Hid (SrcAt (w1.alloc (.cells #[] 2)) g v zs 0) := S0.out.later ((Below.refl _ _).alloc (Nat.le_refl _) _) (by omega)
  have B1' : Hid (Below g w (w1.alloc (.cells #[] 2))) := B0.out.alloc (by have := B0.out.size; have := HG.out; omega) _
  clear s0 b0 H S0 B0
  go_wp2_with fail
  generalize hu : (w1.alloc (.cells #[] 2)) = u1 at O1 S1' B1' ⊢
  generalize hb1 : w1.heap.size = c1 at O1 ug1 ⊢
  clear hu hb1
  refine (pick_any u1 g v zs 0 10 S1'.out (by omega) lz (by omega) (by omega)).mono ?_
  rintro e w2 ⟨x2, m2, rfl, p2, q2, -, l2, u2, s2, g2⟩
  have S2 := Lib.hid s2
  have Q2 := q2 (by omega)
  have O2 : Hid (OwnI w2 (g + 1) (.slice (some ⟨c1, 0, none⟩) 0 0) []) := O1.out.kept g2 (.inr (by simp [Value.ownBlock]; omega))
  have B2 : Hid (Below g w w2) := B1'.out.grown g2 (by have := B1'.out.size; have := HG.out; omega) (fun k hk => by cases hk; exact Nat.le_refl _)
  clear s2 g2 q2 S1' O1 B1'
  obtain ⟨K, hK⟩ : ∃ K : Nat, x2 = (K : Int) := ⟨x2.toNat, by omega⟩
  subst hK
  have K9 : K ≤ 9 := by omega
  clear p2 Q2
  go_wp2
  go_loopw [4, 5] (fun l i wr => ∃ (j m : Nat) (ys : List Int), j ≤ K ∧ i = .int .i64 (j : Int) ∧ (∃ ag n cap, l = .slice (some ⟨ag, 0, none⟩) n cap) ∧ Hid (OwnI wr (g + 1) l ys) ∧ Hid (Below g w wr) ∧ Hid (SrcAt wr g v zs m) ∧ m ≤ 100 - 5 * j ∧ Hid (DrawnB ys) ∧ Hid (ys.length = K - j)) (fun _ i _ => (intOf i).toNat)
  case atStart => exact ⟨K, m2, _, by omega, rfl, ⟨_, _, _, rfl⟩, O2, B2, S2, by omega, ⟨by simp, by intro x hx; simp at hx⟩, by show _ = _; simp⟩
  case round =>
    obtain ⟨j, m, ys, hj, rfl, ⟨ag, L, cap0, rfl⟩, OK, BK, SK, hm, DK, HLY⟩ := hrel
    clear O2 B2 S2
    have hL : L = ys.length := by
      obtain ⟨a, c, h, _⟩ := OK.out.rd
      simp only [Value.slice.injEq] at h
      exact h.2.1
    have HL := Lib.hid hL
    have lL : L ≤ K := by have := HLY.out; omega
    clear hL
    by_cases hj0 : j = 0
    · subst hj0
      go_wp2
      go_ret
      exact ⟨_, _, rfl, by rw [← HG.out]; exact OK.out, by rw [← HG.out]; exact BK.out, DK.out⟩
    · have jp : (0 : Int) < (j : Int) := by omega
      have q1 : IntKind.i64.wrap ((j : Int) - 1) = ((j - 1 : Nat) : Int) := by rw [show ((j - 1 : Nat) : Int) = (j : Int) - 1 by omega]; exact IntWalk.i64_in _ (by omega)
      go_wp2_with fail
      refine (pick_any wr g v zs m 41 SK.out (by omega) lz (by omega) (by omega)).mono ?_
      rintro e w3 ⟨x3, m3, rfl, p3, q3, -, l3, u3, s3, g3⟩
      have S3 := Lib.hid s3
      have Q3 := q3 (by omega)
      have agl := OK.out.lt ag rfl
      have O3 : Hid (OwnI w3 (g + 1) (.slice (some ⟨ag, 0, none⟩) L cap0) ys) := OK.out.kept g3 (.inr (by simp [Value.ownBlock]; omega))
      have B3 : Hid (Below g w w3) := BK.out.grown g3 (by have := BK.out.size; have := HG.out; omega) (fun k hk => by cases hk; exact Nat.le_refl _)
      have sg : g + 1 ≤ w3.heap.size := S3.out.lt
      have qs3 : IntKind.i64.wrap (x3 - 20) = x3 - 20 := IntWalk.i64_in _ (by omega)
      have own := O3.out
      unfold OwnI at own
      rw [← HL.out] at own
      have OWN := Lib.hid own
      clear own s3 g3 q3 OK BK SK
      go_wp2_with (first | (at_builtin; refine wpList_append_lies _ rfl _ _ _ rfl (g + 1) 2 i0 _ 1 8 Try.underlying25 hi hz0 hz1 hz2 rfl (by omega) _ _ _ rfl (OWN.out.alloc _) ⟨w3.heap.size, 0, none⟩ 1 1 [.int .i64 (x3 - 20)] rfl rfl (World.news_of_block (cs := #[.int .i64 (x3 - 20)]) (t := 2) (fr := (0, 0)) (heap_alloc_new w3 _)) (by simp [Value.oneCell']) (by omega) (by unfold maxLen; omega) (by omega) (by simp only [World.size_alloc]; omega) _ rfl ?_) | fail)
      intro gg cap1 w5 hown1 hgrow hat hlt'
      have O5 : Hid (OwnI w5 (g + 1) (.slice (some ⟨gg, 0, none⟩) (L + 1) cap1) (ys ++ [x3 - 20])) := by
        show OwnI _ _ _ _
        unfold OwnI
        rw [List.length_append, ← HL.out, List.map_append]
        exact hown1
      have gr := grownBy_trans' (World.grownBy_alloc w3 _ _) hgrow
      have B6 : Below (g + 1) w3 w5 := ((Below.refl _ _).mono sg).grown gr (by omega) (fun j e => (O3.out.lt j e).1)
      have S5 : Hid (SrcAt w5 g v zs m3) := S3.out.below8 B6 (by omega) (fun hz b hb => by have := VL.out hz b hb; have := HG.out; omega)
      have B5 : Hid (Below g w w5) := B3.out.trans (B6.mono (by omega))
      have LY : Hid ((ys ++ [x3 - 20]).length = K - (j - 1)) := by show _ = _; rw [List.length_append, HLY.out]; simp; omega
      have D5 : Hid (DrawnB (ys ++ [x3 - 20])) := ⟨by rw [LY.out]; omega, by
        intro x hx
        rw [List.mem_append] at hx
        rcases hx with hx | hx
        · exact DK.out.2 x hx
        · simp at hx; omega⟩
      clear hown1 hgrow hat hlt' OWN O3 B3 gr B6 S3
      go_wp2
      exact ⟨⟨j - 1, m3, ys ++ [x3 - 20], by omega, rfl, ⟨_, _, _, rfl⟩, O5, B5, S5, by omega, D5, LY⟩, by simp only [intOf]; omega⟩

theorem DrawnB.bal {xs : List Int} (h : DrawnB xs) : Bal xs := ⟨by have := h.1; omega, fun x hx => by have := h.2 x hx; omega⟩
theorem r8Most2_any (x y : Int) (w : World) (r : Int) (hr : r = if x > y then x else y) : Calls Try.prog 24 #[.int .i64 x, .int .i64 y] w fun e w' => e = .returned (.int .i64 r) ∧ w = w' := by
  by_cases h : y < x
  · obtain rfl : r = x := by rw [hr, if_pos h]
    clear hr
    go_enter Try.func24, Try.ntmps24
    go_wp2
    go_ret
    exact ⟨rfl, rfl⟩
  · obtain rfl : r = y := by rw [hr, if_neg h]
    clear hr
    go_enter Try.func24, Try.ntmps24
    go_wp2
    go_ret
    exact ⟨rfl, rfl⟩
end Go.Proofs.Ytobfephcmiolbaa
