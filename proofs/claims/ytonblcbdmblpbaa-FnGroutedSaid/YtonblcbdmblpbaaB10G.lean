/- Drawn grouts. -/
import Derived.Test.YtonblcbdmblpbaaB10T
import Derived.Test.YtonblcbdmblpbaaGroutM
import Derived.Deep.AppendLies
namespace Go.Proofs.Ytonblcbdmblpbaa
open Go.ChangeShapes Go.WideShapes Go.ChangeAt Go.RowKit
set_option linter.unusedVariables false
set_option linter.unusedSimpArgs false

theorem SrcAt.below {w w' : World} {B g : Nat} {v : Value} {zs : List Int} {n : Nat} (h : SrcAt w g v zs n) (hb : Below B w w') (hg : g < B) (hv : zs ≠ [] → ∀ b, v.ownBlock = some b → b < B) : SrcAt w' g v zs n := by
  obtain ⟨a, b, ⟨s, c, c0, c1⟩, d, e, f, k⟩ := h
  refine ⟨(hb.cell (p := ⟨g, 0, none⟩) hg).trans a, (hb.cell (p := ⟨g, 1, none⟩) hg).trans b, ⟨s, (hb.cell (p := ⟨g, 2, none⟩) hg).trans c, c0, c1⟩, (hb.frozen (p := ⟨g, 1, none⟩) hg).trans d, (hb.frozen (p := ⟨g, 2, none⟩) hg).trans e, f.of_cells (fun hz b o u hbk hc => (hb.cell (p := ⟨b, o, none⟩) (hv hz b hbk)).trans hc), k⟩
theorem rdB_lt {w : World} {v : Value} {zs : List Int} (h : RdB w v zs) (hz : zs ≠ []) (b : Nat) (hb : v.ownBlock = some b) : b < w.heap.size := by
  obtain ⟨a, cap, rfl, h2⟩ := h
  obtain ⟨b', off, rfl, h⟩ := h2.1.resolve_left hz
  obtain ⟨x, zs, rfl⟩ := List.exists_cons_of_ne_nil hz
  have hlt := World.block_lt_of_cell? w _ (h 0 x rfl)
  simp only [Value.ownBlock, Option.some.injEq] at hb
  subst hb
  exact hlt
theorem ownI_lit1g (w : World) (B : Nat) (h : B ≤ w.heap.size) (x : Int) : OwnI (w.alloc (.cells #[.int .i64 x] 2)) B (.slice (some ⟨w.heap.size, 0, none⟩) 1 1) [x] := by
  refine ⟨by simp, .inr ⟨w.heap.size, 1, _, rfl, h, heap_alloc_new w _, by simp, by unfold maxLen; omega, by simp, by simp⟩⟩
def DrawnL (xs : List Int) : Prop := xs ≠ [] ∧ xs.length ≤ 9 ∧ ∀ x ∈ xs, -10 ≤ x ∧ x ≤ 19


theorem RiseTo.snoc {ys : List Gt} {c : Gt} (h : RiseTo ys ys.length) (hl : ∀ x ∈ ys, x.r < c.r) : RiseTo (ys ++ [c]) (ys ++ [c]).length := by
  intro i r s hi h1 h2
  rw [List.length_append, List.length_singleton] at hi
  rw [List.getElem?_append_left (by omega)] at h1
  by_cases e : i + 1 < ys.length
  · rw [List.getElem?_append_left e] at h2
    exact h i r s e h1 h2
  · rw [List.getElem?_append_right (by omega), show i + 1 - ys.length = 0 by omega] at h2
    obtain rfl : c = s := by simpa using h2
    exact hl r (List.mem_of_getElem? h1)

/-- What is drawn. -/
structure DrawnG (ys : List Gt) (R : Int) : Prop where
  ok : ∀ c ∈ ys, OkGt c ∧ c.r < R
  rise : RiseTo ys ys.length
  low : 0 ≤ R

theorem DrawnG.nil {R : Int} (h : 0 ≤ R) : DrawnG [] R := ⟨by simp, RiseTo.zero _, h⟩
theorem DrawnG.snoc {ys : List Gt} {R R' : Int} {c : Gt} (h : DrawnG ys R) (hc : OkGt c) (e : c.r = R) (h2 : R < R') : DrawnG (ys ++ [c]) R' :=
  ⟨fun x hx => by
    rw [List.mem_append] at hx
    rcases hx with hx | hx
    · have := h.ok x hx; exact ⟨this.1, by omega⟩
    · obtain rfl : x = c := by simpa using hx
      exact ⟨hc, by omega⟩, h.rise.snoc (fun x hx => by rw [e]; exact (h.ok x hx).2), by have := h.low; omega⟩

theorem infoG_parts : ∃ i : TypeInfo, Try.prog.info? 53 = some i ∧ i.zero = some (.agg #[.int .i64 0, .int .i64 0, .int .i64 0, .int .i64 0]) ∧ i.size = 4 ∧ i.bytes = 32 := by
  have h : (Try.prog.info? 53).map (fun i => (i.zero, i.size, i.bytes)) = some (some (.agg #[.int .i64 0, .int .i64 0, .int .i64 0, .int .i64 0]), 4, 32) := by kernel_rfl
  match e : Try.prog.info? 53 with
  | none => rw [e] at h; cases h
  | some i => rw [e] at h; simp at h; exact ⟨i, rfl, h.1, h.2.1, h.2.2⟩

theorem OwnS.length_of {T : Type} {t : TypeId} {k : Nat} {enc : T → List Value} (hk : ∀ x, (enc x).length = k) {w : World} {B L c : Nat} {a : Option Addr} {ys : List T} (h : OwnS t k enc w B (.slice a L c) ys) : L = ys.length := by
  obtain ⟨a', c', e, -⟩ := h.rd hk
  simp only [Value.slice.injEq] at e
  exact e.2.1

set_option maxRecDepth 100000 in
set_option maxHeartbeats 8000000 in
theorem b10Grouts_any (w : World) (v : Value) (zs : List Int) (h : RdB w v zs) (lz : zs.length ≤ 1099511627776) :
    Calls Try.prog 25 #[v] w fun e w' => ∃ u xs, e = .returned u ∧ OwnS 53 4 encGt w' (w.heap.size + 1) u xs ∧ Below w.heap.size w w' ∧ (xs.length ≤ 6 ∧ DrawnG xs 24) := by
  obtain ⟨i0, hi, hz0, hz1, hz2⟩ := infoG_parts
  have VL := Lib.hid (fun hz b hb => rdB_lt h hz b hb)
  have H := Lib.hid h
  obtain ⟨g, hg⟩ : ∃ g, g = w.heap.size := ⟨_, rfl⟩
  have HG := Lib.hid hg
  clear h hg
  go_enter Try.func25, Try.ntmps25
  go_wp2_with fail
  refine (from_any w v zs H.out).mono ?_
  rintro e w0 ⟨rfl, s0, b0⟩
  have S0 := Lib.hid s0
  have B0 := Lib.hid b0
  rw [← HG.out] at S0 B0
  rw [← HG.out]
  have ug0 : g + 1 ≤ w0.heap.size := S0.out.lt
  have O1 : Hid (OwnS 53 4 encGt (w0.alloc (.cells #[] 53)) (g + 1) (.slice (some ⟨w0.heap.size, 0, none⟩) 0 0) []) := by
    have h0 : OwnS 53 4 encGt (w0.alloc (.cells #[] 53)) w0.heap.size (.slice (some ⟨w0.heap.size, 0, none⟩) 0 0) [] := World.ownsRow_lit (e := 53) (size := 4) w0 #[] 0 (Nat.le_refl _) (by decide) rfl
    exact h0.mono ug0
  have S1' : Hid (SrcAt (w0.alloc (.cells #[] 53)) g v zs 0) := S0.out.later ((Below.refl _ _).alloc (Nat.le_refl _) _) (by omega)
  have B1' : Hid (Below g w (w0.alloc (.cells #[] 53))) := B0.out.alloc (by omega) _
  clear s0 b0 H S0 B0
  go_wp2_with fail
  generalize hu : w0.alloc (.cells #[] 53) = u1 at O1 S1' B1' ⊢
  generalize hb1 : w0.heap.size = c1 at O1 ug0 ⊢
  clear hu hb1
  refine (pick_any u1 g v zs 0 6 S1'.out (by omega) lz (by omega) (by omega)).mono ?_
  rintro e w1 ⟨R, m1, rfl, r0, r1, -, l1, n1, s1, g1⟩
  have S1 := Lib.hid s1
  have R1 := r1 (by omega)
  have O2 : Hid (OwnS 53 4 encGt w1 (g + 1) (.slice (some ⟨c1, 0, none⟩) 0 0) []) := O1.out.kept g1 (.inr (by simp [Value.ownBlock]; omega))
  have B2 : Hid (Below g w w1) := B1'.out.grown g1 (by have := B1'.out.size; have := HG.out; omega) (fun k hk => by cases hk; exact Nat.le_refl _)
  clear s1 g1 r1 S1' O1 B1'
  go_wp2_with fail
  refine (pick_any w1 g v zs m1 6 S1.out (by omega) lz (by omega) (by omega)).mono ?_
  rintro e w2 ⟨x2, m2, rfl, p2, q2, -, l2, n2, s2, g2⟩
  have S2 := Lib.hid s2
  have Q2 := q2 (by omega)
  have O3 : Hid (OwnS 53 4 encGt w2 (g + 1) (.slice (some ⟨c1, 0, none⟩) 0 0) []) := O2.out.kept g2 (.inr (by simp [Value.ownBlock]; omega))
  have B3 : Hid (Below g w w2) := B2.out.grown g2 (by have := B2.out.size; have := HG.out; omega) (fun k hk => by cases hk; exact Nat.le_refl _)
  clear s2 g2 q2 S1 O2 B2
  obtain ⟨K, hK⟩ : ∃ K : Nat, (K : Int) = 1 + x2 := ⟨(1 + x2).toNat, by omega⟩
  have K9 : K ≤ 6 := by omega
  have qK : IntKind.i64.wrap (1 + x2) = (K : Int) := by rw [IntWalk.i64_in _ (by omega)]; omega
  clear p2 Q2 hK
  go_wp2
  go_loopw [4, 5, 6] (fun l rv i wr => ∃ (j m : Nat) (R : Int) (ys : List Gt), j ≤ K ∧ i = .int .i64 (j : Int) ∧ rv = .int .i64 R ∧ 0 ≤ R ∧ R ≤ 5 + 3 * ((K - j : Nat) : Int) ∧ (∃ ag n cap, l = .slice (some ⟨ag, 0, none⟩) n cap) ∧ Hid (OwnS 53 4 encGt wr (g + 1) l ys) ∧ Hid (Below g w wr) ∧ Hid (SrcAt wr g v zs m) ∧ m ≤ 60 - 8 * j ∧ Hid (DrawnG ys R) ∧ ys.length = K - j) (fun _ _ i _ => (intOf i).toNat)
  case atStart => exact ⟨K, m2, R, [], by omega, rfl, rfl, r0, by omega, ⟨_, _, _, rfl⟩, O3, B3, S2, by omega, DrawnG.nil r0, by simp⟩
  case round =>
    obtain ⟨j, m, R, ys, hj, rfl, rfl, R0, RK, ⟨ag, L, cap0, rfl⟩, OK, BK, SK, hm, DK, hly⟩ := hrel
    clear O3 B3 S2
    have hL : L = ys.length := OK.out.length_of encGt_len
    have HL := Lib.hid hL
    rw [← hL] at hly
    have HLY := Lib.hid hly
    have lL : L ≤ K := by omega
    clear hL hly
    by_cases hj0 : j = 0
    · subst hj0
      go_wp2
      go_ret
      exact ⟨_, _, rfl, by rw [← HG.out]; exact OK.out, by rw [← HG.out]; exact BK.out, by have := HL.out; omega, ⟨fun c hc => ⟨(DK.out.ok c hc).1, by have := (DK.out.ok c hc).2; omega⟩, DK.out.rise, by omega⟩⟩
    · have jp : (0 : Int) < (j : Int) := by omega
      have q1 : IntKind.i64.wrap ((j : Int) - 1) = ((j - 1 : Nat) : Int) := by rw [show ((j - 1 : Nat) : Int) = (j : Int) - 1 by omega]; exact IntWalk.i64_in _ (by omega)
      have agl := OK.out.lt ag rfl
      go_wp2_with fail
      refine (pick_any wr g v zs m 3000 SK.out (by omega) lz (by omega) (by omega)).mono ?_
      rintro e v0 ⟨x3, m3, rfl, p0, q0', -, l0', n0', s0', g0'⟩
      have T0 := Lib.hid s0'
      have Q0 := q0' (by omega)
      have P0 : Hid (OwnS 53 4 encGt v0 (g + 1) (.slice (some ⟨ag, 0, none⟩) L cap0) ys) := OK.out.kept g0' (.inr (by simp [Value.ownBlock]; omega))
      have U0 : Hid (Below g w v0) := BK.out.grown g0' (by have := BK.out.size; have := HG.out; omega) (fun k hk => by cases hk; exact Nat.le_refl _)
      clear s0' g0' q0' SK OK BK
      go_wp2_with fail
      refine (pick_any v0 g v zs m3 3000 T0.out (by omega) lz (by omega) (by omega)).mono ?_
      rintro e v1 ⟨x4, m4, rfl, p1, q1', -, l1', n1', s1', g1'⟩
      have T1 := Lib.hid s1'
      have Q1 := q1' (by omega)
      have P1 : Hid (OwnS 53 4 encGt v1 (g + 1) (.slice (some ⟨ag, 0, none⟩) L cap0) ys) := P0.out.kept g1' (.inr (by simp [Value.ownBlock]; omega))
      have U1 : Hid (Below g w v1) := U0.out.grown g1' (by have := U0.out.size; have := HG.out; omega) (fun k hk => by cases hk; exact Nat.le_refl _)
      clear s1' g1' q1' T0 P0 U0
      go_wp2_with fail
      refine (pick_any v1 g v zs m4 30 T1.out (by omega) lz (by omega) (by omega)).mono ?_
      rintro e v2 ⟨x5, m5, rfl, p2, q2', -, l2', n2', s2', g2'⟩
      have T2 := Lib.hid s2'
      have Q2 := q2' (by omega)
      have P2 : Hid (OwnS 53 4 encGt v2 (g + 1) (.slice (some ⟨ag, 0, none⟩) L cap0) ys) := P1.out.kept g2' (.inr (by simp [Value.ownBlock]; omega))
      have U2 : Hid (Below g w v2) := U1.out.grown g2' (by have := U1.out.size; have := HG.out; omega) (fun k hk => by cases hk; exact Nat.le_refl _)
      clear s2' g2' q2' T1 P1 U1
      have sg : g + 1 ≤ v2.heap.size := T2.out.lt
      have own : Hid (v2.ownsRow (g + 1) 53 4 (.slice (some ⟨ag, 0, none⟩) L cap0) L (ys.flatMap encGt)) := by
        have e := P2.out
        unfold OwnS at e
        rwa [← HL.out] at e
      have LT := Lib.hid P2.out.lt
      clear P2
      go_wp2_with (first | (at_builtin; refine wpList_append_lies _ rfl _ _ _ rfl (g + 1) 53 i0 _ 4 32 Try.underlying45 hi hz0 hz1 hz2 rfl (by omega) _ _ _ rfl (own.out.alloc _) ⟨v2.heap.size, 0, none⟩ 1 1 [.int .i64 R, .int .i64 x3, .int .i64 x4, .int .i64 x5] rfl rfl (World.news_of_block (cs := #[.int .i64 R, .int .i64 x3, .int .i64 x4, .int .i64 x5]) (t := 53) (fr := (0, 0)) (heap_alloc_new v2 _)) (by simp [Value.oneCell']) (by omega) (by unfold maxLen; omega) (by omega) (by simp only [World.size_alloc]; omega) _ rfl ?_) | fail)
      intro gg cap1 w5 hown1 hgrow hat hlt'
      have O5 : Hid (OwnS 53 4 encGt w5 (g + 1) (.slice (some ⟨gg, 0, none⟩) (L + 1) cap1) (ys ++ [⟨R, x3, x4, x5⟩])) := by
        show OwnS _ _ _ _ _ _ _
        unfold OwnS
        rw [List.length_append, ← HL.out, List.flatMap_append]
        exact hown1
      have gr := grownBy_trans' (World.grownBy_alloc v2 _ _) hgrow
      have B6 : Below (g + 1) v2 w5 := ((Below.refl _ _).mono sg).grown gr (by omega) (fun j e => (LT.out j e).1)
      have S5 : Hid (SrcAt w5 g v zs m5) := T2.out.below B6 (by omega) (fun hz b hb => by have := VL.out hz b hb; have := HG.out; omega)
      have B5 : Hid (Below g w w5) := U2.out.trans (B6.mono (by omega))
      have l5 := (O5.out.lt gg rfl).1
      clear hown1 hgrow hat hlt' own LT gr B6 T2 U2
      go_wp2_with fail
      refine (pick_any w5 g v zs m5 3 S5.out (by omega) lz (by omega) (by omega)).mono ?_
      rintro e w6 ⟨y, m6, rfl, y0, y1, -, l6, n6, s6, g6⟩
      have S6 := Lib.hid s6
      have Y1 := y1 (by omega)
      have O6 : Hid (OwnS 53 4 encGt w6 (g + 1) (.slice (some ⟨gg, 0, none⟩) (L + 1) cap1) (ys ++ [⟨R, x3, x4, x5⟩])) := O5.out.kept g6 (.inr (by simp [Value.ownBlock]; omega))
      have B7 : Hid (Below g w w6) := B5.out.grown g6 (by have := B5.out.size; have := HG.out; omega) (fun k hk => by cases hk; exact Nat.le_refl _)
      have D6 : Hid (DrawnG (ys ++ [⟨R, x3, x4, x5⟩]) (R + (1 + y))) := DK.out.snoc (c := ⟨R, x3, x4, x5⟩) ⟨⟨R0, (by omega : R ≤ 60)⟩, ⟨p0, (by omega : x3 ≤ 100000)⟩, ⟨p1, (by omega : x4 ≤ 100000)⟩, p2, (by omega : x5 ≤ 100)⟩ rfl (by omega)
      have q2 : IntKind.i64.wrap (1 + y) = 1 + y := IntWalk.i64_in _ (by omega)
      have q3 : IntKind.i64.wrap (R + (1 + y)) = R + (1 + y) := IntWalk.i64_in _ (by omega)
      clear s6 g6 y1 O5 B5 S5
      go_wp2
      exact ⟨⟨j - 1, m6, R + (1 + y), ys ++ [⟨R, x3, x4, x5⟩], by omega, rfl, rfl, by omega, by omega, ⟨_, _, _, rfl⟩, O6, B7, S6, by omega, D6, by rw [List.length_append, ← HL.out, HLY.out]; simp; omega⟩, by simp only [intOf]; omega⟩
end Go.Proofs.Ytonblcbdmblpbaa
