/- Drawn orders. (Written by tools/mkcast.py.) -/
import Derived.Test.YtmdddjhlfpmgdaaSrc2
import Derived.Test.YtmdddjhlfpmgdaaWorkF
import Derived.Test.YtmdddjhlfpmgdaaExKit
import Derived.Deep.AppendLies
namespace Go.Proofs.Ytmdddjhlfpmgdaa
open Go.ChangeShapes Go.WideShapes Go.ChangeAt Go.RowKit
set_option linter.unusedVariables false
set_option linter.unusedSimpArgs false

set_option maxHeartbeats 1000000 in
theorem b10Long_any (a c : Option Addr) (n m p q : Nat) (b : Bool) (hb : b = (decide (1048576 < n) || decide (1048576 < m))) (w : World) :
    Calls Try.prog 33 #[.slice a n p, .slice c m q] w fun e w' => e = .returned (.bool b) ∧ w = w' := by
  by_cases h1 : 1048576 < n
  · obtain rfl : b = true := by simp [hb, h1]
    have h1' : (1048576 : Int) < (n : Int) := by omega
    clear hb
    go_enter Try.func33, Try.ntmps33
    go_wp2
    go_ret
    exact ⟨rfl, rfl⟩
  · by_cases h2 : 1048576 < m
    · obtain rfl : b = true := by simp [hb, h2]
      have h1' : ¬ (1048576 : Int) < (n : Int) := by omega
      have h2' : (1048576 : Int) < (m : Int) := by omega
      clear hb
      go_enter Try.func33, Try.ntmps33
      go_wp2
      go_ret
      exact ⟨rfl, rfl⟩
    · obtain rfl : b = false := by simp [hb, h1, h2]
      have h1' : ¬ (1048576 : Int) < (n : Int) := by omega
      have h2' : ¬ (1048576 : Int) < (m : Int) := by omega
      clear hb
      go_enter Try.func33, Try.ntmps33
      go_wp2
      go_ret
      exact ⟨rfl, rfl⟩

set_option maxHeartbeats 1000000 in
theorem b10At_any (a : Option Addr) (len cap : Nat) (zs : List Int) (w : World) (h : IsRow .u8 w a len cap zs) (lz : len ≤ 1048576) (k : Nat) (hk : k ≤ 1000) (n : Int) (hn : 2 ≤ n) (hn2 : n ≤ 1000000) :
    Calls Try.prog 35 #[.slice a len cap, .int .i64 k, .int .i64 n] w fun e w' => ∃ r : Int, e = .returned (.int .i64 r) ∧ 0 ≤ r ∧ r < n ∧ w = w' := by
  have z0 : ¬ n ≤ 1 := by omega
  have z1 : (n == 0) = false := by simp; omega
  have z2 : (0 == n) = false := by simp; omega
  have q0 : IntKind.i64.wrap (len : Int) = (len : Int) := IntWalk.i64_in _ (by omega)
  by_cases hlt : k < len
  · rcases h with ⟨_, h0, _⟩ | ⟨x, rfl, h1, h2, h3, h4, h5⟩
    · omega
    · obtain ⟨d, hd⟩ : ∃ d, zs.getD k 0 = d := ⟨_, rfl⟩
      have c0 := h4 k (by omega)
      have cz := h4 0 (by omega)
      rw [hd] at c0
      have hm : d ∈ zs := by rw [← hd, List.getD_eq_getElem?_getD, List.getElem?_eq_getElem (by omega)]; simp
      have hw := h5 d hm
      have d0 : 0 ≤ d ∧ d ≤ 255 := by
        simp [Lit.wf, IntKind.min, IntKind.max, IntKind.signed, IntKind.bits] at hw
        omega
      have q1 : IntKind.i64.wrap d = d := IntWalk.i64_in _ (by omega)
      have hb := tmod_bd d n (by omega)
      have hp : 0 ≤ d.tmod n := by rw [Int.tmod_eq_emod_of_nonneg d0.1]; exact Int.emod_nonneg _ (by omega)
      have q2 : IntKind.i64.wrap (d.tmod n) = d.tmod n := IntWalk.i64_in _ (by omega)
      have i1 : (0 : Int) ≤ (k : Int) := by omega
      have i2 : (k : Int) < (len : Int) := by omega
      have hr : Hid (0 ≤ d.tmod n ∧ d.tmod n < n) := ⟨hp, hb.2⟩
      obtain ⟨e, he⟩ : ∃ e, d.tmod n = e := ⟨_, rfl⟩
      have q3 : d % n = e := by rw [← he, Int.tmod_eq_emod_of_nonneg d0.1]
      rw [he] at q2 hr
      clear hd hm hw h4 h5 hb hp h3
      obtain ⟨bx, ox, sx⟩ := x
      have hspot : sx = none := by simpa [Addr.add] using World.cell?_spot cz
      subst hspot
      rw [Go.WideShapes.add_plain] at c0
      clear cz
      go_enter Try.func35, Try.ntmps35
      go_wp2
      go_ret
      first | exact ⟨e, rfl, hr.out.1, hr.out.2, rfl⟩ | exact ⟨_, rfl, by have := hr.out; omega, by have := hr.out; omega, rfl⟩
  · have z3 : ¬ ((k : Int) < (len : Int)) := by omega
    have q1 : IntKind.i64.wrap ((k : Int) * 37) = (k : Int) * 37 := IntWalk.i64_in _ (by omega)
    have q2 : IntKind.i64.wrap ((k : Int) * 37 + 11) = (k : Int) * 37 + 11 := IntWalk.i64_in _ (by omega)
    have hb := tmod_bd ((k : Int) * 37 + 11) n (by omega)
    have hp : 0 ≤ ((k : Int) * 37 + 11).tmod n := by rw [Int.tmod_eq_emod_of_nonneg (by omega)]; exact Int.emod_nonneg _ (by omega)
    have q3 : IntKind.i64.wrap (((k : Int) * 37 + 11).tmod n) = ((k : Int) * 37 + 11).tmod n := IntWalk.i64_in _ (by omega)
    have hr : Hid (0 ≤ ((k : Int) * 37 + 11).tmod n ∧ ((k : Int) * 37 + 11).tmod n < n) := ⟨hp, hb.2⟩
    obtain ⟨e, he⟩ : ∃ e, ((k : Int) * 37 + 11).tmod n = e := ⟨_, rfl⟩
    have q4 : ((k : Int) * 37 + 11) % n = e := by rw [← he, Int.tmod_eq_emod_of_nonneg (by omega)]
    rw [he] at q3 hr
    clear hb hp h
    go_enter Try.func35, Try.ntmps35
    go_wp2
    go_ret
    first | exact ⟨e, rfl, hr.out.1, hr.out.2, rfl⟩ | exact ⟨_, rfl, by have := hr.out; omega, by have := hr.out; omega, rfl⟩




theorem IsRow.later7 {k : IntKind} {w w' : World} {a : Option Addr} {len cap : Nat} {zs : List Int} (h : IsRow k w a len cap zs) (hb : Below w.heap.size w w') : IsRow k w' a len cap zs := by
  rcases h with h | ⟨x, rfl, h1, h2, h3, h4, h5⟩
  · exact .inl h
  · refine .inr ⟨x, rfl, h1, h2, h3, fun i hi => ?_, h5⟩
    have c := h4 i hi
    have lt : (x.add i).block < w.heap.size := World.block_lt_of_cell? w _ c
    exact (hb.cell lt).trans c

theorem SrcAt.below {w w' : World} {B g : Nat} {v : Value} {zs : List Int} {n : Nat} (h : SrcAt w g v zs n) (hb : Below B w w') (hg : g < B) (hv : zs ≠ [] → ∀ b, v.ownBlock = some b → b < B) : SrcAt w' g v zs n := by
  obtain ⟨a, b, ⟨s, c, c0, c1⟩, d, e, f, k⟩ := h
  refine ⟨(hb.cell (p := ⟨g, 0, none⟩) hg).trans a, (hb.cell (p := ⟨g, 1, none⟩) hg).trans b, ⟨s, (hb.cell (p := ⟨g, 2, none⟩) hg).trans c, c0, c1⟩, (hb.frozen (p := ⟨g, 1, none⟩) hg).trans d, (hb.frozen (p := ⟨g, 2, none⟩) hg).trans e, f.of_cells (fun hz b o u hbk hc => (hb.cell (p := ⟨b, o, none⟩) (hv hz b hbk)).trans hc), k⟩
theorem rdB_lt {w : World} {v : Value} {zs : List Int} (h : RdB w v zs) (hz : zs ≠ []) (b : Nat) (hb : v.ownBlock = some b) : b < w.heap.size := by
  obtain ⟨a, cap, rfl, h2⟩ := h
  obtain ⟨b', off, rfl, h⟩ := h2.1.resolve_left hz
  obtain ⟨x, zs, rfl⟩ := List.exists_cons_of_ne_nil hz
  have hlt := World.block_lt_of_cell? w _ (h 0 x rfl)
  simp only [Value.ownBlock, Option.some.injEq] at hb
  subst hb
  exact hlt

theorem RiseTo.snoc {ys : List Od} {c : Od} (h : RiseTo ys ys.length) (hl : ∀ x ∈ ys, x.d < c.d) : RiseTo (ys ++ [c]) (ys ++ [c]).length := by
  intro i r s hi h1 h2
  rw [List.length_append, List.length_singleton] at hi
  rw [List.getElem?_append_left (by omega)] at h1
  by_cases e : i + 1 < ys.length
  · rw [List.getElem?_append_left e] at h2
    exact h i r s e h1 h2
  · rw [List.getElem?_append_right (by omega), show i + 1 - ys.length = 0 by omega] at h2
    obtain rfl : c = s := by simpa using h2
    exact hl r (List.mem_of_getElem? h1)

/-- What is drawn. -/
structure DrawnO (ys : List Od) (R : Int) : Prop where
  ok : ∀ c ∈ ys, OkOd c ∧ c.d < R
  rise : RiseTo ys ys.length
  low : 0 ≤ R

theorem DrawnO.nil {R : Int} (h : 0 ≤ R) : DrawnO [] R := ⟨by simp, RiseTo.zero _, h⟩
theorem DrawnO.snoc {ys : List Od} {R R' : Int} {c : Od} (h : DrawnO ys R) (hc : OkOd c) (e : c.d = R) (h2 : R < R') : DrawnO (ys ++ [c]) R' :=
  ⟨fun x hx => by
    rw [List.mem_append] at hx
    rcases hx with hx | hx
    · have := h.ok x hx; exact ⟨this.1, by omega⟩
    · obtain rfl : x = c := by simpa using hx
      exact ⟨hc, by omega⟩, h.rise.snoc (fun x hx => by rw [e]; exact (h.ok x hx).2), by have := h.low; omega⟩

theorem infoO_parts : ∃ i : TypeInfo, Try.prog.info? 58 = some i ∧ i.zero = some (.agg #[.int .i64 0, .int .i64 0]) ∧ i.size = 2 ∧ i.bytes = 16 := by
  have h : (Try.prog.info? 58).map (fun i => (i.zero, i.size, i.bytes)) = some (some (.agg #[.int .i64 0, .int .i64 0]), 2, 16) := by kernel_rfl
  match e : Try.prog.info? 58 with
  | none => rw [e] at h; cases h
  | some i => rw [e] at h; simp at h; exact ⟨i, rfl, h.1, h.2.1, h.2.2⟩

theorem OwnS.length_of {T : Type} {t : TypeId} {k : Nat} {enc : T → List Value} (hk : ∀ x, (enc x).length = k) {w : World} {B L c : Nat} {a : Option Addr} {ys : List T} (h : OwnS t k enc w B (.slice a L c) ys) : L = ys.length := by
  obtain ⟨a', c', e, -⟩ := h.rd hk
  simp only [Value.slice.injEq] at e
  exact e.2.1

set_option maxRecDepth 100000 in
set_option maxHeartbeats 8000000 in
theorem b10Orders_any (w : World) (v : Value) (zs : List Int) (h : RdB w v zs) (lz : zs.length ≤ 1099511627776) :
    Calls Try.prog 34 #[v] w fun e w' => ∃ u xs c0 u0, e = .returned (.tuple #[u, .int .i64 c0, .int .i64 u0]) ∧ OwnS 58 2 encOd w' (w.heap.size + 1) u xs ∧ Below w.heap.size w w' ∧ OkOs xs ∧ (1 ≤ c0 ∧ c0 ≤ 4) ∧ (0 ≤ u0 ∧ u0 ≤ 8) := by
  obtain ⟨i0, hi, hz0, hz1, hz2⟩ := infoO_parts
  have VL := Lib.hid (fun hz b hb => rdB_lt h hz b hb)
  have H := Lib.hid h
  obtain ⟨g, hg⟩ : ∃ g, g = w.heap.size := ⟨_, rfl⟩
  have HG := Lib.hid hg
  clear h hg
  go_enter Try.func34, Try.ntmps34
  go_wp2_with fail
  refine (from_any w v zs H.out).mono ?_
  rintro e w0 ⟨rfl, s0, b0⟩
  have S0 := Lib.hid s0
  have B0 := Lib.hid b0
  rw [← HG.out] at S0 B0
  rw [← HG.out]
  have ug0 : g + 1 ≤ w0.heap.size := S0.out.lt
  have O1 : Hid (OwnS 58 2 encOd (w0.alloc (.cells #[] 58)) (g + 1) (.slice (some ⟨w0.heap.size, 0, none⟩) 0 0) []) := by
    have h0 : OwnS 58 2 encOd (w0.alloc (.cells #[] 58)) w0.heap.size (.slice (some ⟨w0.heap.size, 0, none⟩) 0 0) [] := World.ownsRow_lit (e := 58) (size := 2) w0 #[] 0 (Nat.le_refl _) (by decide) rfl
    exact h0.mono ug0
  have S1' : Hid (SrcAt (w0.alloc (.cells #[] 58)) g v zs 0) := S0.out.later ((Below.refl _ _).alloc (Nat.le_refl _) _) (by omega)
  have B1' : Hid (Below g w (w0.alloc (.cells #[] 58))) := B0.out.alloc (by omega) _
  clear s0 b0 H S0 B0
  go_wp2_with fail
  generalize hu : w0.alloc (.cells #[] 58) = u1 at O1 S1' B1' ⊢
  generalize hb1 : w0.heap.size = c1 at O1 ug0 ⊢
  clear hu hb1
  refine (pick_any u1 g v zs 0 20 S1'.out (by omega) lz (by omega) (by omega)).mono ?_
  rintro e w1 ⟨R0, m1, rfl, p1, q1', -, l1', n1', s1', g1'⟩
  have S1 := Lib.hid s1'
  have Q1 := q1' (by omega)
  have O2 : Hid (OwnS 58 2 encOd w1 (g + 1) (.slice (some ⟨c1, 0, none⟩) 0 0) []) := O1.out.kept g1' (.inr (by simp [Value.ownBlock]; omega))
  have B2 : Hid (Below g w w1) := B1'.out.grown g1' (by have := B1'.out.size; have := HG.out; omega) (fun k hk => by cases hk; exact Nat.le_refl _)
  clear s1' g1' q1' S1' O1 B1'
  obtain ⟨R, hR⟩ : ∃ R, R = 14 + R0 := ⟨_, rfl⟩
  have qR : IntKind.i64.wrap (14 + R0) = R := by rw [hR]; exact IntWalk.i64_in _ (by omega)
  have r0 : 0 ≤ R := by omega
  have r1 : R ≤ 33 := by omega
  clear hR
  go_wp2_with fail
  refine (pick_any w1 g v zs m1 5 S1.out (by omega) lz (by omega) (by omega)).mono ?_
  rintro e w2 ⟨x2, m2, rfl, p2, q2', -, l2', n2', s2', g2'⟩
  have S2 := Lib.hid s2'
  have Q2 := q2' (by omega)
  have O3 : Hid (OwnS 58 2 encOd w2 (g + 1) (.slice (some ⟨c1, 0, none⟩) 0 0) []) := O2.out.kept g2' (.inr (by simp [Value.ownBlock]; omega))
  have B3 : Hid (Below g w w2) := B2.out.grown g2' (by have := B2.out.size; have := HG.out; omega) (fun k hk => by cases hk; exact Nat.le_refl _)
  clear s2' g2' q2' S1 O2 B2
  obtain ⟨K, hK⟩ : ∃ K : Nat, (K : Int) = 1 + x2 := ⟨(1 + x2).toNat, by omega⟩
  have K9 : K ≤ 5 := by omega
  have qK : IntKind.i64.wrap (1 + x2) = (K : Int) := by rw [IntWalk.i64_in _ (by omega)]; omega
  clear p2 Q2 hK
  go_wp2
  go_loopw [6, 7, 8] (fun l rv i wr => ∃ (j m : Nat) (R : Int) (ys : List Od), j ≤ K ∧ i = .int .i64 (j : Int) ∧ rv = .int .i64 R ∧ 0 ≤ R ∧ R ≤ 33 + 12 * ((K - j : Nat) : Int) ∧ (∃ ag n cap, l = .slice (some ⟨ag, 0, none⟩) n cap) ∧ Hid (OwnS 58 2 encOd wr (g + 1) l ys) ∧ Hid (Below g w wr) ∧ Hid (SrcAt wr g v zs m) ∧ m ≤ 60 - 8 * j ∧ Hid (DrawnO ys R) ∧ ys.length = K - j) (fun _ _ i _ => (intOf i).toNat)
  case atStart => exact ⟨K, m2, R, [], by omega, rfl, rfl, r0, by omega, ⟨_, _, _, rfl⟩, O3, B3, S2, by omega, DrawnO.nil r0, by simp⟩
  case round =>
    obtain ⟨j, m, R, ys, hj, rfl, rfl, R0', RK, ⟨ag, L, cap0, rfl⟩, OK, BK, SK, hm, DK, hly⟩ := hrel
    clear O3 B3 S2
    have hL : L = ys.length := OK.out.length_of encOd_len
    have HL := Lib.hid hL
    rw [← hL] at hly
    have HLY := Lib.hid hly
    have lL : L ≤ K := by omega
    have agl := OK.out.lt ag rfl
    clear hL hly
    by_cases hj0 : j = 0
    · subst hj0
      go_wp2_with fail
      refine (pick_any wr g v zs m 4 SK.out (by omega) lz (by omega) (by omega)).mono ?_
      rintro e v0 ⟨x5, m3, rfl, p5, q5', -, l5', n5', s5', g5'⟩
      have T0 := Lib.hid s5'
      have Q5 := q5' (by omega)
      have P0 : Hid (OwnS 58 2 encOd v0 (g + 1) (.slice (some ⟨ag, 0, none⟩) L cap0) ys) := OK.out.kept g5' (.inr (by simp [Value.ownBlock]; omega))
      have U0 : Hid (Below g w v0) := BK.out.grown g5' (by have := BK.out.size; have := HG.out; omega) (fun k hk => by cases hk; exact Nat.le_refl _)
      clear s5' g5' q5' SK OK BK
      have q5 : IntKind.i64.wrap (1 + x5) = 1 + x5 := IntWalk.i64_in _ (by omega)
      go_wp2_with fail
      refine (pick_any v0 g v zs m3 9 T0.out (by omega) lz (by omega) (by omega)).mono ?_
      rintro e v1 ⟨x6, m4, rfl, p6, q6', -, l6', n6', s6', g6'⟩
      have T1 := Lib.hid s6'
      have Q6 := q6' (by omega)
      have P1 : Hid (OwnS 58 2 encOd v1 (g + 1) (.slice (some ⟨ag, 0, none⟩) L cap0) ys) := P0.out.kept g6' (.inr (by simp [Value.ownBlock]; omega))
      have U1 : Hid (Below g w v1) := U0.out.grown g6' (by have := U0.out.size; have := HG.out; omega) (fun k hk => by cases hk; exact Nat.le_refl _)
      clear s6' g6' q6' T0 P0 U0
      go_wp2
      go_returns
      exact ⟨_, _, _, _, rfl, by rw [← HG.out]; exact P1.out, by rw [← HG.out]; exact U1.out, ⟨by have := HL.out; omega, fun c hc => (DK.out.ok c hc).1, DK.out.rise⟩, ⟨by omega, by omega⟩, p6, by omega⟩
    · have jp : (0 : Int) < (j : Int) := by omega
      have q1 : IntKind.i64.wrap ((j : Int) - 1) = ((j - 1 : Nat) : Int) := by rw [show ((j - 1 : Nat) : Int) = (j : Int) - 1 by omega]; exact IntWalk.i64_in _ (by omega)
      go_wp2_with fail
      refine (pick_any wr g v zs m 12 SK.out (by omega) lz (by omega) (by omega)).mono ?_
      rintro e v0 ⟨x3, m3, rfl, p3, q3', -, l3', n3', s3', g3'⟩
      have T0 := Lib.hid s3'
      have Q3 := q3' (by omega)
      have P0 : Hid (OwnS 58 2 encOd v0 (g + 1) (.slice (some ⟨ag, 0, none⟩) L cap0) ys) := OK.out.kept g3' (.inr (by simp [Value.ownBlock]; omega))
      have U0 : Hid (Below g w v0) := BK.out.grown g3' (by have := BK.out.size; have := HG.out; omega) (fun k hk => by cases hk; exact Nat.le_refl _)
      clear s3' g3' q3' SK OK BK
      have q3 : IntKind.i64.wrap (1 + x3) = 1 + x3 := IntWalk.i64_in _ (by omega)
      have sg : g + 1 ≤ v0.heap.size := T0.out.lt
      have own : Hid (v0.ownsRow (g + 1) 58 2 (.slice (some ⟨ag, 0, none⟩) L cap0) L (ys.flatMap encOd)) := by
        have e := P0.out
        unfold OwnS at e
        rwa [← HL.out] at e
      have LT := Lib.hid P0.out.lt
      clear P0
      go_wp2_with (first | (at_builtin; refine wpList_append_lies _ rfl _ _ _ rfl (g + 1) 58 i0 _ 2 16 Try.underlying25 hi hz0 hz1 hz2 rfl (by omega) _ _ _ rfl (own.out.alloc _) ⟨v0.heap.size, 0, none⟩ 1 1 [.int .i64 R, .int .i64 (1 + x3)] rfl rfl (World.news_of_block (cs := #[.int .i64 R, .int .i64 (1 + x3)]) (t := 58) (fr := (0, 0)) (heap_alloc_new v0 _)) (by simp [Value.oneCell']) (by omega) (by unfold maxLen; omega) (by omega) (by simp only [World.size_alloc]; omega) _ rfl ?_) | fail)
      intro gg cap1 w5 hown1 hgrow hat hlt'
      have O5 : Hid (OwnS 58 2 encOd w5 (g + 1) (.slice (some ⟨gg, 0, none⟩) (L + 1) cap1) (ys ++ [⟨R, 1 + x3⟩])) := by
        show OwnS _ _ _ _ _ _ _
        unfold OwnS
        rw [List.length_append, ← HL.out, List.flatMap_append]
        exact hown1
      have gr := grownBy_trans' (World.grownBy_alloc v0 _ _) hgrow
      have B6 : Below (g + 1) v0 w5 := ((Below.refl _ _).mono sg).grown gr (by omega) (fun j e => (LT.out j e).1)
      have S5 : Hid (SrcAt w5 g v zs m3) := T0.out.below B6 (by omega) (fun hz b hb => by have := VL.out hz b hb; have := HG.out; omega)
      have B5 : Hid (Below g w w5) := U0.out.trans (B6.mono (by omega))
      have l5 := (O5.out.lt gg rfl).1
      clear hown1 hgrow hat hlt' own LT gr B6 T0 U0
      go_wp2_with fail
      refine (pick_any w5 g v zs m3 12 S5.out (by omega) lz (by omega) (by omega)).mono ?_
      rintro e w6 ⟨y, m6, rfl, p4, q4', -, l4', n4', s4', g4'⟩
      have S6 := Lib.hid s4'
      have Q4 := q4' (by omega)
      have O6 : Hid (OwnS 58 2 encOd w6 (g + 1) (.slice (some ⟨gg, 0, none⟩) (L + 1) cap1) (ys ++ [⟨R, 1 + x3⟩])) := O5.out.kept g4' (.inr (by simp [Value.ownBlock]; omega))
      have B7 : Hid (Below g w w6) := B5.out.grown g4' (by have := B5.out.size; have := HG.out; omega) (fun k hk => by cases hk; exact Nat.le_refl _)
      clear s4' g4' q4' S5 O5 B5
      have D6 : Hid (DrawnO (ys ++ [⟨R, 1 + x3⟩]) (R + (1 + y))) := DK.out.snoc (c := ⟨R, 1 + x3⟩) ⟨⟨R0', (by omega : R ≤ 200)⟩, (by omega : (1 : Int) ≤ 1 + x3), (by omega : 1 + x3 ≤ 200)⟩ rfl (by omega)
      have q2 : IntKind.i64.wrap (1 + y) = 1 + y := IntWalk.i64_in _ (by omega)
      have q3' : IntKind.i64.wrap (R + (1 + y)) = R + (1 + y) := IntWalk.i64_in _ (by omega)
      go_wp2
      exact ⟨⟨j - 1, m6, R + (1 + y), ys ++ [⟨R, 1 + x3⟩], by omega, rfl, rfl, by omega, by omega, ⟨_, _, _, rfl⟩, O6, B7, S6, by omega, D6, by rw [List.length_append, ← HL.out, HLY.out]; simp; omega⟩, by simp only [intOf]; omega⟩
end Go.Proofs.Ytmdddjhlfpmgdaa
