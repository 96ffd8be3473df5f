/- Courses read from their texts: the specification. -/
import Derived.Test.YtkdecpnbbpmooacDoorReadC
namespace Go.Proofs.YtkdecpnbbpmooacDoor
open Go.ChangeShapes Go.WideShapes Go.ChangeAt Go.RowKit
set_option linter.unusedVariables false
set_option linter.unusedSimpArgs false

theorem wordsL_none (c : UInt8) : ∀ (x : List UInt8), c ∉ x → wordsL c x = [x] := by
  intro x
  induction x with
  | nil => intro _; rfl
  | cons b x ih =>
    intro h
    have h1 : ¬ (b == c) = true := by intro e; exact h (by simp [eq_of_beq e])
    unfold wordsL
    rw [if_neg h1, ih (fun m => h (List.mem_cons_of_mem _ m))]
theorem wordsL_app (c : UInt8) (r : List UInt8) : ∀ (x : List UInt8), c ∉ x → wordsL c (x ++ c :: r) = x :: wordsL c r := by
  intro x
  induction x with
  | nil => intro _; show wordsL c (c :: r) = _; rw [wordsL, if_pos (by simp)]
  | cons b x ih =>
    intro h
    have h1 : ¬ (b == c) = true := by intro e; exact h (by simp [eq_of_beq e])
    show wordsL c (b :: (x ++ c :: r)) = _
    rw [wordsL, if_neg h1, ih (fun m => h (List.mem_cons_of_mem _ m))]
/-- The words ahead of f are the texts of ys, and no divider lies from f up to k. -/
def RS (l : List UInt8) (k f : Nat) (ys : List Int) : Prop :=
  f ≤ k ∧ ((k ≤ l.length ∧ ∃ ws, wordsL 47 l = ws ++ wordsL 47 (l.drop f) ∧ Reads ws ys ∧ (47 : UInt8) ∉ (l.drop f).take (k - f)) ∨ (k = l.length + 1 ∧ Reads (wordsL 47 l) ys))
theorem RS.zero (l : List UInt8) : RS l 0 0 [] := ⟨Nat.le_refl _, .inl ⟨Nat.zero_le _, [], rfl, Reads.nil, by simp⟩⟩
theorem RS.skip {l : List UInt8} {k f : Nat} {ys : List Int} {c : UInt8} (h : RS l k f ys) (hc : l[k]? = some c) (hn : c ≠ 47) : RS l (k + 1) f ys := by
  have hk : k < l.length := (List.getElem?_eq_some_iff.1 hc).1
  obtain ⟨hf, ⟨-, ws, h1, h2, h3⟩ | ⟨h1, -⟩⟩ := h
  · refine ⟨by omega, .inl ⟨by omega, ws, h1, h2, ?_⟩⟩
    rw [show k + 1 - f = (k - f) + 1 by omega, List.take_add_one, List.getElem?_drop, show f + (k - f) = k by omega, hc]
    intro hm
    rw [List.mem_append] at hm
    rcases hm with hm | hm
    · exact h3 hm
    · have : (47 : UInt8) = c := by simpa using hm
      exact hn this.symm
  · omega
/-- The word that ends at k. -/
theorem RS.word {l : List UInt8} {k f : Nat} {ys : List Int} (h : RS l k f ys) (hk : l[k]? = some 47 ∨ k = l.length) :
    ∃ ws rs, wordsL 47 l = ws ++ ((l.drop f).take (k - f)) :: rs ∧ Reads ws ys ∧ (k = l.length → rs = []) ∧ (k < l.length → rs = wordsL 47 (l.drop (k + 1))) := by
  obtain ⟨hf, ⟨-, ws, h1, h2, h3⟩ | ⟨h1, -⟩⟩ := h
  · rcases hk with hk | hk
    · have hlt : k < l.length := (List.getElem?_eq_some_iff.1 hk).1
      have e : l.drop f = (l.drop f).take (k - f) ++ 47 :: l.drop (k + 1) := by
        have e1 := (List.take_append_drop (k - f) (l.drop f)).symm
        rw [List.drop_drop, show f + (k - f) = k by omega, List.drop_eq_getElem_cons hlt] at e1
        have e2 : l[k] = 47 := by rw [List.getElem?_eq_getElem hlt] at hk; simpa using hk
        rw [e2] at e1
        exact e1
      refine ⟨ws, wordsL 47 (l.drop (k + 1)), ?_, h2, fun e => by omega, fun _ => rfl⟩
      rw [h1, ← wordsL_app 47 _ _ h3, ← e]
    · refine ⟨ws, [], ?_, h2, fun _ => rfl, fun e => by omega⟩
      have e : (l.drop f).take (k - f) = l.drop f := List.take_of_length_le (by rw [List.length_drop]; omega)
      rw [e] at h3 ⊢
      rw [h1, wordsL_none 47 _ h3]
  · rcases hk with hk | hk
    · have := (List.getElem?_eq_some_iff.1 hk).1; omega
    · omega
theorem RS.bad {l : List UInt8} {k f : Nat} {ys : List Int} (h : RS l k f ys) (hk : l[k]? = some 47 ∨ k = l.length) (hn : ∀ m, ValI m → (l.drop f).take (k - f) ≠ Lib.itoa m) (d : List Int) : ¬ Reads (wordsL 47 l) d := by
  obtain ⟨ws, rs, h1, -⟩ := h.word hk
  exact Reads.bad (i := ws.length) (by rw [h1, List.getElem?_append_right (Nat.le_refl _), Nat.sub_self]; rfl) hn d
theorem RS.many {l : List UInt8} {k f : Nat} {ys : List Int} (h : RS l k f ys) (hk : l[k]? = some 47 ∨ k = l.length) (d : List Int) (r : Reads (wordsL 47 l) d) : ys.length < d.length := by
  obtain ⟨ws, rs, h1, h2, -⟩ := h.word hk
  rw [← r.1, h1, List.length_append, List.length_cons, h2.1]
  omega
theorem RS.next {l : List UInt8} {k f : Nat} {ys : List Int} (h : RS l k f ys) (hk : l[k]? = some 47 ∨ k = l.length) (m : Int) (hm : ValI m) (he : (l.drop f).take (k - f) = Lib.itoa m) : RS l (k + 1) (k + 1) (ys ++ [m]) := by
  obtain ⟨ws, rs, h1, h2, h3, h4⟩ := h.word hk
  refine ⟨Nat.le_refl _, ?_⟩
  have hr := h2.snoc _ m hm he
  by_cases hl : k < l.length
  · refine .inl ⟨by omega, ws ++ [(l.drop f).take (k - f)], ?_, hr, by simp⟩
    rw [h1, h4 hl, List.append_assoc]; rfl
  · have e : k = l.length := by
      rcases hk with hk | hk
      · exact absurd (List.getElem?_eq_some_iff.1 hk).1 hl
      · exact hk
    refine .inr ⟨by omega, ?_⟩
    rw [h1, h3 e]; exact hr
theorem RS.done {l : List UInt8} {k f : Nat} {ys : List Int} (h : RS l k f ys) (hk : k = l.length + 1) : Reads (wordsL 47 l) ys := by
  obtain ⟨-, ⟨h1, -⟩ | ⟨-, h2⟩⟩ := h
  · omega
  · exact h2
theorem ext_bytes (s : ByteArray) (f k : Nat) : (s.extract f k).data.toList = (s.data.toList.drop f).take (k - f) := by simp [List.extract]
theorem ownI_noneR (w : World) : OwnI (w.alloc (.cells #[] 2)) w.heap.size (.slice (some ⟨w.heap.size, 0, none⟩) 0 0) [] := by
  refine ⟨by simp, .inr ⟨w.heap.size, 0, _, rfl, Nat.le_refl _, heap_alloc_new w _, Nat.le_refl _, by unfold maxLen; omega, by simp, by simp⟩⟩

set_option maxRecDepth 100000 in
set_option maxHeartbeats 16000000 in
theorem specReadC_any (s : ByteArray) (hs : s.size ≤ 1048576) (c : Co) (b : Bool) (h : CourseRes s.data.toList c b) (w : World) :
    Calls Tryd.prog 16 #[.string s] w fun e w' => e = .returned (.tuple #[(.agg #[.int .i64 c.o, .int .i64 c.h, .int .i64 c.t]), .bool b]) ∧ Below w.heap.size w w' := by
  obtain ⟨i0, hi, hz0, hz1, hz2⟩ := info_parts info_i64s
  have H := Lib.hid h
  have SL : Hid (s.data.toList.length = s.size) := by show _ = _; simp
  have BU : Hid (Below w.heap.size w (w.alloc (.cells #[.int .i64 noC.o, .int .i64 noC.h, .int .i64 noC.t] 27))) := by show Below _ _ _; go_grown
  have NU : Hid ((w.alloc (.cells #[.int .i64 noC.o, .int .i64 noC.h, .int .i64 noC.t] 27)).heap[w.heap.size]? = some (.cells #[.int .i64 noC.o, .int .i64 noC.h, .int .i64 noC.t] 27 (0, 0))) := heap_alloc_new w _
  clear h
  go_enter Tryd.func16, Tryd.ntmps16
  go_upto_region 1 with (fail)
  generalize hu : (w.alloc (.cells #[.int .i64 noC.o, .int .i64 noC.h, .int .i64 noC.t] 27)) = u at BU NU
  have hu' : (w.alloc (.cells #[.int .i64 0, .int .i64 0, .int .i64 0] 27)) = u := hu
  try rw [hu']
  clear hu hu'
  have su := box_ltR NU.out
  have own0 : Hid (OwnI (u.alloc (.cells #[] 2)) u.heap.size (.slice (some ⟨u.heap.size, 0, none⟩) 0 0) []) := ownI_noneR u
  have B0 : Hid (Below w.heap.size w (u.alloc (.cells #[] 2))) := BU.out.alloc (by omega) _
  have N0 : Hid ((u.alloc (.cells #[] 2)).heap[w.heap.size]? = some (.cells #[.int .i64 noC.o, .int .i64 noC.h, .int .i64 noC.t] 27 (0, 0))) := (Below.heap_alloc _ _ _ su).trans NU.out
  clear BU NU
  go_wp2
  go_loopw [4, 5, 6] (fun v f i wr => ∃ (k fr : Nat) (ys : List Int), k ≤ s.size + 1 ∧ i = .int .i64 (k : Int) ∧ f = .int .i64 (fr : Int) ∧ (∃ ag m cap, v = .slice (some ⟨ag, 0, none⟩) m cap) ∧ Hid (OwnI wr u.heap.size v ys) ∧ Hid (Below w.heap.size w wr) ∧ Hid (wr.heap[w.heap.size]? = some (.cells #[.int .i64 noC.o, .int .i64 noC.h, .int .i64 noC.t] 27 (0, 0))) ∧ Hid (RS s.data.toList k fr ys) ∧ ys.length ≤ 3) (fun _ _ i _ => s.size + 1 - (intOf i).toNat)
  case atStart => exact ⟨0, 0, [], by omega, by simp, by simp, ⟨_, _, _, rfl⟩, own0, B0, N0, RS.zero _, by simp⟩
  case round =>
    obtain ⟨k, fr, ys, hk, rfl, rfl, ⟨ag, L, cap0, rfl⟩, OK, BK, NK, RK, ly⟩ := hrel
    clear own0 B0 N0
    have hL : L = ys.length := by
      obtain ⟨a, c, h, _⟩ := OK.out.rd
      simp only [Value.slice.injEq] at h
      exact h.2.1
    rw [← hL] at ly
    have HL := Lib.hid hL
    clear hL
    have sz := BK.out.size
    have fk := RK.out.1
    have szu : u.heap.size ≤ wr.heap.size := Nat.le_trans (OK.out.lt ag rfl).1 (Nat.le_of_lt (OK.out.lt ag rfl).2)
    have q1 : IntKind.i64.wrap ((k : Int) + 1) = ((k + 1 : Nat) : Int) := by push_cast; exact IntWalk.i64_in _ (by omega)
    by_cases hlt : k < s.size
    · have hc : s.data.toList[k]? = some s[k] := byte_of s k hlt
      by_cases h47 : s[k] = 47
      · have e47 : ((s[k].toNat : Int) == 47) = true := by rw [h47]; rfl
        have KC : Hid (s.data.toList[k]? = some 47) := by show _ = _; rw [hc, h47]
        clear hc h47
        have HK : Hid (s.data.toList[k]? = some 47 ∨ k = s.data.toList.length) := .inl KC.out
        obtain ⟨n, d, hy⟩ := decRes_of (s.extract fr k).data.toList
        have C2 := Lib.hid (fun w => l01Value_any (s.extract fr k) (by rw [ByteArray.size_extract]; omega) n d hy w)
        have HY := Lib.hid hy
        clear hy
        go_wp2_with fail
        refine (C2.out _).mono ?_
        rintro e w2 ⟨rfl, b2⟩
        have z2 := b2.size
        have N2 := Lib.hid ((b2.block _ (box_ltR NK.out)).trans NK.out)
        have O2 : Hid (OwnI w2 u.heap.size (.slice (some ⟨ag, 0, none⟩) L cap0) ys) := OK.out.below b2 fun j e => (OK.out.lt j e).2
        have B2 : Hid (Below w.heap.size w w2) := BK.out.trans (b2.mono sz)
        clear b2 OK BK NK C2
        cases d with
        | false =>
          have hyy : ∀ m, ValI m → (s.data.toList.drop fr).take (k - fr) ≠ Lib.itoa m := by
            rw [← ext_bytes]
            rcases HY.out with ⟨m, -, -, -, h3⟩ | ⟨h1, -, -⟩
            · cases h3
            · exact h1
          obtain ⟨rfl, rfl⟩ := courseRes_no H.out (fun x hx _ => RK.out.bad HK.out hyy _ hx)
          clear H HY HK RK O2
          obtain ⟨⟨f0, f1, f2⟩, ⟨y0, y1, y2⟩, -⟩ := boxCo_at (q := noC) N2.out
          have RA := Lib.hid (boxCo_put (q := noC) N2.out noC)
          clear N2
          go_wp2
          obtain ⟨⟨m0, m1, m2⟩, -⟩ := boxCo_at (q := noC) RA.out
          try dsimp only [noC] at m0 m1 m2
          have B := B2.out
          have sz := B.size
          refine bodyPost_ret (v := .tuple #[(.agg #[.int .i64 noC.o, .int .i64 noC.h, .int .i64 noC.t]), .bool false]) (by simp [results, Tryd.results16, go_sem, m0, m1, m2, noC]; try rfl) rfl ⟨rfl, ?_⟩
          go_grown
        | true =>
          have hyy : ValI n ∧ (s.data.toList.drop fr).take (k - fr) = Lib.itoa n := by
            rw [← ext_bytes]
            rcases HY.out with ⟨m, h1, h2, h3, -⟩ | ⟨-, -, h3⟩
            · subst h3; exact ⟨h1, h2⟩
            · cases h3
          by_cases h3 : L = 3
          · obtain ⟨rfl, rfl⟩ := courseRes_no H.out (fun x hx _ => by
              have := RK.out.many HK.out _ hx
              rw [← HL.out, h3] at this
              simp at this)
            have g3 : ((L : Int) == 3) = true := by rw [h3]; rfl
            clear H HY HK RK O2 hyy
            obtain ⟨⟨f0, f1, f2⟩, ⟨y0, y1, y2⟩, -⟩ := boxCo_at (q := noC) N2.out
            have RA := Lib.hid (boxCo_put (q := noC) N2.out noC)
            clear N2
            go_wp2
            obtain ⟨⟨m0, m1, m2⟩, -⟩ := boxCo_at (q := noC) RA.out
            try dsimp only [noC] at m0 m1 m2
            have B := B2.out
            have sz := B.size
            refine bodyPost_ret (v := .tuple #[(.agg #[.int .i64 noC.o, .int .i64 noC.h, .int .i64 noC.t]), .bool false]) (by simp [results, Tryd.results16, go_sem, m0, m1, m2, noC]; try rfl) rfl ⟨rfl, ?_⟩
            go_grown
          · have g3 : ((L : Int) == 3) = false := by simp; omega
            have RK2 := Lib.hid (RK.out.next HK.out n hyy.1 hyy.2)
            have own := O2.out
            unfold OwnI at own
            rw [← HL.out] at own
            have OWN := Lib.hid own
            clear own HY HK RK hyy
            go_wp2_with (first | (at_builtin; refine wpList_append_lies _ rfl _ _ _ rfl u.heap.size 2 i0 _ 1 8 Tryd.underlying47 hi hz0 hz1 hz2 rfl (by omega) _ _ _ rfl (OWN.out.alloc _) ⟨w2.heap.size, 0, none⟩ 1 1 [.int .i64 n] rfl rfl (World.news_of_block (cs := #[.int .i64 n]) (t := 2) (fr := (0, 0)) (heap_alloc_new w2 _)) (by simp [Value.oneCell']) (by omega) (by unfold maxLen; omega) (by omega) (by simp only [World.size_alloc]; omega) _ rfl ?_) | fail)
            intro gg cap1 w5 hown1 hgrow hat hlt'
            have O5 : Hid (OwnI w5 u.heap.size (.slice (some ⟨gg, 0, none⟩) (L + 1) cap1) (ys ++ [n])) := by
              show OwnI _ _ _ _
              unfold OwnI
              rw [List.length_append, ← HL.out, List.map_append]
              exact hown1
            have gr := grownBy_trans' (World.grownBy_alloc w2 _ _) hgrow
            have B6 : Below u.heap.size w2 w5 := (Below.refl _ _).grown gr (by omega) (fun j e => (O2.out.lt j e).1)
            have N5 := Lib.hid ((B6.block _ su).trans N2.out)
            have B5 : Hid (Below w.heap.size w w5) := B2.out.trans (B6.mono (by omega))
            clear hown1 hgrow hat hlt' OWN O2 B2 gr B6 N2
            go_wp2
            exact ⟨⟨k + 1, k + 1, ys ++ [n], by omega, by push_cast; rfl, by push_cast; rfl, ⟨_, _, _, rfl⟩, O5, B5, N5, RK2, by rw [List.length_append, ← HL.out]; simp; omega⟩, by simp only [intOf]; omega⟩
      · have e47 : ((s[k].toNat : Int) == 47) = false := by
          rw [beq_eq_false_iff_ne]
          intro e
          exact h47 (UInt8.toNat_inj.1 (by simpa using (by exact_mod_cast e : s[k].toNat = 47)))
        have RK2 := Lib.hid (RK.out.skip hc h47)
        clear hc h47 RK
        go_wp2
        exact ⟨⟨k + 1, fr, ys, by omega, by push_cast; rfl, rfl, ⟨_, _, _, rfl⟩, OK, BK, NK, RK2, by rw [← HL.out]; exact ly⟩, by simp only [intOf]; omega⟩
    · by_cases hle : k = s.size
      · have hki : ¬ (k : Int) < (s.size : Int) := by omega
        have hks : k ≤ s.size := by omega
        have HLE := Lib.hid hle
        clear hle
        have HK : Hid (s.data.toList[k]? = some 47 ∨ k = s.data.toList.length) := .inr (by rw [SL.out]; exact HLE.out)
        obtain ⟨n, d, hy⟩ := decRes_of (s.extract fr k).data.toList
        have C2 := Lib.hid (fun w => l01Value_any (s.extract fr k) (by rw [ByteArray.size_extract]; omega) n d hy w)
        have HY := Lib.hid hy
        clear hy
        go_wp2_with fail
        refine (C2.out _).mono ?_
        rintro e w2 ⟨rfl, b2⟩
        have z2 := b2.size
        have N2 := Lib.hid ((b2.block _ (box_ltR NK.out)).trans NK.out)
        have O2 : Hid (OwnI w2 u.heap.size (.slice (some ⟨ag, 0, none⟩) L cap0) ys) := OK.out.below b2 fun j e => (OK.out.lt j e).2
        have B2 : Hid (Below w.heap.size w w2) := BK.out.trans (b2.mono sz)
        clear b2 OK BK NK C2
        cases d with
        | false =>
          have hyy : ∀ m, ValI m → (s.data.toList.drop fr).take (k - fr) ≠ Lib.itoa m := by
            rw [← ext_bytes]
            rcases HY.out with ⟨m, -, -, -, h3⟩ | ⟨h1, -, -⟩
            · cases h3
            · exact h1
          obtain ⟨rfl, rfl⟩ := courseRes_no H.out (fun x hx _ => RK.out.bad HK.out hyy _ hx)
          clear H HY HK RK O2
          obtain ⟨⟨f0, f1, f2⟩, ⟨y0, y1, y2⟩, -⟩ := boxCo_at (q := noC) N2.out
          have RA := Lib.hid (boxCo_put (q := noC) N2.out noC)
          clear N2
          go_wp2
          obtain ⟨⟨m0, m1, m2⟩, -⟩ := boxCo_at (q := noC) RA.out
          try dsimp only [noC] at m0 m1 m2
          have B := B2.out
          have sz := B.size
          refine bodyPost_ret (v := .tuple #[(.agg #[.int .i64 noC.o, .int .i64 noC.h, .int .i64 noC.t]), .bool false]) (by simp [results, Tryd.results16, go_sem, m0, m1, m2, noC]; try rfl) rfl ⟨rfl, ?_⟩
          go_grown
        | true =>
          have hyy : ValI n ∧ (s.data.toList.drop fr).take (k - fr) = Lib.itoa n := by
            rw [← ext_bytes]
            rcases HY.out with ⟨m, h1, h2, h3, -⟩ | ⟨-, -, h3⟩
            · subst h3; exact ⟨h1, h2⟩
            · cases h3
          by_cases h3 : L = 3
          · obtain ⟨rfl, rfl⟩ := courseRes_no H.out (fun x hx _ => by
              have := RK.out.many HK.out _ hx
              rw [← HL.out, h3] at this
              simp at this)
            have g3 : ((L : Int) == 3) = true := by rw [h3]; rfl
            clear H HY HK RK O2 hyy
            obtain ⟨⟨f0, f1, f2⟩, ⟨y0, y1, y2⟩, -⟩ := boxCo_at (q := noC) N2.out
            have RA := Lib.hid (boxCo_put (q := noC) N2.out noC)
            clear N2
            go_wp2
            obtain ⟨⟨m0, m1, m2⟩, -⟩ := boxCo_at (q := noC) RA.out
            try dsimp only [noC] at m0 m1 m2
            have B := B2.out
            have sz := B.size
            refine bodyPost_ret (v := .tuple #[(.agg #[.int .i64 noC.o, .int .i64 noC.h, .int .i64 noC.t]), .bool false]) (by simp [results, Tryd.results16, go_sem, m0, m1, m2, noC]; try rfl) rfl ⟨rfl, ?_⟩
            go_grown
          · have g3 : ((L : Int) == 3) = false := by simp; omega
            have RK2 := Lib.hid (RK.out.next HK.out n hyy.1 hyy.2)
            have own := O2.out
            unfold OwnI at own
            rw [← HL.out] at own
            have OWN := Lib.hid own
            clear own HY HK RK hyy
            go_wp2_with (first | (at_builtin; refine wpList_append_lies _ rfl _ _ _ rfl u.heap.size 2 i0 _ 1 8 Tryd.underlying47 hi hz0 hz1 hz2 rfl (by omega) _ _ _ rfl (OWN.out.alloc _) ⟨w2.heap.size, 0, none⟩ 1 1 [.int .i64 n] rfl rfl (World.news_of_block (cs := #[.int .i64 n]) (t := 2) (fr := (0, 0)) (heap_alloc_new w2 _)) (by simp [Value.oneCell']) (by omega) (by unfold maxLen; omega) (by omega) (by simp only [World.size_alloc]; omega) _ rfl ?_) | fail)
            intro gg cap1 w5 hown1 hgrow hat hlt'
            have O5 : Hid (OwnI w5 u.heap.size (.slice (some ⟨gg, 0, none⟩) (L + 1) cap1) (ys ++ [n])) := by
              show OwnI _ _ _ _
              unfold OwnI
              rw [List.length_append, ← HL.out, List.map_append]
              exact hown1
            have gr := grownBy_trans' (World.grownBy_alloc w2 _ _) hgrow
            have B6 : Below u.heap.size w2 w5 := (Below.refl _ _).grown gr (by omega) (fun j e => (O2.out.lt j e).1)
            have N5 := Lib.hid ((B6.block _ su).trans N2.out)
            have B5 : Hid (Below w.heap.size w w5) := B2.out.trans (B6.mono (by omega))
            clear hown1 hgrow hat hlt' OWN O2 B2 gr B6 N2
            go_wp2
            exact ⟨⟨k + 1, k + 1, ys ++ [n], by omega, by push_cast; rfl, by push_cast; rfl, ⟨_, _, _, rfl⟩, O5, B5, N5, RK2, by rw [List.length_append, ← HL.out]; simp; omega⟩, by simp only [intOf]; omega⟩
      · obtain rfl : k = s.size + 1 := by omega
        have RX := Lib.hid (RK.out.done (by rw [SL.out]))
        clear RK q1
        by_cases h3 : L = 3
        · subst h3
          obtain ⟨d, rfl⟩ := three_of HL.out.symm
          obtain ⟨ba, oa, cap, hv1, c0, c1, c2, lb⟩ := rd3 OK.out.rd
          simp only [Value.slice.injEq] at hv1
          obtain ⟨hv1, -, -⟩ := hv1
          simp only [Option.some.injEq, Addr.mk.injEq] at hv1
          obtain ⟨rfl, rfl, -⟩ := hv1
          try simp only [Nat.zero_add] at c0 c1 c2
          have nw := box_ltR NK.out
          obtain ⟨z, hz⟩ := bool_of (SmallC d)
          have HZ := Lib.hid (courseRes_small H.out RX.out hz)
          have C2 := Lib.hid (fun w => l05Small_any d z hz w)
          have nb : ¬ ag = wr.heap.size := by omega
          have kle : ¬ ((s.size + 1 : Nat) : Int) ≤ (s.size : Int) := by omega
          clear hz H RX HL OK ly
          go_wp2
          go_region
          all_goals
            have B2 : Hid (Below w.heap.size w (wr.alloc (.cells #[.int .i64 d.o, .int .i64 d.h, .int .i64 d.t] 27)).drew) := BK.out.trans (((Below.refl _ _).alloc (Nat.le_refl _) _).drew.mono BK.out.size)
            have N2 : Hid ((wr.alloc (.cells #[.int .i64 d.o, .int .i64 d.h, .int .i64 d.t] 27)).drew.heap[w.heap.size]? = some (.cells #[.int .i64 noC.o, .int .i64 noC.h, .int .i64 noC.t] 27 (0, 0))) := (Below.heap_alloc _ _ _ nw).trans NK.out
            have D2 : Hid ((wr.alloc (.cells #[.int .i64 d.o, .int .i64 d.h, .int .i64 d.t] 27)).drew.heap[wr.heap.size]? = some (.cells #[.int .i64 d.o, .int .i64 d.h, .int .i64 d.t] 27 (0, 0))) := heap_alloc_new wr _
            obtain ⟨p, hp⟩ : ∃ p, p = wr.heap.size := ⟨_, rfl⟩
            generalize hu : (wr.alloc (.cells #[.int .i64 d.o, .int .i64 d.h, .int .i64 d.t] 27)).drew = u2 at B2 N2 D2
            have hu' : (wr.alloc (.cells #[.int .i64 d.o, .int .i64 d.h, .int .i64 d.t] 27)).drew = u2 := hu
            try rw [hu']
            rw [← hp] at D2 nw
            rw [← hp]
            have np : ¬ p = w.heap.size := by omega
            clear hu hu' hp NK BK c0 c1 c2 lb nb
            have lp := box_ltR D2.out
            obtain ⟨⟨k0, k1, k2⟩, -⟩ := boxCo_at (q := d) D2.out
            go_wp2_with fail
            refine (C2.out _).mono ?_
            rintro e u3 ⟨rfl, b3⟩
            have N3 := Lib.hid ((b3.block _ (by omega)).trans N2.out)
            have D3 := Lib.hid ((b3.block _ lp).trans D2.out)
            have B3 := Lib.hid (B2.out.trans (b3.mono B2.out.size))
            clear b3 N2 D2 B2 C2 k0 k1 k2
            cases z with
            | false =>
              obtain ⟨rfl, rfl⟩ := HZ.out.2 rfl
              clear HZ D3
              obtain ⟨⟨f0, f1, f2⟩, ⟨y0, y1, y2⟩, -⟩ := boxCo_at (q := noC) N3.out
              have RA := Lib.hid (boxCo_put (q := noC) N3.out noC)
              clear N3
              go_wp2
              obtain ⟨⟨m0, m1, m2⟩, -⟩ := boxCo_at (q := noC) RA.out
              try dsimp only [noC] at m0 m1 m2
              have B := B3.out
              have sz := B.size
              refine bodyPost_ret (v := .tuple #[(.agg #[.int .i64 noC.o, .int .i64 noC.h, .int .i64 noC.t]), .bool false]) (by simp [results, Tryd.results16, go_sem, m0, m1, m2, noC]; try rfl) rfl ⟨rfl, ?_⟩
              go_grown
            | true =>
              obtain ⟨rfl, rfl⟩ := HZ.out.1 rfl
              clear HZ
              obtain ⟨⟨k0, k1, k2⟩, -⟩ := boxCo_at (q := c) D3.out
              clear D3
              obtain ⟨⟨f0, f1, f2⟩, ⟨y0, y1, y2⟩, -⟩ := boxCo_at (q := noC) N3.out
              have RA := Lib.hid (boxCo_put (q := noC) N3.out c)
              clear N3
              go_wp2
              obtain ⟨⟨m0, m1, m2⟩, -⟩ := boxCo_at (q := c) RA.out
              try dsimp only [noC] at m0 m1 m2
              have B := B3.out
              have sz := B.size
              refine bodyPost_ret (v := .tuple #[(.agg #[.int .i64 c.o, .int .i64 c.h, .int .i64 c.t]), .bool true]) (by simp [results, Tryd.results16, go_sem, m0, m1, m2, noC]; try rfl) rfl ⟨rfl, ?_⟩
              go_grown
        · obtain ⟨rfl, rfl⟩ : c = noC ∧ b = false := by
            refine courseRes_no H.out (fun d hd _ => ?_)
            have e := congrArg List.length (RX.out.uniq hd)
            rw [← HL.out] at e
            exact h3 (by simpa using e)
          have g3 : ((L : Int) == 3) = false := by simp; omega
          have kle : ¬ ((s.size + 1 : Nat) : Int) ≤ (s.size : Int) := by omega
          clear H OK RX HL
          obtain ⟨⟨f0, f1, f2⟩, ⟨y0, y1, y2⟩, -⟩ := boxCo_at (q := noC) NK.out
          have RA := Lib.hid (boxCo_put (q := noC) NK.out noC)
          clear NK
          go_wp2
          obtain ⟨⟨m0, m1, m2⟩, -⟩ := boxCo_at (q := noC) RA.out
          try dsimp only [noC] at m0 m1 m2
          have B := BK.out
          have sz := B.size
          refine bodyPost_ret (v := .tuple #[(.agg #[.int .i64 noC.o, .int .i64 noC.h, .int .i64 noC.t]), .bool false]) (by simp [results, Tryd.results16, go_sem, m0, m1, m2, noC]; try rfl) rfl ⟨rfl, ?_⟩
          go_grown
end Go.Proofs.YtkdecpnbbpmooacDoor
