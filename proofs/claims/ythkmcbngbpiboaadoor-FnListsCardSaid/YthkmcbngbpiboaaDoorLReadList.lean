/- Lists read from their texts, on both sides, and the law's walk. -/
import Derived.Test.YthkmcbngbpiboaaDoorSplit2
import Derived.Test.YthkmcbngbpiboaaDoorRd2
namespace Go.Proofs.YthkmcbngbpiboaaDoor
open Go.ChangeShapes Go.WideShapes Go.ChangeAt Go.RowKit
set_option linter.unusedVariables false
set_option linter.unusedSimpArgs false

theorem wordsL_none (c : UInt8) : ∀ (x : List UInt8), c ∉ x → wordsL c x = [x] := by
  intro x
  induction x with
  | nil => intro _; rfl
  | cons b x ih =>
    intro h
    have h1 : ¬ (b == c) = true := by intro e; exact h (by simp [eq_of_beq e])
    unfold wordsL
    rw [if_neg h1, ih (fun m => h (List.mem_cons_of_mem _ m))]
theorem wordsL_app (c : UInt8) (r : List UInt8) : ∀ (x : List UInt8), c ∉ x → wordsL c (x ++ c :: r) = x :: wordsL c r := by
  intro x
  induction x with
  | nil => intro _; show wordsL c (c :: r) = _; rw [wordsL, if_pos (by simp)]
  | cons b x ih =>
    intro h
    have h1 : ¬ (b == c) = true := by intro e; exact h (by simp [eq_of_beq e])
    show wordsL c (b :: (x ++ c :: r)) = _
    rw [wordsL, if_neg h1, ih (fun m => h (List.mem_cons_of_mem _ m))]
/-- The words ahead of f are the texts of ys, and no divider lies from f up to k. -/
def RS (l : List UInt8) (k f : Nat) (ys : List Int) : Prop :=
  f ≤ k ∧ ((k ≤ l.length ∧ ∃ ws, wordsL 44 l = ws ++ wordsL 44 (l.drop f) ∧ Reads ws ys ∧ (44 : UInt8) ∉ (l.drop f).take (k - f)) ∨ (k = l.length + 1 ∧ Reads (wordsL 44 l) ys))
theorem RS.zero (l : List UInt8) : RS l 0 0 [] := ⟨Nat.le_refl _, .inl ⟨Nat.zero_le _, [], rfl, Reads.nil, by simp⟩⟩
theorem RS.skip {l : List UInt8} {k f : Nat} {ys : List Int} {c : UInt8} (h : RS l k f ys) (hc : l[k]? = some c) (hn : c ≠ 44) : RS l (k + 1) f ys := by
  have hk : k < l.length := (List.getElem?_eq_some_iff.1 hc).1
  obtain ⟨hf, ⟨-, ws, h1, h2, h3⟩ | ⟨h1, -⟩⟩ := h
  · refine ⟨by omega, .inl ⟨by omega, ws, h1, h2, ?_⟩⟩
    rw [show k + 1 - f = (k - f) + 1 by omega, List.take_add_one, List.getElem?_drop, show f + (k - f) = k by omega, hc]
    intro hm
    rw [List.mem_append] at hm
    rcases hm with hm | hm
    · exact h3 hm
    · have : (44 : UInt8) = c := by simpa using hm
      exact hn this.symm
  · omega
/-- The word that ends at k. -/
theorem RS.word {l : List UInt8} {k f : Nat} {ys : List Int} (h : RS l k f ys) (hk : l[k]? = some 44 ∨ k = l.length) :
    ∃ ws rs, wordsL 44 l = ws ++ ((l.drop f).take (k - f)) :: rs ∧ Reads ws ys ∧ (k = l.length → rs = []) ∧ (k < l.length → rs = wordsL 44 (l.drop (k + 1))) := by
  obtain ⟨hf, ⟨-, ws, h1, h2, h3⟩ | ⟨h1, -⟩⟩ := h
  · rcases hk with hk | hk
    · have hlt : k < l.length := (List.getElem?_eq_some_iff.1 hk).1
      have e : l.drop f = (l.drop f).take (k - f) ++ 44 :: l.drop (k + 1) := by
        have e1 := (List.take_append_drop (k - f) (l.drop f)).symm
        rw [List.drop_drop, show f + (k - f) = k by omega, List.drop_eq_getElem_cons hlt] at e1
        have e2 : l[k] = 44 := by rw [List.getElem?_eq_getElem hlt] at hk; simpa using hk
        rw [e2] at e1
        exact e1
      refine ⟨ws, wordsL 44 (l.drop (k + 1)), ?_, h2, fun e => by omega, fun _ => rfl⟩
      rw [h1, ← wordsL_app 44 _ _ h3, ← e]
    · refine ⟨ws, [], ?_, h2, fun _ => rfl, fun e => by omega⟩
      have e : (l.drop f).take (k - f) = l.drop f := List.take_of_length_le (by rw [List.length_drop]; omega)
      rw [e] at h3 ⊢
      rw [h1, wordsL_none 44 _ h3]
  · rcases hk with hk | hk
    · have := (List.getElem?_eq_some_iff.1 hk).1; omega
    · omega
theorem RS.bad {l : List UInt8} {k f : Nat} {ys : List Int} (h : RS l k f ys) (hk : l[k]? = some 44 ∨ k = l.length) (hn : ∀ m, ValI m → (l.drop f).take (k - f) ≠ Lib.itoa m) (d : List Int) : ¬ Reads (wordsL 44 l) d := by
  obtain ⟨ws, rs, h1, -⟩ := h.word hk
  exact Reads.bad (i := ws.length) (by rw [h1, List.getElem?_append_right (Nat.le_refl _), Nat.sub_self]; rfl) hn d
theorem RS.many {l : List UInt8} {k f : Nat} {ys : List Int} (h : RS l k f ys) (hk : l[k]? = some 44 ∨ k = l.length) (d : List Int) (r : Reads (wordsL 44 l) d) : ys.length < d.length := by
  obtain ⟨ws, rs, h1, h2, -⟩ := h.word hk
  rw [← r.1, h1, List.length_append, List.length_cons, h2.1]
  omega
theorem RS.next {l : List UInt8} {k f : Nat} {ys : List Int} (h : RS l k f ys) (hk : l[k]? = some 44 ∨ k = l.length) (m : Int) (hm : ValI m) (he : (l.drop f).take (k - f) = Lib.itoa m) : RS l (k + 1) (k + 1) (ys ++ [m]) := by
  obtain ⟨ws, rs, h1, h2, h3, h4⟩ := h.word hk
  refine ⟨Nat.le_refl _, ?_⟩
  have hr := h2.snoc _ m hm he
  by_cases hl : k < l.length
  · refine .inl ⟨by omega, ws ++ [(l.drop f).take (k - f)], ?_, hr, by simp⟩
    rw [h1, h4 hl, List.append_assoc]; rfl
  · have e : k = l.length := by
      rcases hk with hk | hk
      · exact absurd (List.getElem?_eq_some_iff.1 hk).1 hl
      · exact hk
    refine .inr ⟨by omega, ?_⟩
    rw [h1, h3 e]; exact hr
theorem RS.done {l : List UInt8} {k f : Nat} {ys : List Int} (h : RS l k f ys) (hk : k = l.length + 1) : Reads (wordsL 44 l) ys := by
  obtain ⟨-, ⟨h1, -⟩ | ⟨-, h2⟩⟩ := h
  · omega
  · exact h2
theorem ext_bytes (s : ByteArray) (f k : Nat) : (s.extract f k).data.toList = (s.data.toList.drop f).take (k - f) := by simp [List.extract]
theorem ownI_noneR (w : World) : OwnI (w.alloc (.cells #[] 2)) w.heap.size (.slice (some ⟨w.heap.size, 0, none⟩) 0 0) [] := by
  refine ⟨by simp, .inr ⟨w.heap.size, 0, _, rfl, Nat.le_refl _, heap_alloc_new w _, Nat.le_refl _, by unfold maxLen; omega, by simp, by simp⟩⟩


theorem dash_ne {s : ByteArray} (h : s ≠ ⟨#[45]⟩) : (s.toList == [45]) = false := by
  have e := toList_ne (b := ⟨#[45]⟩) h
  rwa [show (⟨#[45]⟩ : ByteArray).toList = [45] from by first | rfl | (rw [ByteArray.toList_eq]; done) | decide | simp] at e
/-- The list of a text, if the text is one's. -/
def RLRes (s : ByteArray) (xs : List Int) (b : Bool) : Prop := (s = ⟨#[45]⟩ ∧ xs = [] ∧ b = true) ∨ (s ≠ ⟨#[45]⟩ ∧ SplitRes 44 64 s.data.toList xs b)
theorem rLRes_of (s : ByteArray) : ∃ xs b, RLRes s xs b := by
  by_cases h : s = ⟨#[45]⟩
  · exact ⟨[], true, .inl ⟨h, rfl, rfl⟩⟩
  · obtain ⟨xs, b, hr⟩ := splitRes_of 44 64 s.data.toList
    exact ⟨xs, b, .inr ⟨h, hr⟩⟩
theorem splitRes_len {c : UInt8} {most : Nat} {l : List UInt8} {xs : List Int} {b : Bool} (h : SplitRes c most l xs b) : xs.length ≤ most := by
  rcases h with h | h
  · rw [← h.2.1.1]; exact h.1
  · rw [h.2.1]; exact Nat.zero_le _
theorem rLRes_len {s : ByteArray} {xs : List Int} {b : Bool} (h : RLRes s xs b) : xs.length ≤ 64 := by
  rcases h with h | h
  · rw [h.2.1]; exact Nat.zero_le _
  · exact splitRes_len h.2

set_option maxRecDepth 100000 in
set_option maxHeartbeats 16000000 in
theorem l01Numbers_no (s : ByteArray) (hs : s.size ≤ 1048576) (hd : s ≠ ⟨#[45]⟩) (xs : List Int) (b : Bool) (h : SplitRes 44 64 s.data.toList xs b) (w : World) :
    Calls Tryd.prog 50 #[.string s] w fun e w' => ∃ v, e = .returned (.tuple #[v, .bool b]) ∧ OwnI w' w.heap.size v xs ∧ Below w.heap.size w w' := by
  obtain ⟨i0, hi, hz0, hz1, hz2⟩ := info_parts info_i64s
  have H := Lib.hid h
  have n1 := dash_ne hd
  have SL : Hid (s.data.toList.length = s.size) := by show _ = _; simp
  have own0 : Hid (OwnI (w.alloc (.cells #[] 2)) w.heap.size (.slice (some ⟨w.heap.size, 0, none⟩) 0 0) []) := ownI_noneR w
  have B0 : Hid (Below w.heap.size w (w.alloc (.cells #[] 2))) := by show Below _ _ _; go_grown
  clear h hd
  go_enter Tryd.func50, Tryd.ntmps50
  go_wp2
  clear n1
  go_loopw [4, 5, 6] (fun v f i wr => ∃ (k fr : Nat) (ys : List Int), k ≤ s.size + 1 ∧ i = .int .i64 (k : Int) ∧ f = .int .i64 (fr : Int) ∧ (∃ ag m cap, v = .slice (some ⟨ag, 0, none⟩) m cap) ∧ Hid (OwnI wr w.heap.size v ys) ∧ Hid (Below w.heap.size w wr) ∧ Hid (RS s.data.toList k fr ys) ∧ ys.length ≤ 64) (fun _ _ i _ => s.size + 1 - (intOf i).toNat)
  case atStart => exact ⟨0, 0, [], by omega, by simp, by simp, ⟨_, _, _, rfl⟩, own0, B0, RS.zero _, by simp⟩
  case round =>
    obtain ⟨k, fr, ys, hk, rfl, rfl, ⟨ag, L, cap0, rfl⟩, OK, BK, RK, ly⟩ := hrel
    clear own0 B0
    have hL : L = ys.length := by
      obtain ⟨a, c, h, _⟩ := OK.out.rd
      simp only [Value.slice.injEq] at h
      exact h.2.1
    rw [← hL] at ly
    have HL := Lib.hid hL
    clear hL
    have sz := BK.out.size
    have fk := RK.out.1
    have q1 : IntKind.i64.wrap ((k : Int) + 1) = ((k + 1 : Nat) : Int) := by push_cast; exact IntWalk.i64_in _ (by omega)
    by_cases hlt : k < s.size
    · have hc : s.data.toList[k]? = some s[k] := byte_of s k hlt
      by_cases h44 : s[k] = 44
      · have e44 : ((s[k].toNat : Int) == 44) = true := by rw [h44]; rfl
        have KC : Hid (s.data.toList[k]? = some 44) := by show _ = _; rw [hc, h44]
        clear hc h44
        have HK : Hid (s.data.toList[k]? = some 44 ∨ k = s.data.toList.length) := .inl KC.out
        obtain ⟨n, d, hy⟩ := decRes_of (s.extract fr k).data.toList
        have C2 := Lib.hid (fun w => l01Value_any (s.extract fr k) (by rw [ByteArray.size_extract]; omega) n d hy w)
        have HY := Lib.hid hy
        clear hy
        go_wp2_with fail
        refine (C2.out _).mono ?_
        rintro e w2 ⟨rfl, b2⟩
        have z2 := b2.size
        have O2 : Hid (OwnI w2 w.heap.size (.slice (some ⟨ag, 0, none⟩) L cap0) ys) := OK.out.below b2 fun j e => (OK.out.lt j e).2
        have B2 : Hid (Below w.heap.size w w2) := BK.out.trans (b2.mono sz)
        clear b2 OK BK C2
        cases d with
        | false =>
          have hyy : ∀ m, ValI m → (s.data.toList.drop fr).take (k - fr) ≠ Lib.itoa m := by
            rw [← ext_bytes]
            rcases HY.out with ⟨m, -, -, -, h3⟩ | ⟨h1, -, -⟩
            · cases h3
            · exact h1
          obtain ⟨rfl, rfl⟩ := splitRes_no H.out (fun hh => by
            obtain ⟨-, zs, hz⟩ := hh
            exact RK.out.bad HK.out hyy _ hz)
          clear H HY HK RK O2
          go_wp2
          go_ret2
          exact ⟨_, rfl, World.ownsRow_nil _ _ _ _, B2.out⟩
        | true =>
          have hyy : ValI n ∧ (s.data.toList.drop fr).take (k - fr) = Lib.itoa n := by
            rw [← ext_bytes]
            rcases HY.out with ⟨m, h1, h2, h3, -⟩ | ⟨-, -, h3⟩
            · subst h3; exact ⟨h1, h2⟩
            · cases h3
          by_cases h3 : L = 64
          · obtain ⟨rfl, rfl⟩ := splitRes_no H.out (fun hh => by
              obtain ⟨h1, zs, hz⟩ := hh
              have := RK.out.many HK.out _ hz
              rw [← HL.out, h3, ← hz.1] at this
              omega)
            have g3 : ((L : Int) == 64) = true := by rw [h3]; rfl
            clear H HY HK RK O2 hyy
            go_wp2
            go_ret2
            exact ⟨_, rfl, World.ownsRow_nil _ _ _ _, B2.out⟩
          · have g3 : ((L : Int) == 64) = false := by simp; omega
            have RK2 := Lib.hid (RK.out.next HK.out n hyy.1 hyy.2)
            have own := O2.out
            unfold OwnI at own
            rw [← HL.out] at own
            have OWN := Lib.hid own
            clear own HY HK RK hyy
            go_wp2_with (first | (at_builtin; refine wpList_append_lies _ rfl _ _ _ rfl w.heap.size 2 i0 _ 1 8 Tryd.underlying27 hi hz0 hz1 hz2 rfl (by omega) _ _ _ rfl (OWN.out.alloc _) ⟨w2.heap.size, 0, none⟩ 1 1 [.int .i64 n] rfl rfl (World.news_of_block (cs := #[.int .i64 n]) (t := 2) (fr := (0, 0)) (heap_alloc_new w2 _)) (by simp [Value.oneCell']) (by omega) (by unfold maxLen; omega) (by omega) (by simp only [World.size_alloc]; omega) _ rfl ?_) | fail)
            intro gg cap1 w5 hown1 hgrow hat hlt'
            have O5 : Hid (OwnI w5 w.heap.size (.slice (some ⟨gg, 0, none⟩) (L + 1) cap1) (ys ++ [n])) := by
              show OwnI _ _ _ _
              unfold OwnI
              rw [List.length_append, ← HL.out, List.map_append]
              exact hown1
            have gr := grownBy_trans' (World.grownBy_alloc w2 _ _) hgrow
            have B5 : Hid (Below w.heap.size w w5) := B2.out.grown gr (by omega) (fun j e => (O2.out.lt j e).1)
            clear hown1 hgrow hat hlt' OWN O2 B2 gr
            go_wp2
            exact ⟨⟨k + 1, k + 1, ys ++ [n], by omega, by push_cast; rfl, by push_cast; rfl, ⟨_, _, _, rfl⟩, O5, B5, RK2, by rw [List.length_append, ← HL.out]; simp; omega⟩, by simp only [intOf]; omega⟩
      · have e44 : ((s[k].toNat : Int) == 44) = false := by
          rw [beq_eq_false_iff_ne]
          intro e
          exact h44 (UInt8.toNat_inj.1 (by simpa using (by exact_mod_cast e : s[k].toNat = 44)))
        have RK2 := Lib.hid (RK.out.skip hc h44)
        clear hc h44 RK
        go_wp2
        exact ⟨⟨k + 1, fr, ys, by omega, by push_cast; rfl, rfl, ⟨_, _, _, rfl⟩, OK, BK, RK2, by rw [← HL.out]; exact ly⟩, by simp only [intOf]; omega⟩
    · by_cases hle : k = s.size
      · have hki : ¬ (k : Int) < (s.size : Int) := by omega
        have hks : k ≤ s.size := by omega
        have HLE := Lib.hid hle
        clear hle
        have HK : Hid (s.data.toList[k]? = some 44 ∨ k = s.data.toList.length) := .inr (by rw [SL.out]; exact HLE.out)
        obtain ⟨n, d, hy⟩ := decRes_of (s.extract fr k).data.toList
        have C2 := Lib.hid (fun w => l01Value_any (s.extract fr k) (by rw [ByteArray.size_extract]; omega) n d hy w)
        have HY := Lib.hid hy
        clear hy
        go_wp2_with fail
        refine (C2.out _).mono ?_
        rintro e w2 ⟨rfl, b2⟩
        have z2 := b2.size
        have O2 : Hid (OwnI w2 w.heap.size (.slice (some ⟨ag, 0, none⟩) L cap0) ys) := OK.out.below b2 fun j e => (OK.out.lt j e).2
        have B2 : Hid (Below w.heap.size w w2) := BK.out.trans (b2.mono sz)
        clear b2 OK BK C2
        cases d with
        | false =>
          have hyy : ∀ m, ValI m → (s.data.toList.drop fr).take (k - fr) ≠ Lib.itoa m := by
            rw [← ext_bytes]
            rcases HY.out with ⟨m, -, -, -, h3⟩ | ⟨h1, -, -⟩
            · cases h3
            · exact h1
          obtain ⟨rfl, rfl⟩ := splitRes_no H.out (fun hh => by
            obtain ⟨-, zs, hz⟩ := hh
            exact RK.out.bad HK.out hyy _ hz)
          clear H HY HK RK O2
          go_wp2
          go_ret2
          exact ⟨_, rfl, World.ownsRow_nil _ _ _ _, B2.out⟩
        | true =>
          have hyy : ValI n ∧ (s.data.toList.drop fr).take (k - fr) = Lib.itoa n := by
            rw [← ext_bytes]
            rcases HY.out with ⟨m, h1, h2, h3, -⟩ | ⟨-, -, h3⟩
            · subst h3; exact ⟨h1, h2⟩
            · cases h3
          by_cases h3 : L = 64
          · obtain ⟨rfl, rfl⟩ := splitRes_no H.out (fun hh => by
              obtain ⟨h1, zs, hz⟩ := hh
              have := RK.out.many HK.out _ hz
              rw [← HL.out, h3, ← hz.1] at this
              omega)
            have g3 : ((L : Int) == 64) = true := by rw [h3]; rfl
            clear H HY HK RK O2 hyy
            go_wp2
            go_ret2
            exact ⟨_, rfl, World.ownsRow_nil _ _ _ _, B2.out⟩
          · have g3 : ((L : Int) == 64) = false := by simp; omega
            have RK2 := Lib.hid (RK.out.next HK.out n hyy.1 hyy.2)
            have own := O2.out
            unfold OwnI at own
            rw [← HL.out] at own
            have OWN := Lib.hid own
            clear own HY HK RK hyy
            go_wp2_with (first | (at_builtin; refine wpList_append_lies _ rfl _ _ _ rfl w.heap.size 2 i0 _ 1 8 Tryd.underlying27 hi hz0 hz1 hz2 rfl (by omega) _ _ _ rfl (OWN.out.alloc _) ⟨w2.heap.size, 0, none⟩ 1 1 [.int .i64 n] rfl rfl (World.news_of_block (cs := #[.int .i64 n]) (t := 2) (fr := (0, 0)) (heap_alloc_new w2 _)) (by simp [Value.oneCell']) (by omega) (by unfold maxLen; omega) (by omega) (by simp only [World.size_alloc]; omega) _ rfl ?_) | fail)
            intro gg cap1 w5 hown1 hgrow hat hlt'
            have O5 : Hid (OwnI w5 w.heap.size (.slice (some ⟨gg, 0, none⟩) (L + 1) cap1) (ys ++ [n])) := by
              show OwnI _ _ _ _
              unfold OwnI
              rw [List.length_append, ← HL.out, List.map_append]
              exact hown1
            have gr := grownBy_trans' (World.grownBy_alloc w2 _ _) hgrow
            have B5 : Hid (Below w.heap.size w w5) := B2.out.grown gr (by omega) (fun j e => (O2.out.lt j e).1)
            clear hown1 hgrow hat hlt' OWN O2 B2 gr
            go_wp2
            exact ⟨⟨k + 1, k + 1, ys ++ [n], by omega, by push_cast; rfl, by push_cast; rfl, ⟨_, _, _, rfl⟩, O5, B5, RK2, by rw [List.length_append, ← HL.out]; simp; omega⟩, by simp only [intOf]; omega⟩
      · obtain rfl : k = s.size + 1 := by omega
        have RX := RK.out.done (by rw [SL.out])
        have kle : ¬ ((s.size + 1 : Nat) : Int) ≤ (s.size : Int) := by omega
        obtain ⟨rfl, rfl⟩ := splitRes_yes H.out (by rw [RX.1, ← HL.out]; exact ly) RX
        clear RK q1 RX H
        go_wp2
        go_ret2
        exact ⟨_, rfl, OK.out, BK.out⟩

set_option maxHeartbeats 4000000 in
theorem l01Numbers_dash (w : World) :
    Calls Tryd.prog 50 #[.string ⟨#[45]⟩] w fun e w' => ∃ v, e = .returned (.tuple #[v, .bool true]) ∧ OwnI w' w.heap.size v [] ∧ Below w.heap.size w w' := by
  have own0 : Hid (OwnI (w.alloc (.cells #[] 2)) w.heap.size (.slice (some ⟨w.heap.size, 0, none⟩) 0 0) []) := ownI_noneR w
  have B0 : Hid (Below w.heap.size w (w.alloc (.cells #[] 2))) := by show Below _ _ _; go_grown
  go_enter Tryd.func50, Tryd.ntmps50
  go_wp2
  go_ret2
  exact ⟨_, rfl, own0.out, B0.out⟩

set_option maxHeartbeats 4000000 in
theorem specReadL_any (s : ByteArray) (hs : s.size ≤ 1048576) (xs : List Int) (b : Bool) (h : RLRes s xs b) (w : World) :
    Calls Tryd.prog 19 #[.string s] w fun e w' => ∃ v, e = .returned (.tuple #[v, .bool b]) ∧ OwnI w' w.heap.size v xs ∧ Below w.heap.size w w' := by
  have C : Hid (Calls Tryd.prog 50 #[.string s] w fun e w' => ∃ v, e = .returned (.tuple #[v, .bool b]) ∧ OwnI w' w.heap.size v xs ∧ Below w.heap.size w w') := by
    rcases h with ⟨rfl, rfl, rfl⟩ | ⟨h1, h2⟩
    · exact l01Numbers_dash w
    · exact l01Numbers_no s hs h1 xs b h2 w
  clear h hs
  go_enter Tryd.func19, Tryd.ntmps19
  go_wp2_with fail
  refine C.out.mono ?_
  rintro e w1 ⟨v, rfl, o1, b1⟩
  have O1 := Lib.hid o1
  have B1 := Lib.hid b1
  clear o1 b1 C
  go_wp2
  go_ret2
  exact ⟨_, rfl, O1.out, B1.out⟩

set_option maxHeartbeats 4000000 in
theorem implReadL_any (s : ByteArray) (hs : s.size ≤ 1048576) (xs : List Int) (b : Bool) (h : RLRes s xs b) (w : World) (hT : TSp w) :
    Calls Tryd.prog 20 #[.string s] w fun e w' => ∃ v, e = .returned (.tuple #[v, .bool b]) ∧ OwnI w' w.heap.size v xs ∧ Below w.heap.size w w' := by
  rcases h with ⟨rfl, rfl, rfl⟩ | ⟨h1, h2⟩
  · clear hs hT
    go_enter Tryd.func20, Tryd.ntmps20
    go_wp2
    go_ret2
    exact ⟨_, rfl, World.ownsRow_nil _ _ _ _, Below.refl _ _⟩
  · have C := Lib.hid (splitInts_any s hs 44 64 (by omega) (by omega) xs b h2 w hT)
    have n1 := dash_ne h1
    clear h1 h2 hT hs
    go_enter Tryd.func20, Tryd.ntmps20
    go_wp2_with fail
    refine C.out.mono ?_
    rintro e w1 ⟨v, rfl, o1, b1⟩
    have O1 := Lib.hid o1
    have B1 := Lib.hid b1
    clear o1 b1 C n1
    go_wp2
    go_ret2
    exact ⟨_, rfl, O1.out, B1.out⟩
theorem own_apartR (v1 v2 : Value) (B : Nat) (h1 : ∀ k, v1.ownBlock = some k → k < B) (h2 : ∀ k, v2.ownBlock = some k → B ≤ k) : v1.ownBlock = none ∨ v1.ownBlock ≠ v2.ownBlock := by
  cases e1 : v1.ownBlock with
  | none => exact .inl rfl
  | some k =>
    refine .inr fun h => ?_
    have a := h1 k e1
    have b := h2 k h.symm
    omega
set_option maxHeartbeats 4000000 in
theorem readList_law (s : ByteArray) (hs : (s.size : Int) ≤ 1048576) (L : List Int) (b : Bool) (hL : L.length ≤ 64)
    (cs : Hid (∀ w : World, Calls Tryd.prog 19 #[.string s] w fun e w' => ∃ v, e = .returned (.tuple #[v, .bool b]) ∧ OwnI w' w.heap.size v L ∧ Below w.heap.size w w'))
    (ci : Hid (∀ w : World, TSp w → Calls Tryd.prog 20 #[.string s] w fun e w' => ∃ v, e = .returned (.tuple #[v, .bool b]) ∧ OwnI w' w.heap.size v L ∧ Below w.heap.size w w')) (w : World) (hT : TSp w) :
    Calls Tryd.prog 6 #[.string s] w fun e w' => e = .returned (.bool true) ∧ Below w.heap.size w w' := by
  have HT := Lib.hid hT
  clear hT
  go_enter Tryd.func6, Tryd.ntmps6
  go_wp2_with fail
  refine (cs.out w).mono ?_
  rintro e x1 ⟨v1, rfl, o1, e1⟩
  have L1 : Hid (∀ k, v1.ownBlock = some k → k < x1.heap.size) := fun k hk => (o1.lt k hk).2
  have O1 := Lib.hid o1
  have E1 := Lib.hid e1
  clear o1 e1
  go_wp2_with fail
  refine (ci.out x1 (HT.out.later E1.out)).mono ?_
  rintro e x2 ⟨v2, rfl, o2, e2⟩
  have O1' : Hid (OwnI x2 w.heap.size v1 L) := O1.out.below e2 (fun k hk => (O1.out.lt k hk).2)
  have E2 : Hid (Below w.heap.size w x2) := E1.out.trans (e2.mono E1.out.size)
  have O2 := Lib.hid o2
  have SZ := E1.out.size
  have SZ2 := e2.size
  clear o2 O1 E1 e2
  go_wp2_with fail
  refine (eqInts_any v2 v1 L L x2 O2.out.rd O1'.out.rd (by omega) (by omega) true (by simp) ).mono ?_
  rintro e x3 ⟨rfl, n1, rfl⟩
  go_wp2_with fail
  refine (markInts_any v2 L (x2.drewN n1) x1.heap.size (O2.out.drewN n1) (by omega) 1 (by omega) (by omega)).mono ?_
  rintro e x4 ⟨rfl, o4, g4⟩
  have O1'' : Hid (OwnI x4 w.heap.size v1 L) := (O1'.out.drewN n1).kept g4 (own_apartR v1 v2 x1.heap.size L1.out (fun k hk => (O2.out.lt k hk).1))
  have E4 : Hid (Below w.heap.size w x4) := (below_drewN E2.out n1).grown g4 (by simp; omega) (fun k hk => by have := (O2.out.lt k hk).1; omega)
  have O4 := Lib.hid o4
  have SZ4 : x2.heap.size ≤ x4.heap.size := g4.size
  clear o4 g4 O1' O2 E2
  go_wp2_with fail
  refine (heldInts_any v2 L.length 1 x4 O4.out.rd (by omega) (by omega) (by omega)).mono ?_
  rintro e x5 ⟨rfl, rfl⟩
  go_wp2_with fail
  refine (ci.out x4 (HT.out.later E4.out)).mono ?_
  rintro e x6 ⟨v3, rfl, o6, e6⟩
  have O1 : Hid (OwnI x6 w.heap.size v1 L) := O1''.out.below e6 (fun k hk => (O1''.out.lt k hk).2)
  have O2 : Hid (OwnI x6 x1.heap.size v2 (upFrom 1 L.length)) := O4.out.below e6 (fun k hk => (O4.out.lt k hk).2)
  have E6 : Hid (Below w.heap.size w x6) := E4.out.trans (e6.mono E4.out.size)
  have O6 := Lib.hid o6
  clear o6 e6 O1'' O4 E4
  go_wp2_with fail
  refine (eqInts_any v3 v1 L L x6 O6.out.rd O1.out.rd (by omega) (by omega) true (by simp)).mono ?_
  rintro e x7 ⟨rfl, n2, rfl⟩
  go_wp2_with fail
  refine (heldInts_any v2 L.length 1 (x6.drewN n2) (O2.out.drewN n2).rd (by omega) (by omega) (by omega)).mono ?_
  rintro e x8 ⟨rfl, rfl⟩
  go_wp2_with fail
  go_ret
  exact ⟨rfl, below_drewN E6.out n2⟩
theorem walkFnExactReadList (s : ByteArray) (hs : s.size ≤ maxLen) (w : World) (hT : TSp w) :
    Calls Tryd.prog 6 #[.string s] w fun e w' => e = .returned (.bool true) ∧ Below w.heap.size w w' := by
  obtain ⟨L, b, h⟩ := rLRes_of s
  unfold maxLen at hs
  by_cases hl : (1048576 : Int) < (s.size : Int)
  · clear h hT
    go_enter Tryd.func6, Tryd.ntmps6
    go_wp2
    go_ret
    exact ⟨rfl, Below.refl _ _⟩
  · exact readList_law s (by omega) L b (rLRes_len h) (fun w => specReadL_any s (by omega) L b h w) (fun w hT => implReadL_any s (by omega) L b h w hT) w hT
end Go.Proofs.YthkmcbngbpiboaaDoor
