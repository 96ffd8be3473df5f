/- Minors and determinants: of the program. (Written by tools/mkdet.py.) -/
import Derived.Test.YtcmocilojloolaaDoorMatM
import Derived.Test.YtcmocilojloolaaDoorConcatY
import Derived.Test.YtcmocilojloolaaDoorPushR
import Derived.Deep.RegionLaw
import Derived.Deep.DeepCutAuto
namespace Go.Proofs.YtcmocilojloolaaDoor
open Go.ChangeShapes Go.WideShapes Go.ChangeAt Go.RowKit
set_option linter.unusedVariables false
set_option linter.unusedSimpArgs false

theorem rdSS2 {w : World} {N n1 n2 : Nat} {x y : Sl} (hN : w.heap[N]? = some (.cells #[.slice x.a n1 x.c, .slice y.a n2 y.c] 28 (0, 0))) (h1 : n1 = x.t.length) (h2 : n2 = y.t.length) (r1 : RdI w x.u x.t) (r2 : RdI w y.u y.t) : RdSS w (.slice (some ⟨N, 0, none⟩) 2 2) [x, y] := by
  subst h1
  subst h2
  refine ⟨⟨_, 2, rfl, .inr ⟨N, 0, rfl, fun i z hz j u hu => ?_⟩⟩, fun z hz => ?_⟩
  · have hj : j = 0 := by
      have := (List.getElem?_eq_some_iff.1 hu).1
      simp [encSl] at this; omega
    subst hj
    simp only [encSl, List.getElem?_cons_zero, Option.some.injEq] at hu
    subst hu
    rw [cell_of_row w N _ _ _ _ hN]
    match i, hz with
    | 0, hz => simp at hz; subst hz; simp
    | 1, hz => simp at hz; subst hz; simp
    | i + 2, hz => simp at hz
  · simp only [List.mem_cons, List.not_mem_nil, or_false] at hz
    rcases hz with rfl | rfl
    · exact r1
    · exact r2
theorem RdI.cut {w : World} {b off n c : Nat} {L : List Int} (h : RdI w (.slice (some ⟨b, off, none⟩) n c) L) (i j c' : Nat) (hj : i + j ≤ L.length) (hne : j ≠ 0 → True) : RdI w (.slice (some ⟨b, off + i, none⟩) j c') ((L.drop i).take j) := by
  obtain ⟨a', c0, e, h1 | ⟨b', off', e2, h1⟩⟩ := h
  · subst h1
    have : j = 0 := by simp at hj; omega
    subst this
    exact ⟨some ⟨b, off + i, none⟩, c', by simp, .inl (by simp)⟩
  · simp only [Value.slice.injEq] at e
    rw [e2] at e
    simp only [Option.some.injEq, Addr.mk.injEq, and_true] at e
    obtain ⟨⟨rfl, rfl⟩, -, rfl⟩ := e
    refine ⟨_, c', by rw [List.length_take, List.length_drop]; congr 1; omega, .inr ⟨b, off + i, rfl, fun k x hx => ?_⟩⟩
    rw [List.getElem?_take] at hx
    split at hx
    · rw [List.getElem?_drop] at hx
      rw [Nat.add_assoc]
      exact h1 _ _ hx
    · cases hx
theorem rdI_nil (w : World) (a : Option Addr) (c : Nat) : RdI w (.slice a 0 c) [] := ⟨a, c, rfl, .inl rfl⟩

/-- A square matrix of k rows, as it is read, with room enough for slices of its own. -/
structure Sq (w : World) (k : Nat) (a : Option Addr) (cap : Nat) (xs : List Sl) : Prop where
  rd : RdSS w (.slice a k cap) xs
  len : xs.length = k
  cap : k ≤ cap
  row : ∀ x ∈ xs, x.t.length = k ∧ k ≤ x.c
theorem Sq.later {w w' : World} {k cap : Nat} {a : Option Addr} {xs : List Sl} (h : Sq w k a cap xs) (b : Below w.heap.size w w') : Sq w' k a cap xs := ⟨h.rd.later b, h.len, h.cap, h.row⟩

theorem underlying_rows : Tryd.prog.underlying 61 = some (.slice 28) := Tryd.underlying61
set_option maxRecDepth 100000 in
set_option maxHeartbeats 8000000 in
theorem minor_nil (cap : Nat) (a : Option Addr) (xs : List Sl) (w : World) (hs : Sq w 1 a cap xs) :
    Calls Tryd.prog 114 #[.slice a 1 cap, .int .i64 0] w fun e w' => ∃ (a' : Option Addr) (c' : Nat), e = .returned (.slice a' 0 c') ∧ Sq w' 0 a' c' [] ∧ Below w.heap.size w w' := by
  obtain ⟨j0, hj, hy0, hy1, hy2⟩ := info_parts info_SlS
  obtain ⟨x, hx⟩ : ∃ x, xs[0]? = some x := ⟨_, List.getElem?_eq_getElem (by have := hs.len; omega)⟩
  obtain ⟨b, off, rfl, -, -, -⟩ := hs.rd.at hx
  have cp := hs.cap
  clear hs hx
  by_cases hc : cap = 1
  · subst hc
    go_enter Tryd.func114, Tryd.ntmps114
    go_wp2_with (first | (at_make; refine wpList_make_own _ rfl _ _ _ rfl w.heap.size 28 j0 (.slice none 0 0) 1 Tryd.underlying61 hj hy0 hy1 .i64 .i64 _ 0 rfl rfl rfl ?b2 ?b3 (Nat.le_refl _) ?_) | go_in)
    case b2 => omega
    case b3 => unfold maxLen; omega
    intro w1 hown hg
    have BB := Lib.hid ((Below.refl w.heap.size w).grown hg (Nat.le_refl _) (fun k h => by cases h))
    have SS1 : Hid (Sq w1 0 (some ⟨w.heap.size, 0, none⟩) 0 []) := ⟨⟨⟨_, 0, rfl, .inl rfl⟩, fun x hx => by simp at hx⟩, rfl, Nat.le_refl _, fun x hx => by simp at hx⟩
    clear hown hg
    go_wp2
    go_loopw [5, 15] (fun v i wr => v = .slice (some ⟨w.heap.size, 0, none⟩) 0 0 ∧ i = .int .i64 0 ∧ wr = w1) (fun _ _ _ => 0)
    case atStart => exact ⟨rfl, rfl, rfl⟩
    case round =>
      obtain ⟨rfl, rfl, rfl⟩ := hrel
      go_wp2
      go_ret
      exact ⟨_, _, rfl, SS1.out, BB.out⟩
  · have cp2 : ¬ cap = 1 := hc
    have cp3 : 1 < cap := by omega
    go_enter Tryd.func114, Tryd.ntmps114
    go_wp2_with (first | (at_make; refine wpList_make_own _ rfl _ _ _ rfl w.heap.size 28 j0 (.slice none 0 0) 1 Tryd.underlying61 hj hy0 hy1 .i64 .i64 _ 0 rfl rfl rfl ?b2 ?b3 (Nat.le_refl _) ?_) | go_in)
    case b2 => omega
    case b3 => unfold maxLen; omega
    intro w1 hown hg
    have BB := Lib.hid ((Below.refl w.heap.size w).grown hg (Nat.le_refl _) (fun k h => by cases h))
    have SS1 : Hid (Sq w1 0 (some ⟨w.heap.size, 0, none⟩) 0 []) := ⟨⟨⟨_, 0, rfl, .inl rfl⟩, fun x hx => by simp at hx⟩, rfl, Nat.le_refl _, fun x hx => by simp at hx⟩
    clear hown hg
    go_wp2
    go_loopw [5, 15] (fun v i wr => v = .slice (some ⟨w.heap.size, 0, none⟩) 0 0 ∧ i = .int .i64 0 ∧ wr = w1) (fun _ _ _ => 0)
    case atStart => exact ⟨rfl, rfl, rfl⟩
    case round =>
      obtain ⟨rfl, rfl, rfl⟩ := hrel
      go_wp2
      go_ret
      exact ⟨_, _, rfl, SS1.out, BB.out⟩

set_option maxRecDepth 100000 in
set_option maxHeartbeats 16000000 in
theorem minor_any (m cap c : Nat) (a : Option Addr) (xs : List Sl) (w : World) (hm : 1 ≤ m ∧ m ≤ 4) (hc : c ≤ m) (hs : Sq w (m + 1) a cap xs) :
    Calls Tryd.prog 114 #[.slice a (m + 1) cap, .int .i64 c] w fun e w' => ∃ (a' : Option Addr) (c' : Nat) (ys : List Sl), e = .returned (.slice a' m c') ∧ Sq w' m a' c' ys ∧ ys.map Sl.t = minorL (xs.map Sl.t) c ∧ Below w.heap.size w w' := by
  obtain ⟨j0, hj, hy0, hy1, hy2⟩ := info_parts info_SlS
  obtain ⟨x0, hx0⟩ : ∃ x, xs[0]? = some x := ⟨_, List.getElem?_eq_getElem (by have := hs.len; omega)⟩
  obtain ⟨b, off, rfl, -, -, -⟩ := hs.rd.at hx0
  have cp := hs.cap
  have cp2 : ¬ cap = 1 := by omega
  have cp3 : 1 < cap := by omega
  have qm : IntKind.i64.wrap (((m + 1 : Nat) : Int) - 1) = (m : Int) := by rw [IntWalk.i64_in _ (by omega)]; omega
  have qm2 : IntKind.i64.wrap ((m : Int) + 1 - 1) = (m : Int) := by rw [IntWalk.i64_in _ (by omega)]; omega
  have XL := Lib.hid hs.len
  have RW := Lib.hid hs.row
  have RD := Lib.hid hs.rd
  have MLN : Hid ((minorL (xs.map Sl.t) c).length = m) := by show _ = _; rw [minorL_len]; simp [hs.len]
  have MLG : Hid (∀ i x, xs[i + 1]? = some x → (minorL (xs.map Sl.t) c)[i]? = some (x.t.take c ++ x.t.drop (c + 1))) := by
    intro i x hx
    simp [minorL, List.getElem?_tail, hx]
  clear hs hx0
  go_enter Tryd.func114, Tryd.ntmps114
  go_wp2_with (first | (at_make; refine wpList_make_own _ rfl _ _ _ rfl w.heap.size 28 j0 (.slice none 0 0) 1 Tryd.underlying61 hj hy0 hy1 .i64 .i64 _ m rfl rfl (by first | rfl | exact qm | exact qm2) ?b2 ?b3 (Nat.le_refl _) ?_) | go_in)
  case b2 => rw [hy2]; omega
  case b3 => unfold maxLen; omega
  intro w1 hown hg
  have l1 := World.ownsRow.lt hown w.heap.size rfl
  have O1 : Hid (OwnSS w1 w.heap.size w1.heap.size (.slice (some ⟨w.heap.size, 0, none⟩) 0 m) []) :=
    ⟨hown, fun k e => (World.ownsRow.lt hown k e).2, fun x hx => by simp at hx, fun x hx => by simp at hx, fun i j x y k h => by simp at h, Nat.le_refl _⟩
  have B1 := Lib.hid ((Below.refl w.heap.size w).grown hg (Nat.le_refl _) (fun k h => by cases h))
  clear hown hg l1
  go_wp2
  go_loopw [5, 7, 15] (fun v _ iv wr => ∃ (i c1 : Nat) (ad : Option Addr) (ys : List Sl), i ≤ m ∧ iv = .int .i64 i ∧ v = .slice ad i c1 ∧ Hid (ys.map Sl.t = (minorL (xs.map Sl.t) c).take i) ∧ Hid (i = ys.length) ∧ Hid (∀ y ∈ ys, m ≤ y.c) ∧ Hid (OwnSS wr w.heap.size wr.heap.size (.slice ad i c1) ys) ∧ Hid (Below w.heap.size w wr)) (fun _ _ iv _ => m - (intOf iv).toNat)
  case atStart => exact ⟨0, m, _, [], by omega, rfl, rfl, by show _ = _; simp, rfl, fun y hy => by simp at hy, O1, B1⟩
  case round =>
    obtain ⟨i, c1, ad, ys, hi', rfl, rfl, hyt, hyl, hyc, ho, B⟩ := hrel
    clear O1 B1
    by_cases hlt : i < m
    · obtain ⟨x, hx⟩ : ∃ x, xs[i + 1]? = some x := ⟨_, List.getElem?_eq_getElem (by have := XL.out; omega)⟩
      obtain ⟨b', off', eb, d1, rx, -⟩ := (RD.out.later B.out).at hx
      simp only [Option.some.injEq, Addr.mk.injEq, and_true] at eb
      obtain ⟨rfl, rfl⟩ := eb
      rw [← Nat.add_assoc, Nat.add_right_comm] at d1
      obtain ⟨lx, cx⟩ := RW.out x (List.mem_of_getElem? hx)
      have G := Lib.hid (MLG.out i x hx)
      rw [lx] at d1 rx
      obtain ⟨xa, xc, xt⟩ := x
      simp only at lx cx rx d1 G
      obtain ⟨bx, ox, rfl⟩ : ∃ bx ox, xa = some ⟨bx, ox, none⟩ := by
        obtain ⟨a', c0, e, h1 | ⟨b', off', e2, h1⟩⟩ := id rx
        · rw [h1] at lx; simp at lx
        · simp only [Value.slice.injEq] at e
          exact ⟨b', off', e.1.trans e2⟩
      have LX := Lib.hid lx
      have RX := Lib.hid rx
      have sz := B.out.size
      clear hx rx lx
      have q1 : IntKind.i64.wrap ((c : Int) + 1) = ((c + 1 : Nat) : Int) := by rw [IntWalk.i64_in _ (by omega)]; push_cast; rfl
      have i1 : (c : Int) ≤ (xc : Int) := by omega
      have i2 : (c : Int) + 1 ≤ (m : Int) + 1 := by omega
      have i3 : (0 : Int) ≤ (c : Int) + 1 := by omega
      have i4 : (c : Int) ≤ (c : Int) + 1 := by omega
      by_cases hcc : xc = c + 1

      · obtain rfl : c = m := by omega
        subst hcc
        have C : Hid (∀ wq : World, Below wr.heap.size wr wq → wq.heap[wr.heap.size]? = some (.cells #[.slice (some ⟨bx, ox, none⟩) c (c + 1), .slice (some ⟨bx, ox, none⟩) 0 0] 28 (0, 0)) → Calls Tryd.prog 118 #[.slice (some ⟨wr.heap.size, 0, none⟩) 2 2] wq fun e w' => ∃ u, e = .returned u ∧ OwnI w' wq.heap.size u (xt.take c ++ xt.drop (c + 1)) ∧ Below wq.heap.size wq w') := by
          intro wq BB hN
          have := concatS_any (.slice (some ⟨wr.heap.size, 0, none⟩) 2 2) [⟨some ⟨bx, ox, none⟩, (c + 1), xt.take c⟩, ⟨some ⟨bx, ox, none⟩, 0, xt.drop (c + 1)⟩] wq (rdSS2 hN (by have := LX.out; simp; omega) (by have := LX.out; simp; omega) (by
            have := (RX.out.later BB).cut 0 c (c + 1) (by have := LX.out; omega) (fun _ => trivial)
            rw [List.drop_zero, Nat.add_zero] at this
            show RdI _ (.slice _ (xt.take c).length _) _
            rw [List.length_take, Nat.min_eq_left (by have := LX.out; omega)]; exact this) (by have e : xt.drop (c + 1) = [] := List.drop_of_length_le (by have := LX.out; omega); show RdI _ (.slice _ (xt.drop (c + 1)).length _) _; rw [e]; exact rdI_nil _ _ _)) (by simp) (by have := LX.out; simp [sumT]; omega)
          simpa using this
        have L5 : Hid ((xt.take c ++ xt.drop (c + 1)).length = c) := by show _ = _; have := LX.out; simp; omega
        have HB : Hid (Below wr.heap.size wr (wr.alloc (.cells #[.slice (some ⟨bx, ox, none⟩) c (c + 1), .slice (some ⟨bx, ox, none⟩) 0 0] 28)).drew) := by show Below _ _ _; go_grown
        have HA : Hid ((wr.alloc (.cells #[.slice (some ⟨bx, ox, none⟩) c (c + 1), .slice (some ⟨bx, ox, none⟩) 0 0] 28)).drew.heap[wr.heap.size]? = some (.cells #[.slice (some ⟨bx, ox, none⟩) c (c + 1), .slice (some ⟨bx, ox, none⟩) 0 0] 28 (0, 0))) := heap_alloc_new wr _
        have CC := Lib.hid (C.out _ HB.out HA.out)
        clear C HA
        go_wp2_with fail
        go_region_law (first
          | (go_simp; go_at_call 118; refine CC.out.mono ?_; rintro e w5 ⟨u5, rfl, o5, b5⟩; have D5 : Hid (Below wr.heap.size wr w5) := HB.out.trans (b5.mono HB.out.size); obtain ⟨a5, c5, hu5⟩ := o5.fitS; rw [L5.out] at hu5; subst hu5; have O5 := Lib.hid o5; have SS5 := Lib.hid (ho.out.later D5.out); have own5 := Lib.hid (ownSS_lenR hyl.out SS5.out); have lg5 := own5.out.lt; have s5 := D5.out.size; clear b5 o5)
          | (refine step_append_lies _ (by rfl) _ _ _ (by rfl) w.heap.size 28 j0 _ 1 24 Tryd.underlying61 hj hy0 hy1 hy2 rfl (by omega) _ _ _ (by rfl) (own5.out.alloc _) ⟨w5.heap.size, 0, none⟩ 1 1 [.slice a5 c c5] (by rfl) (by rfl) (World.news_of_block (cs := #[.slice a5 c c5]) (t := 28) (fr := (0, 0)) (heap_alloc_new w5 _)) (by simp [Value.oneCell']) (by omega) (by unfold maxLen; omega) (by omega) (by simp; omega) (w5.heap.size + 1) (by simp) ?_; intro gg cap1 w6 hown1 hgrow hat hlt'; have gb := grownBy_trans' (World.grownBy_alloc w5 _ _) hgrow))
        all_goals
          have hown2 : w6.ownsRow w.heap.size 28 1 (.slice (some ⟨gg, 0, none⟩) (i + 1) cap1) (i + 1) (ys.flatMap encSl ++ encSl ⟨a5, c5, xt.take c ++ xt.drop (c + 1)⟩) := by
            show w6.ownsRow _ _ _ _ _ (_ ++ [.slice a5 (xt.take c ++ xt.drop (c + 1)).length c5])
            rw [L5.out]
            exact hown1
          have O6 : Hid (OwnSS w6 w.heap.size w6.heap.size (.slice (some ⟨gg, 0, none⟩) (i + 1) cap1) (ys ++ [⟨a5, c5, xt.take c ++ xt.drop (c + 1)⟩])) := SS5.out.pushRowR (by omega) (by show OwnI _ _ (.slice a5 (xt.take c ++ xt.drop (c + 1)).length c5) _; rw [L5.out]; exact O5.out.mono (by simp; omega)) (fun k hk => by have h9 : (Value.slice a5 c c5).ownBlock = some k := (by cases a5 <;> first | exact hk | simp [Sl.u, Value.ownBlock] at hk); have := (O5.out.lt k h9).1; simp at this; omega) hown2 hyl.out hgrow
          have B6 : Hid (Below w.heap.size w w6) := (B.out.trans (D5.out.mono (by omega))).grown gb (by omega) (fun j e => (lg5 j e).1)
          have X6 : Hid ((ys ++ [(⟨a5, c5, xt.take c ++ xt.drop (c + 1)⟩ : Sl)]).map Sl.t = (minorL (xs.map Sl.t) c).take (i + 1)) := by show _ = _; rw [List.take_add_one, G.out, List.map_append, hyt.out]; rfl
          have N6 : Hid (i + 1 = (ys ++ [(⟨a5, c5, xt.take c ++ xt.drop (c + 1)⟩ : Sl)]).length) := by show _ = _; rw [List.length_append, ← hyl.out]; rfl
          have cap5 : c ≤ c5 := by have h9 := O5.out; unfold OwnI at h9; rw [L5.out] at h9; exact ownsRow_cap h9
          have C6 : Hid (∀ y ∈ ys ++ [(⟨a5, c5, xt.take c ++ xt.drop (c + 1)⟩ : Sl)], c ≤ y.c) := by
            intro y hy
            rcases List.mem_append.1 hy with h | h
            · exact hyc.out y h
            · have : y = ⟨a5, c5, xt.take c ++ xt.drop (c + 1)⟩ := by simpa using h
              subst this; exact cap5
          clear hown1 hown2 hgrow hat hlt' gb lg5 own5 O5 SS5 D5 hyt hyl hyc ho B G cap5 L5 HB CC
          go_wp2
          exact ⟨⟨i + 1, cap1, _, _, by omega, by go_num, rfl, X6, N6, C6, O6, B6⟩, by simp only [intOf]; omega⟩
      · have h2c : c + 1 < xc := by omega
        have C : Hid (∀ wq : World, Below wr.heap.size wr wq → wq.heap[wr.heap.size]? = some (.cells #[.slice (some ⟨bx, ox, none⟩) c xc, .slice (some ⟨bx, ox + (c + 1), none⟩) (m - c) (xc - (c + 1))] 28 (0, 0)) → Calls Tryd.prog 118 #[.slice (some ⟨wr.heap.size, 0, none⟩) 2 2] wq fun e w' => ∃ u, e = .returned u ∧ OwnI w' wq.heap.size u (xt.take c ++ xt.drop (c + 1)) ∧ Below wq.heap.size wq w') := by
          intro wq BB hN
          have := concatS_any (.slice (some ⟨wr.heap.size, 0, none⟩) 2 2) [⟨some ⟨bx, ox, none⟩, xc, xt.take c⟩, ⟨some ⟨bx, ox + (c + 1), none⟩, xc - (c + 1), xt.drop (c + 1)⟩] wq (rdSS2 hN (by have := LX.out; simp; omega) (by have := LX.out; simp; omega) (by
            have := (RX.out.later BB).cut 0 c xc (by have := LX.out; omega) (fun _ => trivial)
            rw [List.drop_zero, Nat.add_zero] at this
            show RdI _ (.slice _ (xt.take c).length _) _
            rw [List.length_take, Nat.min_eq_left (by have := LX.out; omega)]; exact this) (by have := (RX.out.later BB).cut (c + 1) (xt.length - (c + 1)) (xc - (c + 1)) (by have := LX.out; omega) (fun _ => trivial); rw [List.take_of_length_le (by simp)] at this; show RdI _ (.slice _ (xt.drop (c + 1)).length _) _; rw [List.length_drop]; exact this)) (by simp) (by have := LX.out; simp [sumT]; omega)
          simpa using this
        have L5 : Hid ((xt.take c ++ xt.drop (c + 1)).length = m) := by show _ = _; have := LX.out; simp; omega
        have HB : Hid (Below wr.heap.size wr (wr.alloc (.cells #[.slice (some ⟨bx, ox, none⟩) c xc, .slice (some ⟨bx, ox + (c + 1), none⟩) (m - c) (xc - (c + 1))] 28)).drew) := by show Below _ _ _; go_grown
        have HA : Hid ((wr.alloc (.cells #[.slice (some ⟨bx, ox, none⟩) c xc, .slice (some ⟨bx, ox + (c + 1), none⟩) (m - c) (xc - (c + 1))] 28)).drew.heap[wr.heap.size]? = some (.cells #[.slice (some ⟨bx, ox, none⟩) c xc, .slice (some ⟨bx, ox + (c + 1), none⟩) (m - c) (xc - (c + 1))] 28 (0, 0))) := heap_alloc_new wr _
        have CC := Lib.hid (C.out _ HB.out HA.out)
        clear C HA
        go_wp2_with fail
        go_region_law (first
          | (go_simp; go_at_call 118; refine CC.out.mono ?_; rintro e w5 ⟨u5, rfl, o5, b5⟩; have D5 : Hid (Below wr.heap.size wr w5) := HB.out.trans (b5.mono HB.out.size); obtain ⟨a5, c5, hu5⟩ := o5.fitS; rw [L5.out] at hu5; subst hu5; have O5 := Lib.hid o5; have SS5 := Lib.hid (ho.out.later D5.out); have own5 := Lib.hid (ownSS_lenR hyl.out SS5.out); have lg5 := own5.out.lt; have s5 := D5.out.size; clear b5 o5)
          | (refine step_append_lies _ (by rfl) _ _ _ (by rfl) w.heap.size 28 j0 _ 1 24 Tryd.underlying61 hj hy0 hy1 hy2 rfl (by omega) _ _ _ (by rfl) (own5.out.alloc _) ⟨w5.heap.size, 0, none⟩ 1 1 [.slice a5 m c5] (by rfl) (by rfl) (World.news_of_block (cs := #[.slice a5 m c5]) (t := 28) (fr := (0, 0)) (heap_alloc_new w5 _)) (by simp [Value.oneCell']) (by omega) (by unfold maxLen; omega) (by omega) (by simp; omega) (w5.heap.size + 1) (by simp) ?_; intro gg cap1 w6 hown1 hgrow hat hlt'; have gb := grownBy_trans' (World.grownBy_alloc w5 _ _) hgrow))
        all_goals
          have hown2 : w6.ownsRow w.heap.size 28 1 (.slice (some ⟨gg, 0, none⟩) (i + 1) cap1) (i + 1) (ys.flatMap encSl ++ encSl ⟨a5, c5, xt.take c ++ xt.drop (c + 1)⟩) := by
            show w6.ownsRow _ _ _ _ _ (_ ++ [.slice a5 (xt.take c ++ xt.drop (c + 1)).length c5])
            rw [L5.out]
            exact hown1
          have O6 : Hid (OwnSS w6 w.heap.size w6.heap.size (.slice (some ⟨gg, 0, none⟩) (i + 1) cap1) (ys ++ [⟨a5, c5, xt.take c ++ xt.drop (c + 1)⟩])) := SS5.out.pushRowR (by omega) (by show OwnI _ _ (.slice a5 (xt.take c ++ xt.drop (c + 1)).length c5) _; rw [L5.out]; exact O5.out.mono (by simp; omega)) (fun k hk => by have h9 : (Value.slice a5 m c5).ownBlock = some k := (by cases a5 <;> first | exact hk | simp [Sl.u, Value.ownBlock] at hk); have := (O5.out.lt k h9).1; simp at this; omega) hown2 hyl.out hgrow
          have B6 : Hid (Below w.heap.size w w6) := (B.out.trans (D5.out.mono (by omega))).grown gb (by omega) (fun j e => (lg5 j e).1)
          have X6 : Hid ((ys ++ [(⟨a5, c5, xt.take c ++ xt.drop (c + 1)⟩ : Sl)]).map Sl.t = (minorL (xs.map Sl.t) c).take (i + 1)) := by show _ = _; rw [List.take_add_one, G.out, List.map_append, hyt.out]; rfl
          have N6 : Hid (i + 1 = (ys ++ [(⟨a5, c5, xt.take c ++ xt.drop (c + 1)⟩ : Sl)]).length) := by show _ = _; rw [List.length_append, ← hyl.out]; rfl
          have cap5 : m ≤ c5 := by have h9 := O5.out; unfold OwnI at h9; rw [L5.out] at h9; exact ownsRow_cap h9
          have C6 : Hid (∀ y ∈ ys ++ [(⟨a5, c5, xt.take c ++ xt.drop (c + 1)⟩ : Sl)], m ≤ y.c) := by
            intro y hy
            rcases List.mem_append.1 hy with h | h
            · exact hyc.out y h
            · have : y = ⟨a5, c5, xt.take c ++ xt.drop (c + 1)⟩ := by simpa using h
              subst this; exact cap5
          clear hown1 hown2 hgrow hat hlt' gb lg5 own5 O5 SS5 D5 hyt hyl hyc ho B G cap5 L5 HB CC
          go_wp2
          exact ⟨⟨i + 1, cap1, _, _, by omega, by go_num, rfl, X6, N6, C6, O6, B6⟩, by simp only [intOf]; omega⟩
    · obtain rfl : i = m := by omega
      have e1 : ys.map Sl.t = minorL (xs.map Sl.t) c := by have := hyt.out; rwa [List.take_of_length_le (by have := MLN.out; omega)] at this
      have E1 := Lib.hid e1
      have SQ : Hid (Sq wr i ad c1 ys) := ⟨ho.out.rd, hyl.out.symm, by have h9 := ho.out.rows; unfold OwnS at h9; exact ownsRow_cap h9, fun y hy => ⟨by
        have h1 : y.t ∈ minorL (xs.map Sl.t) c := by rw [← e1]; exact List.mem_map.2 ⟨y, hy, rfl⟩
        exact minorL_row (n := i) (by
          intro r hr
          obtain ⟨z, hz, rfl⟩ := List.mem_map.1 hr
          exact (RW.out z hz).1) hc _ h1, hyc.out y hy⟩⟩
      clear e1 ho hyt hyl hyc
      go_wp2
      go_ret
      exact ⟨_, _, ys, rfl, SQ.out, E1.out, B.out⟩

theorem sgn_succ (c : Nat) : sgn (c + 1) = - sgn c := by
  unfold sgn
  rcases Nat.mod_two_eq_zero_or_one c with h | h
  · have h2 : (c + 1) % 2 = 1 := by omega
    simp [h, h2]
  · have h2 : (c + 1) % 2 = 0 := by omega
    simp [h, h2]
theorem sgn_01 (c : Nat) : sgn c = 1 ∨ sgn c = -1 := by unfold sgn; split <;> simp
theorem pow_big {k : Nat} (h : k ≤ 5) : (3000 : Int) ^ k ≤ 243000000000000000 := by
  have : k = 0 ∨ k = 1 ∨ k = 2 ∨ k = 3 ∨ k = 4 ∨ k = 5 := by omega
  rcases this with rfl | rfl | rfl | rfl | rfl | rfl <;> decide

set_option maxRecDepth 100000 in
set_option maxHeartbeats 16000000 in
theorem det_any : ∀ (k : Nat) (cap : Nat) (a : Option Addr) (xs : List Sl) (w : World), k ≤ 5 → Sq w k a cap xs → (∀ x ∈ xs, nrm x.t ≤ 3000) →
    Calls Tryd.prog 101 #[.slice a k cap] w fun e w' => e = .returned (.int .i64 (det k (xs.map Sl.t))) ∧ Below w.heap.size w w' := by
  intro k
  induction k with
  | zero =>
    intro cap a xs w h5 hs hn
    clear hn hs
    go_enter Tryd.func101, Tryd.ntmps101
    go_wp2
    go_ret
    exact ⟨rfl, Below.refl _ _⟩
  | succ m ih =>
    intro cap a xs w h5 hs hn
    obtain ⟨R, hR⟩ : ∃ R, R = xs.map Sl.t := ⟨_, rfl⟩
    have Rl : R.length = m + 1 := by rw [hR]; simp [hs.len]
    have Rr : ∀ r ∈ R, r.length = m + 1 := by
      intro r hr; rw [hR] at hr
      obtain ⟨z, hz, rfl⟩ := List.mem_map.1 hr
      exact (hs.row z hz).1
    have Rn : ∀ r ∈ R, nrm r ≤ 3000 := by
      intro r hr; rw [hR] at hr
      obtain ⟨z, hz, rfl⟩ := List.mem_map.1 hr
      exact hn z hz
    obtain ⟨x, hx⟩ : ∃ x, xs[0]? = some x := ⟨_, List.getElem?_eq_getElem (by have := hs.len; omega)⟩
    obtain ⟨b, off, rfl, c0, rx, -⟩ := hs.rd.at hx
    obtain ⟨lx, cx⟩ := hs.row x (List.mem_of_getElem? hx)
    rw [Nat.add_zero, lx] at c0
    rw [lx] at rx
    have hd : R.headD [] = x.t := by
      rw [hR]
      cases xs with
      | nil => simp at hx
      | cons y ys => simp at hx; subst hx; rfl
    have nx : nrm x.t ≤ 3000 := hn x (List.mem_of_getElem? hx)
    have P : Hid (∀ j, j ≤ m + 1 → Bd 243000000000000000 (rsum (detF m R) j)) := by
      intro j hj
      have h1 := det_part (N := 3000) (by omega) Rl Rr (fun r hr => Rn r (List.mem_of_mem_tail hr)) j hj
      rw [hd] at h1
      have h2 : nrm x.t * 3000 ^ m ≤ 3000 * 3000 ^ m := Int.mul_le_mul_of_nonneg_right nx (Int.pow_nonneg (by omega))
      have h3 := pow_big (k := m + 1) h5
      rw [Int.pow_succ, Int.mul_comm] at h3
      exact natAbs_bd (by omega)
    have C : Hid (∀ (c : Nat) (w1 : World), c ≤ m → Below w.heap.size w w1 → Calls Tryd.prog 114 #[.slice (some ⟨b, off, none⟩) (m + 1) cap, .int .i64 c] w1 fun e w2 => ∃ (a' : Option Addr) (c' : Nat), e = .returned (.slice a' m c') ∧ Below w1.heap.size w1 w2 ∧ Calls Tryd.prog 101 #[.slice a' m c'] w2 fun e w' => e = .returned (.int .i64 (det m (minorL R c))) ∧ Below w2.heap.size w2 w') := by
      intro c w1 hc bl
      have hs1 := hs.later bl
      have ihm : ∀ (cap : Nat) (a : Option Addr) (ys : List Sl) (w : World), Sq w m a cap ys → ys.map Sl.t = minorL R c → Calls Tryd.prog 101 #[.slice a m cap] w fun e w' => e = .returned (.int .i64 (det m (minorL R c))) ∧ Below w.heap.size w w' := by
        intro cap a ys w hq hy
        have := ih cap a ys w (by omega) hq (fun y hy' => minorL_nrm (fun r hr => Rn r (List.mem_of_mem_tail hr)) c _ (by rw [← hy]; exact List.mem_map.2 ⟨y, hy', rfl⟩))
        rwa [hy] at this
      by_cases hm : m = 0
      · subst hm
        obtain rfl : c = 0 := by omega
        refine (minor_nil cap _ xs w1 hs1).mono ?_
        rintro e w2 ⟨a', c', rfl, hq, b2⟩
        refine ⟨a', c', rfl, b2, ihm c' a' [] w2 hq ?_⟩
        have := minorL_len R 0
        rw [Rl] at this
        exact (List.length_eq_zero_iff.1 this).symm
      · refine (minor_any m cap c _ xs w1 (by omega) hc hs1).mono ?_
        rintro e w2 ⟨a', c', ys, rfl, hq, hy, b2⟩
        exact ⟨a', c', rfl, b2, ihm c' a' ys w2 hq (by rw [hy, hR])⟩
    have F : Hid (∀ (c : Nat) (z : Int), x.t[c]? = some z → c ≤ m → detF m R c = sgn c * z * det m (minorL R c) ∧ Bd 3000 z ∧ Bd 243000000000000000 (sgn c * z * det m (minorL R c)) ∧ Bd 81000000000000 (det m (minorL R c))) := by
      intro c z hz hc
      have e : detF m R c = sgn c * z * det m (minorL R c) := by unfold detF; rw [hd]; simp [List.getD, hz]
      have hb : Bd 3000 z := by
        have h1 := nrm_take_succ x.t c
        have h2 := nrm_take_le x.t (c + 1)
        have h3 := nrm_nonneg (x.t.take c)
        have h4 : x.t.getD c 0 = z := by simp [List.getD, hz]
        rw [h4] at h1
        exact natAbs_bd (by omega)
      have hdb := det_both (N := 3000) (by omega) m (minorL R c) (by rw [minorL_len]; omega) (minorL_row Rr hc) (minorL_nrm (fun r hr => Rn r (List.mem_of_mem_tail hr)) c)
      have hp : (3000 : Int) ^ m ≤ 81000000000000 := by
        have : m = 0 ∨ m = 1 ∨ m = 2 ∨ m = 3 ∨ m = 4 := by omega
        rcases this with rfl | rfl | rfl | rfl | rfl <;> decide
      have hd2 : Bd 81000000000000 (det m (minorL R c)) := natAbs_bd (by omega)
      refine ⟨e, hb, ?_, hd2⟩
      rcases sgn_01 c with h | h
      · rw [h, Int.one_mul]; exact (hb.mul hd2).mono (by decide)
      · rw [h]
        have : -1 * z * det m (minorL R c) = -(z * det m (minorL R c)) := by rw [Int.neg_one_mul, Int.neg_mul]
        rw [this]
        have := (hb.mul hd2).mono (show (3000 : Int) * 81000000000000 ≤ 243000000000000000 by decide)
        unfold Bd at this ⊢; omega
    have E : Hid (det (m + 1) R = rsum (detF m R) (m + 1)) := det_succ m R
    have RX := Lib.hid rx
    have S0 : Hid (rsum (detF m R) 0 = 0) := rfl
    obtain ⟨n, hn1⟩ : ∃ n, n = m + 1 := ⟨_, rfl⟩
    have HN := Lib.hid hn1
    have LX : Hid (x.t.length = n) := by show _ = _; rw [lx, hn1]
    rw [← hR, E.out]
    clear hs hn ih Rl Rr Rn hx rx lx hd nx cx hR E
    rw [← HN.out] at c0 C RX P ⊢
    obtain ⟨xa, xc, xt⟩ := x
    simp only at c0 RX F LX
    obtain ⟨bx, ox, rfl⟩ : ∃ bx ox, xa = some ⟨bx, ox, none⟩ := by
      obtain ⟨a', c0, e, h1 | ⟨b', off', e2, h1⟩⟩ := RX.out
      · have := LX.out; rw [h1] at this; simp at this; omega
      · simp only [Value.slice.injEq] at e
        exact ⟨b', off', e.1.trans e2⟩
    have l1 : n ≤ 5 ∧ 1 ≤ n := by omega
    have nz : ((n : Int) == 0) = false := by simp; omega
    clear hn1
    go_enter Tryd.func101, Tryd.ntmps101
    go_wp2
    go_loopw [3, 4, 5, 6, 14] (fun sv gv _ _ iv wr => ∃ (c : Nat) (s g : Int), c ≤ n ∧ iv = .int .i64 c ∧ sv = .int .i64 s ∧ gv = .int .i64 g ∧ Hid (s = rsum (detF m R) c) ∧ Hid (g = sgn c) ∧ Hid (Below w.heap.size w wr)) (fun _ _ _ _ iv _ => n - (intOf iv).toNat)
    case atStart => exact ⟨0, 0, 1, by omega, rfl, rfl, rfl, S0, rfl, Below.refl _ _⟩
    case round =>
      obtain ⟨c, s, g, hc, rfl, rfl, rfl, hs, hg, B⟩ := hrel
      clear S0 c0
      by_cases hlt : c < n
      · have hcm : c ≤ m := by have := HN.out; omega
        obtain ⟨z, hz⟩ : ∃ z, xt[c]? = some z := ⟨_, List.getElem?_eq_getElem (by have := LX.out; omega)⟩
        obtain ⟨b1, o1, e1, c1⟩ := (RX.out.later B.out).atV c z hz
        simp only [Option.some.injEq, Addr.mk.injEq, and_true] at e1
        obtain ⟨rfl, rfl⟩ := e1
        obtain ⟨f1, f2, f3, f4⟩ := F.out c z hz hcm
        have p1 := P.out c (by omega)
        have p2 := P.out (c + 1) (by omega)
        have hsz := B.out.size
        have gn : Hid (-g = sgn (c + 1)) := by show _ = _; rw [sgn_succ, hg.out]
        have g1 : g = 1 ∨ g = -1 := by rw [hg.out]; exact sgn_01 c
        have qn : IntKind.i64.wrap (-g) = -g := IntWalk.i64_in _ (by omega)
        obtain ⟨D, hD⟩ : ∃ D, D = det m (minorL R c) := ⟨_, rfl⟩
        have CC := Lib.hid (C.out c wr hcm B.out)
        simp only [rsum] at p2
        rw [f1, ← hs.out, ← hg.out, ← hD] at p2
        rw [← hs.out] at p1
        rw [← hg.out, ← hD] at f1 f3
        rw [← hD] at CC f4
        have S2 : Hid (s + g * z * D = rsum (detF m R) (c + 1)) := by show _ = _; simp only [rsum]; rw [f1, hs.out]
        clear hz hs hg hD f1
        by_cases z0 : z = 0
        · subst z0
          have S3 : Hid (s = rsum (detF m R) (c + 1)) := by show _ = _; rw [← S2.out]; simp
          clear S2 CC f3 p2
          go_wp2
          exact ⟨⟨c + 1, s, -g, by omega, by go_num, rfl, rfl, S3, gn, B⟩, by simp only [intOf]; omega⟩
        · have zn : (z != 0) = true := by simpa using z0
          unfold Bd at f2 f3 f4 p1 p2
          have gz : -3000 ≤ g * z ∧ g * z ≤ 3000 := by rcases g1 with rfl | rfl <;> omega
          have q1 : IntKind.i64.wrap (g * z) = g * z := IntWalk.i64_in _ (by omega)
          have q2 : IntKind.i64.wrap (g * z * D) = g * z * D := IntWalk.i64_in _ (by omega)
          have q3 : IntKind.i64.wrap (s + g * z * D) = s + g * z * D := IntWalk.i64_in _ (by omega)
          clear f2 f3 f4 p1 p2 gz
          go_wp2_with fail
          refine CC.out.mono ?_
          rintro e w2 ⟨a', c', rfl, b2, CD⟩
          have CDH := Lib.hid CD
          have B2 : Hid (Below w.heap.size w w2) := B.out.trans (b2.mono hsz)
          clear b2 CD CC
          go_wp2_with fail
          refine CDH.out.mono ?_
          rintro e w3 ⟨rfl, b3⟩
          have B3 : Hid (Below w.heap.size w w3) := B2.out.trans (b3.mono B2.out.size)
          clear b3 CDH B2
          go_wp2
          exact ⟨⟨c + 1, _, -g, by omega, by go_num, rfl, rfl, S2, gn, B3⟩, by simp only [intOf]; omega⟩
      · obtain rfl : c = n := by omega
        obtain rfl : s = rsum (detF m R) c := hs.out
        clear hs
        go_wp2
        go_ret
        exact ⟨rfl, B.out⟩
end Go.Proofs.YtcmocilojloolaaDoor
