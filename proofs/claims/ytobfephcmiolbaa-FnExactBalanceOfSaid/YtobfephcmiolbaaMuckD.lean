/- Balances on both sides. -/
import Derived.Test.YtobfephcmiolbaaMuckT
import Derived.StillTailTactics
import Derived.Deep.RegionHeld3
namespace Go.Proofs.Ytobfephcmiolbaa
open Go.ChangeShapes Go.WideShapes Go.ChangeAt Go.RowKit
set_option linter.unusedVariables false
set_option linter.unusedSimpArgs false

/-- The differences of the first k numbers of two lists. -/
def difL (xs ys : List Int) (k : Nat) : List Int := (List.range k).map fun i => xs.getD i 0 - ys.getD i 0
theorem difL_len (xs ys : List Int) (k : Nat) : (difL xs ys k).length = k := by simp [difL]
theorem difL_succ (xs ys : List Int) (k : Nat) {x y : Int} (hx : xs[k]? = some x) (hy : ys[k]? = some y) : difL xs ys (k + 1) = difL xs ys k ++ [x - y] := by simp [difL, List.range_succ, hx, hy]
theorem difL_get (xs ys : List Int) (n k : Nat) {x y : Int} (h : k < n) (hx : xs[k]? = some x) (hy : ys[k]? = some y) : (difL xs ys n)[k]? = some (x - y) := by simp [difL, h, hx, hy]

def OkB (xs ys : List Int) : Prop := xs.length = ys.length ∧ xs.length ≤ 60 ∧ AllIn 0 1000000 xs ∧ AllIn 0 1000000 ys

set_option maxRecDepth 100000 in
set_option maxHeartbeats 4000000 in
theorem implBalance_yes (v u : Value) (xs ys : List Int) (w : World) (hv : RdI w v xs) (hu : RdI w u ys) (h : OkB xs ys) :
    Calls Try.prog 29 #[v, u] w fun e w' => ∃ r, e = .returned (.tuple #[r, .bool true]) ∧ OwnI w' w.heap.size r (difL xs ys xs.length) ∧ Below w.heap.size w w' := by
  obtain ⟨i0, hi, hz0, hz1, hz2⟩ := info_parts info_i64
  obtain ⟨h1, h2, h3, h4⟩ := h
  have C1 := Lib.hid (fun w h => every_isWeight v xs w h (by omega) true (by simpa using h3))
  have C2 := Lib.hid (fun w h => every_isWeight u ys w h (by omega) true (by simpa using h4))
  have HV := Lib.hid hv
  have HU := Lib.hid hu
  obtain ⟨a, cap, rfl, ra⟩ := hv
  obtain ⟨b, cap2, rfl, rb⟩ := hu
  obtain ⟨n, hn⟩ : ∃ n, n = xs.length := ⟨_, rfl⟩
  have HB1 := Lib.hid h3
  have HB2 := Lib.hid h4
  have RA := Lib.hid ra
  have RB := Lib.hid rb
  have HN := Lib.hid hn
  have HM : Hid (n = ys.length) := by show _ = _; omega
  have LN : Hid ((difL xs ys n).length = n) := difL_len _ _ _
  rw [← h1, ← hn] at HU C2
  rw [← hn] at HV C1 h2
  rw [← h1, ← hn]
  clear ra rb hn h1 h3 h4
  go_enter Try.func29, Try.ntmps29
  go_wp2_with fail
  refine (C1.out _ HV.out).mono ?_
  rintro e w' ⟨rfl, rfl⟩
  go_wp2_with fail
  refine (C2.out _ HU.out).mono ?_
  rintro e w' ⟨rfl, rfl⟩
  go_wp2_with (first | (at_make; refine wpList_make_full _ rfl _ _ _ rfl w.heap.size 2 i0 (.int .i64 0) 1 Try.underlying25 hi hz0 hz1 .i64 .i64 _ _ n rfl rfl rfl rfl ?b2 ?b3 (Nat.le_refl _) ?_) | go_in)
  case b2 => rw [hz2]; omega
  case b3 => unfold maxLen; omega
  intro w1 hown hg
  rw [toList_madeCells_one] at hown
  have O1 : Hid (OwnI w1 w.heap.size (.slice (some ⟨w.heap.size, 0, none⟩) n n) (part (difL xs ys n) n 0)) := part_made hown
  have B1 : Hid (Below w.heap.size w w1) := (Below.refl _ _).grown hg (Nat.le_refl _) (fun k h => by cases h)
  clear hown hg C1 C2
  go_wp2
  go_loopw [33] (fun i wr => ∃ k : Nat, k ≤ n ∧ i = .int .i64 k ∧ Hid (OwnI wr w.heap.size (.slice (some ⟨w.heap.size, 0, none⟩) n n) (part (difL xs ys n) n k)) ∧ Hid (Below w.heap.size w wr)) (fun i _ => n - (intOf i).toNat)
  case atStart => exact ⟨0, by omega, rfl, O1, B1⟩
  case round =>
    obtain ⟨k, hk, rfl, ho, hbl⟩ := hrel
    clear O1 B1
    by_cases hlt : k < n
    · obtain ⟨x, hx⟩ : ∃ x, xs[k]? = some x := ⟨_, List.getElem?_eq_getElem (by have := HN.out; omega)⟩
      obtain ⟨y, hy⟩ : ∃ y, ys[k]? = some y := ⟨_, List.getElem?_eq_getElem (by have := HM.out; omega)⟩
      obtain ⟨x0, x1⟩ := HB1.out.at hx
      obtain ⟨y0, y1⟩ := HB2.out.at hy
      obtain ⟨ba, oa, rfl, ca'⟩ := RA.out.resolve_left (by intro h; have := HN.out; rw [h] at this; simp at this; omega)
      obtain ⟨bb, ob, rfl, cb'⟩ := RB.out.resolve_left (by intro h; have := HM.out; rw [h] at this; simp at this; omega)
      have hbA : ba < w.heap.size := World.block_lt_of_cell? w _ (ca' k x hx)
      have hbB : bb < w.heap.size := World.block_lt_of_cell? w _ (cb' k y hy)
      have c1 := (hbl.out.cell (p := ⟨ba, oa + k, none⟩) hbA).trans (ca' k x hx)
      have c2 := (hbl.out.cell (p := ⟨bb, ob + k, none⟩) hbB).trans (cb' k y hy)
      obtain ⟨c3, f1⟩ := part_cell LN.out hlt ho.out
      have s1 := Lib.hid (part_store LN.out (difL_get xs ys n k hlt hx hy) ho.out)
      have s2 : Hid (Below w.heap.size w (wr.setCell ⟨w.heap.size, k, none⟩ (.int .i64 (x - y)))) := hbl.out.setCell (Nat.le_refl _) _
      have q1 : IntKind.i64.wrap (x - y) = x - y := IntWalk.i64_in _ (by omega)
      clear hx hy ho ca' cb' hbl
      go_wp2
      go_still_tail 12, (by kernel_rfl)
      go_wp2
      exact ⟨⟨k + 1, by omega, by go_num, s1, s2.out.drew⟩, by simp only [intOf]; omega⟩
    · obtain rfl : k = n := by omega
      have HO : Hid (OwnI wr w.heap.size (.slice (some ⟨w.heap.size, 0, none⟩) k k) (difL xs ys k)) := by have := ho.out; rwa [part_all LN.out] at this
      clear ho
      go_wp2
      go_ret2
      exact ⟨_, rfl, HO.out, hbl.out⟩

set_option maxHeartbeats 4000000 in
theorem implBalance_no (v u : Value) (xs ys : List Int) (w : World) (hv : RdI w v xs) (hu : RdI w u ys) (lx : xs.length ≤ 1099511627776) (ly : ys.length ≤ 1099511627776) (h : ¬ OkB xs ys) :
    Calls Try.prog 29 #[v, u] w fun e w' => e = .returned (.tuple #[.slice none 0 0, .bool false]) ∧ w = w' := by
  obtain ⟨b1, e1⟩ := ok_bool' (AllIn 0 1000000 xs)
  obtain ⟨b2, e2⟩ := ok_bool' (AllIn 0 1000000 ys)
  have C1 := Lib.hid (fun w h => every_isWeight v xs w h lx b1 e1)
  have C2 := Lib.hid (fun w h => every_isWeight u ys w h ly b2 e2)
  have hn : ¬ (xs.length = ys.length ∧ xs.length ≤ 60 ∧ b1 = true ∧ b2 = true) := by rw [e1, e2]; exact h
  have HV := Lib.hid hv
  have HU := Lib.hid hu
  obtain ⟨a, cap, rfl, ra⟩ := hv
  obtain ⟨b, cap2, rfl, rb⟩ := hu
  obtain ⟨n, en⟩ : ∃ n, n = xs.length := ⟨_, rfl⟩
  obtain ⟨m, em⟩ : ∃ n, n = ys.length := ⟨_, rfl⟩
  rw [← en] at C1 HV hn lx
  rw [← em] at C2 HU hn ly
  rw [← en, ← em]
  clear ra rb e1 e2 h en em
  by_cases hl : (n : Int) = m
  · obtain rfl : n = m := by omega
    have d1 : ((n : Int) != n) = false := by simp
    by_cases h60 : (n : Int) ≤ 60
    · cases b1 with
      | false =>
        clear hn hl
        go_enter Try.func29, Try.ntmps29
        go_wp2_with fail
        refine (C1.out _ HV.out).mono ?_
        rintro e w' ⟨rfl, rfl⟩
        go_wp2
        go_ret2
        exact ⟨rfl, rfl⟩
      | true =>
        obtain rfl : b2 = false := by
          cases b2 with
          | false => rfl
          | true => exact absurd ⟨rfl, by omega, rfl, rfl⟩ hn
        clear hn hl
        go_enter Try.func29, Try.ntmps29
        go_wp2_with fail
        refine (C1.out _ HV.out).mono ?_
        rintro e w' ⟨rfl, rfl⟩
        go_wp2_with fail
        refine (C2.out _ HU.out).mono ?_
        rintro e w' ⟨rfl, rfl⟩
        go_wp2
        go_ret2
        exact ⟨rfl, rfl⟩
    · have d2 : (60 : Int) < n := by omega
      clear hn hl h60
      go_enter Try.func29, Try.ntmps29
      go_wp2
      go_ret2
      exact ⟨rfl, rfl⟩
  · have d1 : ((n : Int) != m) = true := by simpa using hl
    clear hn hl
    go_enter Try.func29, Try.ntmps29
    go_wp2
    go_ret2
    exact ⟨rfl, rfl⟩

set_option maxRecDepth 100000 in
set_option maxHeartbeats 4000000 in
theorem specBalance_yes (v u : Value) (xs ys : List Int) (w : World) (hv : RdI w v xs) (hu : RdI w u ys) (h : OkB xs ys) :
    Calls Try.prog 27 #[v, u] w fun e w' => ∃ r, e = .returned (.tuple #[r, .bool true]) ∧ OwnI w' w.heap.size r (difL xs ys xs.length) ∧ Below w.heap.size w w' := by
  obtain ⟨i0, hi, hz0, hz1, hz2⟩ := info_parts info_i64
  obtain ⟨h1, h2, h3, h4⟩ := h
  have C1 := Lib.hid (fun w h => l06Within_any v xs 0 1000000 w h (by omega) true (by simp; exact ⟨h2, h3⟩))
  have C2 := Lib.hid (fun w h => l06Within_any u ys 0 1000000 w h (by omega) true (by simp; exact ⟨by omega, h4⟩))
  have HV := Lib.hid hv
  have HU := Lib.hid hu
  obtain ⟨a, cap, rfl, ra⟩ := hv
  obtain ⟨b, cap2, rfl, rb⟩ := hu
  obtain ⟨n, hn⟩ : ∃ n, n = xs.length := ⟨_, rfl⟩
  have HB1 := Lib.hid h3
  have HB2 := Lib.hid h4
  have RA := Lib.hid ra
  have RB := Lib.hid rb
  have HN := Lib.hid hn
  have HM : Hid (n = ys.length) := by show _ = _; omega
  rw [← h1, ← hn] at HU C2
  rw [← hn] at HV C1 h2
  rw [← h1, ← hn]
  have d1 : ((n : Int) != n) = false := by simp
  have O0 : Hid (OwnI (w.alloc (.cells #[] 2)) w.heap.size (.slice (some ⟨w.heap.size, 0, none⟩) 0 0) (difL xs ys 0)) := World.ownsRow_lit (e := 2) (size := 1) w #[] 0 (Nat.le_refl _) (by decide) rfl
  have B0 : Hid (Below w.heap.size w (w.alloc (.cells #[] 2))) := (Below.refl _ _).alloc (Nat.le_refl _) _
  clear ra rb hn h1 h3 h4
  go_enter Try.func27, Try.ntmps27
  go_wp2_with fail
  refine (C1.out _ HV.out).mono ?_
  rintro e w' ⟨rfl, rfl⟩
  go_wp2_with fail
  refine (C2.out _ HU.out).mono ?_
  rintro e w' ⟨rfl, rfl⟩
  go_wp2
  go_loopw [6, 7] (fun ov iv wr => ∃ (k c1 : Nat) (ad : Option Addr), k ≤ n ∧ iv = .int .i64 k ∧ ov = .slice ad k c1 ∧ Hid (OwnI wr w.heap.size (.slice ad k c1) (difL xs ys k)) ∧ Hid (Below w.heap.size w wr)) (fun _ iv _ => n - (intOf iv).toNat)
  case atStart => exact ⟨0, 0, _, by omega, rfl, rfl, O0, B0⟩
  case round =>
    obtain ⟨k, c1, ad, hk, rfl, rfl, ho, hbl⟩ := hrel
    clear O0 B0
    by_cases hlt : k < n
    · obtain ⟨x, hx⟩ : ∃ x, xs[k]? = some x := ⟨_, List.getElem?_eq_getElem (by have := HN.out; omega)⟩
      obtain ⟨y, hy⟩ : ∃ y, ys[k]? = some y := ⟨_, List.getElem?_eq_getElem (by have := HM.out; omega)⟩
      obtain ⟨x0, x1⟩ := HB1.out.at hx
      obtain ⟨y0, y1⟩ := HB2.out.at hy
      obtain ⟨ba, oa, rfl, ca'⟩ := RA.out.resolve_left (by intro h; have := HN.out; rw [h] at this; simp at this; omega)
      obtain ⟨bb, ob, rfl, cb'⟩ := RB.out.resolve_left (by intro h; have := HM.out; rw [h] at this; simp at this; omega)
      have hbA : ba < w.heap.size := World.block_lt_of_cell? w _ (ca' k x hx)
      have hbB : bb < w.heap.size := World.block_lt_of_cell? w _ (cb' k y hy)
      have e1 := (hbl.out.cell (p := ⟨ba, oa + k, none⟩) hbA).trans (ca' k x hx)
      have e2 := (hbl.out.cell (p := ⟨bb, ob + k, none⟩) hbB).trans (cb' k y hy)
      have q1 : IntKind.i64.wrap (x - y) = x - y := IntWalk.i64_in _ (by omega)
      have SS := Lib.hid (difL_succ xs ys k hx hy)
      have SL := Lib.hid (difL_len xs ys k)
      have own : Hid (wr.ownsRow w.heap.size 2 1 (.slice ad k c1) k ((difL xs ys k).map (Value.int .i64))) := by
        have e := ho.out
        unfold OwnI at e
        rw [SL.out] at e
        exact e
      have hsz := hbl.out.size
      have lgz := own.out.lt
      clear hx hy ho ca' cb'
      have KS : Hid (∀ w', Below w.heap.size wr w' → (w'.cell? ⟨ba, oa + k, none⟩ = some (.int .i64 x) ∧ w'.cell? ⟨bb, ob + k, none⟩ = some (.int .i64 y))) := fun w' b => ⟨(b.cell (p := ⟨ba, oa + k, none⟩) hbA).trans e1, (b.cell (p := ⟨bb, ob + k, none⟩) hbB).trans e2⟩
      clear e1 e2 hbA hbB
      go_wp2
      go_region_held3 (fun w' => (w'.cell? ⟨ba, oa + k, none⟩ = some (.int .i64 x) ∧ w'.cell? ⟨bb, ob + k, none⟩ = some (.int .i64 y)))
        (first | exact KS.out _ BX.out | exact KS.out _ (Below.refl _ _).drew | exact KS.out _ (((Below.refl _ _).alloc hsz _).drew) | exact KS.out _ (((Below.refl _ _).drew).alloc hsz _))
        ((refine step_append_lies _ (by rfl) _ _ _ (by rfl) w.heap.size 2 i0 _ 1 8 Try.underlying25 hi hz0 hz1 hz2 rfl (by omega) _ _ _ (by rfl) ((own.out.alloc _).drew) ⟨wr.heap.size, 0, none⟩ 1 1 [.int .i64 (x - y)] (by rfl) (by rfl) (World.news_of_block (cs := #[.int .i64 (x - y)]) (t := 2) (fr := (0, 0)) (heap_alloc_new wr _)) (by simp [Value.oneCell']) (by omega) (by unfold maxLen; omega) (by omega) (by simp; omega) (wr.heap.size + 1) (by simp) ?_; intro gg cap1 w5 hown1 hgrow hat hlt'; have BX : Hid (Below w.heap.size wr w5) := (((Below.refl _ _).alloc hsz _).drew).grown hgrow (by simp; omega) (fun j hj => (lgz j hj).1)))
      rename_i hHeld
      clear hHeld
      have O5 : Hid (OwnI w5 w.heap.size (.slice (some ⟨gg, 0, none⟩) (k + 1) cap1) (difL xs ys (k + 1))) := by
        show OwnI _ _ _ _
        unfold OwnI
        rw [SS.out, List.length_append, SL.out, List.map_append]
        exact hown1
      have B5 : Hid (Below w.heap.size w w5) := hbl.out.trans BX.out
      clear hown1 hgrow hat hlt' own lgz hbl BX KS
      go_wp2
      exact ⟨⟨k + 1, cap1, _, by omega, by go_num, rfl, O5, B5⟩, by simp only [intOf]; omega⟩
    · obtain rfl : k = n := by omega
      go_wp2
      go_ret2
      exact ⟨_, rfl, ho.out, hbl.out⟩

set_option maxHeartbeats 4000000 in
theorem specBalance_no (v u : Value) (xs ys : List Int) (w : World) (hv : RdI w v xs) (hu : RdI w u ys) (lx : xs.length ≤ 1099511627776) (ly : ys.length ≤ 1099511627776) (h : ¬ OkB xs ys) :
    Calls Try.prog 27 #[v, u] w fun e w' => e = .returned (.tuple #[.slice none 0 0, .bool false]) ∧ w = w' := by
  obtain ⟨b1, e1⟩ := ok_bool' (xs.length ≤ 60 ∧ AllIn 0 1000000 xs)
  obtain ⟨b2, e2⟩ := ok_bool' (ys.length ≤ 60 ∧ AllIn 0 1000000 ys)
  have C1 := Lib.hid (fun w h => l06Within_any v xs 0 1000000 w h lx b1 e1)
  have C2 := Lib.hid (fun w h => l06Within_any u ys 0 1000000 w h ly b2 e2)
  have hn : ¬ (b1 = true ∧ b2 = true ∧ xs.length = ys.length) := by
    rw [e1, e2]
    rintro ⟨⟨g1, g2⟩, ⟨g3, g4⟩, g5⟩
    exact h ⟨g5, g1, g2, g4⟩
  have HV := Lib.hid hv
  have HU := Lib.hid hu
  obtain ⟨a, cap, rfl, ra⟩ := hv
  obtain ⟨b, cap2, rfl, rb⟩ := hu
  obtain ⟨n, en⟩ : ∃ n, n = xs.length := ⟨_, rfl⟩
  obtain ⟨m, em⟩ : ∃ n, n = ys.length := ⟨_, rfl⟩
  rw [← en] at C1 HV hn lx
  rw [← em] at C2 HU hn ly
  rw [← en, ← em]
  clear ra rb e1 e2 h en em
  cases b1 with
  | false =>
    clear hn
    go_enter Try.func27, Try.ntmps27
    go_wp2_with fail
    refine (C1.out _ HV.out).mono ?_
    rintro e w' ⟨rfl, rfl⟩
    go_wp2
    go_ret2
    exact ⟨rfl, rfl⟩
  | true =>
  cases b2 with
  | false =>
    clear hn
    go_enter Try.func27, Try.ntmps27
    go_wp2_with fail
    refine (C1.out _ HV.out).mono ?_
    rintro e w' ⟨rfl, rfl⟩
    go_wp2_with fail
    refine (C2.out _ HU.out).mono ?_
    rintro e w' ⟨rfl, rfl⟩
    go_wp2
    go_ret2
    exact ⟨rfl, rfl⟩
  | true =>
    have hl : ¬ ((n : Int) = m) := fun e => hn ⟨rfl, rfl, by omega⟩
    have d1 : ((n : Int) != m) = true := by simpa using hl
    clear hn hl
    go_enter Try.func27, Try.ntmps27
    go_wp2_with fail
    refine (C1.out _ HV.out).mono ?_
    rintro e w' ⟨rfl, rfl⟩
    go_wp2_with fail
    refine (C2.out _ HU.out).mono ?_
    rintro e w' ⟨rfl, rfl⟩
    go_wp2
    go_ret2
    exact ⟨rfl, rfl⟩

theorem exBalanceOf (xs ys : List Int) (lz : xs.length ≤ 1048576 ∧ ys.length ≤ 1048576) : ∃ (zs : List Int) (b : Bool) (_ : zs.length ≤ 1048576),
    Hid (∀ (w : World) (v u : Value), (fun _ => True) w → RdI w v xs → RdI w u ys → Calls Try.prog 27 #[v, u] w fun e w' => ∃ r, e = .returned (.tuple #[r, .bool b]) ∧ OwnI w' w.heap.size r zs ∧ Below w.heap.size w w') ∧
    Hid (∀ (w : World) (v u : Value), (fun _ => True) w → RdI w v xs → RdI w u ys → Calls Try.prog 29 #[v, u] w fun e w' => ∃ r, e = .returned (.tuple #[r, .bool b]) ∧ OwnI w' w.heap.size r zs ∧ Below w.heap.size w w') := by
  by_cases h : OkB xs ys
  · exact ⟨difL xs ys xs.length, true, by rw [difL_len]; exact lz.1, fun w v u _ hv hu => specBalance_yes v u xs ys w hv hu h, fun w v u _ hv hu => implBalance_yes v u xs ys w hv hu h⟩
  · exact ⟨[], false, by simp, fun w v u _ hv hu => (specBalance_no v u xs ys w hv hu (by omega) (by omega) h).mono fun e w' ⟨he, hw⟩ => ⟨_, he, hw ▸ World.ownsRow_nil _ _ _ _, hw ▸ Below.refl _ _⟩,
      fun w v u _ hv hu => (implBalance_no v u xs ys w hv hu (by omega) (by omega) h).mono fun e w' ⟨he, hw⟩ => ⟨_, he, hw ▸ World.ownsRow_nil _ _ _ _, hw ▸ Below.refl _ _⟩⟩
end Go.Proofs.Ytobfephcmiolbaa
