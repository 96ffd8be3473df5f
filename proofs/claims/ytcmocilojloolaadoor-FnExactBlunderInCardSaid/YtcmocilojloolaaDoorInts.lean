/- Slices of integers: how they are read, and what the laws' own helpers do with them. -/
import Derived.Test.YtcmocilojloolaaDoorBase
import Derived.Deep.QuietTactic
import Derived.BigQuiet
import Derived.WalkSmall
namespace Go.Proofs.YtcmocilojloolaaDoor
open Go.ChangeShapes Go.WideShapes Go.ChangeAt Go.RowKit
set_option linter.unusedVariables false
set_option linter.unusedSimpArgs false

/-- v is a slice whose elements are zs, in w. -/
def RdI (w : World) (v : Value) (zs : List Int) : Prop :=
  ∃ (a : Option Addr) (cap : Nat), v = .slice a zs.length cap ∧ (zs = [] ∨ ∃ b off : Nat, a = some ⟨b, off, none⟩ ∧ ∀ i x, zs[i]? = some x → w.cell? ⟨b, off + i, none⟩ = some (.int .i64 x))

/-- v is a slice of the call's own, from block B on. -/
def OwnI (w : World) (B : Nat) (v : Value) (zs : List Int) : Prop := w.ownsRow B 2 1 v zs.length (zs.map (Value.int .i64))

theorem OwnI.rd {w : World} {B : Nat} {v : Value} {zs : List Int} (h : OwnI w B v zs) : RdI w v zs := by
  obtain ⟨h1, h2 | ⟨g, cap, cur, rfl, h3⟩⟩ := h
  · obtain ⟨rfl, h2⟩ := h2
    have : zs = [] := List.eq_nil_of_length_eq_zero h2
    subst this
    exact ⟨none, 0, rfl, .inl rfl⟩
  · refine ⟨_, cap, rfl, .inr ⟨g, 0, rfl, fun i x hx => ?_⟩⟩
    have hl : i < zs.length := by
      have := (List.getElem?_eq_some_iff.1 hx).1; exact this
    have := World.ownsRow.cellAt (base := B) (w := w) (e := 2) (size := 1) (g := g) (n := zs.length) (cap := cap) (xs := zs.map (Value.int .i64)) ⟨h1, .inr ⟨g, cap, cur, rfl, h3⟩⟩ i (by omega)
    rw [Nat.zero_add, this, List.getElem?_map, hx]; rfl

theorem RdI.below {w w' : World} {B : Nat} {v : Value} {zs : List Int} (h : RdI w v zs) (hv : ∀ k, v.ownBlock = some k → k < B) (hb : Below B w w') : RdI w' v zs := by
  obtain ⟨a, cap, rfl, h | ⟨b, off, rfl, h⟩⟩ := h
  · exact ⟨a, cap, rfl, .inl h⟩
  · exact ⟨_, cap, rfl, .inr ⟨b, off, rfl, fun i x hx => (hb.cell (p := ⟨b, off + i, none⟩) (by exact hv b rfl)).trans (h i x hx)⟩⟩

theorem RdI.later {w w' : World} {v : Value} {zs : List Int} (h : RdI w v zs) (hb : Below w.heap.size w w') : RdI w' v zs := by
  obtain ⟨a, cap, rfl, h | ⟨b, off, rfl, h⟩⟩ := h
  · exact ⟨a, cap, rfl, .inl h⟩
  · refine ⟨_, cap, rfl, .inr ⟨b, off, rfl, fun i x hx => (hb.cell (p := ⟨b, off + i, none⟩) ?_).trans (h i x hx)⟩⟩
    have c := h i x hx
    by_cases hc : b < w.heap.size
    · exact hc
    · simp [World.cell?, Array.getElem?_eq_none (show w.heap.size ≤ b by omega)] at c

theorem RdI.drewN {w : World} {v : Value} {zs : List Int} (h : RdI w v zs) (n : Nat) : RdI (w.drewN n) v zs := h
theorem OwnI.drewN {w : World} {B : Nat} {v : Value} {zs : List Int} (h : OwnI w B v zs) (n : Nat) : OwnI (w.drewN n) B v zs := h

theorem IsRow.rd {w : World} {a : Option Addr} {len cap : Nat} {zs : List Int} (h : IsRow .i64 w a len cap zs) : RdI w (.slice a len cap) (zs.take len) ∧ (zs.take len).length = len := by
  rcases h with ⟨rfl, rfl, rfl, rfl⟩ | ⟨x, rfl, hl, hm, hz, hc, hw⟩
  · exact ⟨⟨none, 0, rfl, .inl rfl⟩, rfl⟩
  · have e : (zs.take len).length = len := by rw [List.length_take]; omega
    refine ⟨⟨some x, cap, by rw [e], ?_⟩, e⟩
    by_cases h0 : len = 0
    · subst h0; exact .inl rfl
    · right
      obtain ⟨b, off, rfl, hc'⟩ := ints_at hc (by omega)
      refine ⟨b, off, rfl, fun i y hy => ?_⟩
      have hi : i < len := by have := (List.getElem?_eq_some_iff.1 hy).1; omega
      rw [hc' i (by omega)]
      rw [List.getElem?_take, if_pos hi] at hy
      simp [List.getD, hy]

set_option maxHeartbeats 1000000 in
theorem eqInts_any (a b : Value) (xs ys : List Int) (w : World) (ha : RdI w a xs) (hb : RdI w b ys) (lx : xs.length ≤ 4611686018427387904) (ly : ys.length ≤ 4611686018427387904) (r : Bool) (hr : r = true ↔ xs = ys) :
    Calls Tryd.prog 24 #[a, b] w fun e w' => e = .returned (.bool r) ∧ ∃ n, w' = w.drewN n := by
  obtain ⟨pa, ca, rfl, ra⟩ := ha
  obtain ⟨pb, cb, rfl, rb⟩ := hb
  have HR := Lib.hid hr
  have RA := Lib.hid ra
  have RB := Lib.hid rb
  clear hr ra rb
  by_cases hl : (xs.length : Int) = ys.length
  · obtain ⟨n, hn⟩ : ∃ n, n = xs.length := ⟨_, rfl⟩
    have hn' : n = ys.length := by omega
    rw [← hn, ← hn']
    rw [← hn] at lx
    have HN := Lib.hid hn
    have HN' := Lib.hid hn'
    clear hl hn hn' ly
    go_enter Tryd.func24, Tryd.ntmps24
    go_wp2
    go_loopw [5] (fun i wr => ∃ k m : Nat, k ≤ n ∧ i = .int .i64 k ∧ wr = w.drewN m ∧ Hid (xs.take k = ys.take k)) (fun i _ => n - (intOf i).toNat)
    case atStart => exact ⟨0, 0, by omega, rfl, rfl, rfl⟩
    case round =>
      obtain ⟨k, m, hk, rfl, rfl, ht⟩ := hrel
      by_cases hlt : k < n
      · obtain ⟨x, hx⟩ : ∃ x, xs[k]? = some x := ⟨_, List.getElem?_eq_getElem (by have := HN.out; omega)⟩
        obtain ⟨y, hy⟩ : ∃ y, ys[k]? = some y := ⟨_, List.getElem?_eq_getElem (by have := HN'.out; omega)⟩
        obtain ⟨ba, oa, rfl, ca'⟩ := RA.out.resolve_left (by intro h; have := HN.out; rw [h] at this; simp at this; omega)
        obtain ⟨bb, ob, rfl, cb'⟩ := RB.out.resolve_left (by intro h; have := HN'.out; rw [h] at this; simp at this; omega)
        have c1 := ca' k x hx
        have c2 := cb' k y hy
        have HX := Lib.hid hx
        have HY := Lib.hid hy
        clear ca' cb' hx hy
        by_cases hxy : x = y
        · subst hxy
          have ht' : Hid (xs.take (k + 1) = ys.take (k + 1)) := by
            show _ = _
            rw [List.take_add_one, List.take_add_one, HX.out, HY.out, ht.out]
          clear ht HX HY
          go_wp2
          go_quiet (fail)
          go_wp2
          exact ⟨⟨k + 1, _, by omega, by go_num, rfl, ht'⟩, by simp only [intOf]; omega⟩
        · obtain rfl : r = false := by
            cases r with
            | false => rfl
            | true =>
              have := HR.out.mp rfl
              rw [this] at HX
              exact absurd (Option.some.inj (HX.out.symm.trans HY.out)) hxy
          have hx1 : ((x != y) : Bool) = true := by simpa using hxy
          clear hxy ht HX HY
          go_wp2
          go_quiet (fail)
          go_wp2
          go_ret
          exact ⟨rfl, by rw [World.drewN_drewN]; exact ⟨_, rfl⟩⟩
      · obtain rfl : k = n := by omega
        obtain rfl : r = true := HR.out.mpr (by
          have e := ht.out
          rw [List.take_of_length_le (by have := HN.out; omega), List.take_of_length_le (by have := HN'.out; omega)] at e
          exact e)
        go_wp2
        go_ret
        exact ⟨rfl, _, rfl⟩
  · obtain rfl : r = false := by
      cases r with
      | false => rfl
      | true => exact absurd (by rw [HR.out.mp rfl]) hl
    have hx1 : (((xs.length : Int) != ys.length) : Bool) = true := by simpa using hl
    clear hl
    go_enter Tryd.func24, Tryd.ntmps24
    go_wp2
    go_ret
    exact ⟨rfl, 0, rfl⟩

/-- The numbers k, k + 1, .. -/
def upFrom (k : Int) : Nat → List Int
  | 0 => []
  | n + 1 => k :: upFrom (k + 1) n

theorem upFrom_length (k : Int) (n : Nat) : (upFrom k n).length = n := by
  induction n generalizing k with
  | zero => rfl
  | succ n ih => simp [upFrom, ih]

theorem upFrom_get (k : Int) (n i : Nat) (h : i < n) : (upFrom k n)[i]? = some (k + i) := by
  induction n generalizing k i with
  | zero => omega
  | succ n ih =>
    cases i with
    | zero => simp [upFrom]
    | succ i => simp only [upFrom, List.getElem?_cons_succ]; rw [ih (k + 1) i (by omega)]; congr 1; push_cast; omega

/-- What a list holds whose first i numbers are marked from q on. -/
def marked (q : Int) (zs : List Int) (i : Nat) : List Int := upFrom q i ++ zs.drop i

theorem marked_length (q : Int) (zs : List Int) (i : Nat) (h : i ≤ zs.length) : (marked q zs i).length = zs.length := by
  simp [marked, upFrom_length]; omega

theorem upFrom_succ (q : Int) (i : Nat) : upFrom q (i + 1) = upFrom q i ++ [q + i] := by
  induction i generalizing q with
  | zero => simp [upFrom]
  | succ i ih => rw [upFrom, ih (q + 1), upFrom]; simp; omega

theorem marked_set (q : Int) (zs : List Int) (i : Nat) (h : i < zs.length) : (marked q zs i).set i (q + i) = marked q zs (i + 1) := by
  unfold marked
  rw [List.set_append_right _ _ (by rw [upFrom_length]; omega), upFrom_length, Nat.sub_self, List.drop_eq_getElem_cons h, List.set_cons_zero, upFrom_succ, List.append_assoc]
  rfl

theorem marked_all (q : Int) (zs : List Int) : marked q zs zs.length = upFrom q zs.length := by simp [marked]

/-- A store into an own slice. -/
theorem OwnI.stored {w : World} {B g cap : Nat} {n : Nat} {zs : List Int} (hn : n = zs.length) (h : OwnI w B (.slice (some ⟨g, 0, none⟩) n cap) zs) (i : Nat) (u : Int) (hi : i < zs.length) :
    OwnI (w.setCell ⟨g, i, none⟩ (.int .i64 u)) B (.slice (some ⟨g, 0, none⟩) n cap) (zs.set i u) := by
  subst hn
  have := (World.ownsRow.stored h i (.int .i64 u)).1
  unfold OwnI
  rw [List.length_set, List.map_set]
  exact this

theorem OwnI.kept {w w' : World} {B : Nat} {v : Value} {zs : List Int} {row : Option Nat} (h : OwnI w B v zs) (hg : w.grownBy w' row) (hne : v.ownBlock = none ∨ v.ownBlock ≠ row) : OwnI w' B v zs := World.ownsRow.kept h hg hne

theorem OwnI.below {w w' : World} {B C : Nat} {v : Value} {zs : List Int} (h : OwnI w B v zs) (hb : Below C w w') (hC : ∀ k, v.ownBlock = some k → k < C) : OwnI w' B v zs := by
  obtain ⟨h1, h2 | ⟨g, cap, cur, rfl, h3, h4, h5⟩⟩ := h
  · exact ⟨h1, .inl h2⟩
  · exact ⟨h1, .inr ⟨g, cap, cur, rfl, h3, by rw [hb.block g (hC g rfl)]; exact h4, h5⟩⟩

theorem OwnI.mono {w : World} {B B' : Nat} {v : Value} {zs : List Int} (h : OwnI w B v zs) (hB : B' ≤ B) : OwnI w B' v zs := by
  obtain ⟨h1, h2 | ⟨g, cap, cur, rfl, h3, h5⟩⟩ := h
  · exact ⟨h1, .inl h2⟩
  · exact ⟨h1, .inr ⟨g, cap, cur, rfl, by omega, h5⟩⟩

theorem OwnI.lt {w : World} {B : Nat} {v : Value} {zs : List Int} (h : OwnI w B v zs) : ∀ k, v.ownBlock = some k → B ≤ k ∧ k < w.heap.size := World.ownsRow.lt h

theorem grownBy_trans {a b c : World} {row : Option Nat} (h : a.grownBy b row) (k : b.grownBy c row) : a.grownBy c row :=
  ⟨k.os.trans h.os, k.tape.trans h.tape, k.output.trans h.output, Nat.le_trans h.size k.size, fun i hi hn => (k.block i (Nat.lt_of_lt_of_le hi h.size) hn).trans (h.block i hi hn)⟩

theorem grownBy_setCell (w : World) (a : Addr) (u : Value) : w.grownBy (w.setCell a u) (some a.block) :=
  ⟨rfl, rfl, rfl, by simp [World.setCell], fun k _ hk => Below.heap_setCell w a u k (fun e => hk (by rw [e]))⟩

set_option maxHeartbeats 1000000 in
theorem markInts_any (v : Value) (zs : List Int) (w : World) (B : Nat) (h : OwnI w B v zs) (lz : zs.length ≤ 1099511627776) (q : Int) (hq : 0 ≤ q) (hq2 : q ≤ 1099511627776) :
    Calls Tryd.prog 27 #[v, .int .i64 q] w fun e w' => e = .returned (.int .i64 (q + zs.length)) ∧ OwnI w' B v (upFrom q zs.length) ∧ w.grownBy w' v.ownBlock := by
  obtain ⟨n, hn⟩ : ∃ n, n = zs.length := ⟨_, rfl⟩
  rw [← hn] at lz
  rw [← hn]
  obtain ⟨h1, h2 | ⟨g, cap, cur, rfl, h3⟩⟩ := id h
  · obtain ⟨rfl, h2⟩ := h2
    obtain rfl : n = 0 := by omega
    obtain rfl : zs = [] := List.eq_nil_of_length_eq_zero h2
    have H := Lib.hid h
    clear h h1 h2 hn
    go_enter Tryd.func27, Tryd.ntmps27
    go_wp2
    refine wp_loop_rounds 1 ?_
    rw [rounds_succ]
    go_wp2
    go_ret
    exact ⟨by simp, H.out, World.grownBy.refl _ _⟩
  · rw [← hn] at h
    have H := Lib.hid h
    have HN := Lib.hid hn
    rw [← hn]
    clear h h1 h3 hn
    go_enter Tryd.func27, Tryd.ntmps27
    go_wp2
    go_loopw [1, 5] (fun p i wr => ∃ k : Nat, k ≤ n ∧ i = .int .i64 k ∧ p = .int .i64 (q + k) ∧ Hid (OwnI wr B (.slice (some ⟨g, 0, none⟩) n cap) (marked q zs k)) ∧ Hid (w.grownBy wr (some g))) (fun _ i _ => n - (intOf i).toNat)
    case atStart => exact ⟨0, by omega, rfl, by simp, by unfold marked; exact H, World.grownBy.refl _ _⟩
    case round =>
      obtain ⟨k, hk, rfl, rfl, ho, hg⟩ := hrel
      have hlen := marked_length q zs k (by have := HN.out; omega)
      by_cases hlt : k < n
      · have own := ho.out
        unfold OwnI at own
        rw [hlen, ← HN.out] at own
        have c1 := own.cellAt k (by omega)
        obtain ⟨x, hx⟩ : ∃ x, (marked q zs k)[k]? = some x := ⟨_, List.getElem?_eq_getElem (by rw [hlen, ← HN.out]; exact hlt)⟩
        rw [List.getElem?_map, hx] at c1
        simp only [Option.map_some] at c1
        have f1 := own.frozenAt k
        have s1 : Hid (OwnI (wr.setCell ⟨g, k, none⟩ (.int .i64 (q + k))) B (.slice (some ⟨g, 0, none⟩) n cap) (marked q zs (k + 1))) := by
          have := ho.out.stored (by rw [hlen, ← HN.out]) k (q + k) (by rw [hlen, ← HN.out]; exact hlt)
          rw [marked_set q zs k (by have := HN.out; omega)] at this
          exact this
        clear own hx hlen ho
        go_wp2
        exact ⟨⟨k + 1, by omega, by go_num, by go_num, s1, grownBy_trans hg.out (grownBy_setCell _ _ _)⟩, by simp only [intOf]; omega⟩
      · obtain rfl : k = n := by omega
        have ho' := ho.out
        have hm : marked q zs k = upFrom q k := by rw [HN.out]; exact marked_all q zs
        rw [hm] at ho'
        have HO := Lib.hid ho'
        clear ho' hm hlen
        go_wp2
        go_ret
        exact ⟨rfl, HO.out, hg.out⟩

set_option maxHeartbeats 1000000 in
theorem heldInts_any (v : Value) (n : Nat) (q : Int) (w : World) (h : RdI w v (upFrom q n)) (lz : n ≤ 1099511627776) (hq : 0 ≤ q) (hq2 : q ≤ 1099511627776) :
    Calls Tryd.prog 28 #[v, .int .i64 q] w fun e w' => e = .returned (.int .i64 (q + n)) ∧ w = w' := by
  obtain ⟨a, cap, rfl, ra⟩ := h
  rw [upFrom_length]
  have RA := Lib.hid ra
  clear ra
  go_enter Tryd.func28, Tryd.ntmps28
  go_wp2
  go_loop [1, 5] (fun p i => ∃ k : Nat, k ≤ n ∧ i = .int .i64 k ∧ p = .int .i64 (q + k)) (fun _ i => n - (intOf i).toNat)
  case atStart => exact ⟨0, by omega, rfl, by simp⟩
  case round =>
    obtain ⟨k, hk, rfl, rfl⟩ := hrel
    by_cases hlt : k < n
    · obtain ⟨ba, oa, rfl, ca'⟩ := RA.out.resolve_left (by intro h; have := upFrom_length q n; rw [h] at this; simp at this; omega)
      have c1 := ca' k _ (upFrom_get q n k hlt)
      clear ca'
      go_wp2
      exact ⟨⟨k + 1, by omega, by go_num, by go_num⟩, by simp only [intOf]; omega⟩
    · obtain rfl : k = n := by omega
      go_wp2
      go_ret
      exact ⟨rfl, rfl⟩

theorem info_i64 : (Tryd.prog.info? 2).map (fun i => (i.zero, i.size, i.bytes)) = some (some (.int .i64 0), 1, 8) := by kernel_rfl

end Go.Proofs.YtcmocilojloolaaDoor
