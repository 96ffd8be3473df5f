/- Slices of structs of an int64 and a slice of int64s: how they are read, what a call owns of them, and what the laws' own helpers do with them. -/
import Derived.Test.YtmdddjhlfpmgdacChg
namespace Go.Proofs.Ytmdddjhlfpmgdac
open Go.ChangeShapes Go.WideShapes Go.ChangeAt Go.RowKit
set_option linter.unusedVariables false
set_option linter.unusedSimpArgs false

/-- A stop as data. -/
structure So where
  r : Int
  t : List Int

/-- A stop as it lies in memory: where its tops are. -/
structure Su where
  r : Int
  a : Option Addr
  c : Nat
  t : List Int

def Su.u (x : Su) : Value := .slice x.a x.t.length x.c
def Su.so (x : Su) : So := ⟨x.r, x.t⟩
def encSu (x : Su) : List Value := [.int .i64 x.r, .slice x.a x.t.length x.c]
theorem encSu_len (x : Su) : (encSu x).length = 2 := rfl
def zeroSu : Su := ⟨0, none, 0, []⟩

/-- v is a slice of stops, in w. -/
structure RdSt (w : World) (v : Value) (xs : List Su) : Prop where
  rows : RdS 2 encSu w v xs
  tops : ∀ x ∈ xs, RdI w x.u x.t

theorem RdSt.later {w w' : World} {v : Value} {xs : List Su} (h : RdSt w v xs) (hb : Below w.heap.size w w') : RdSt w' v xs := ⟨h.rows.later hb, fun x hx => (h.tops x hx).later hb⟩

theorem RdSt.at {w : World} {a : Option Addr} {n cap : Nat} {xs : List Su} (h : RdSt w (.slice a n cap) xs) {i : Nat} {x : Su} (hx : xs[i]? = some x) :
    ∃ b off, a = some ⟨b, off, none⟩ ∧ w.cell? ⟨b, off + i * 2, none⟩ = some (.int .i64 x.r) ∧ w.cell? ⟨b, off + i * 2 + 1, none⟩ = some (.slice x.a x.t.length x.c) ∧ RdI w (.slice x.a x.t.length x.c) x.t ∧ b < w.heap.size := by
  obtain ⟨a', c', hv, h2⟩ := h.rows
  simp only [Value.slice.injEq] at hv
  obtain ⟨rfl, -, -⟩ := hv
  obtain ⟨b, off, rfl, hc⟩ := h2.resolve_left (by intro e; rw [e] at hx; simp at hx)
  have c0 := hc i x hx 0 _ rfl
  have c1 := hc i x hx 1 _ rfl
  exact ⟨b, off, rfl, c0, by rw [Nat.add_assoc]; exact c1, h.tops x (List.mem_of_getElem? hx), World.block_lt_of_cell? w _ c0⟩

/-- A slice of stops of the call's own, in the blocks from B to C. -/
structure OwnSt (w : World) (B C : Nat) (v : Value) (xs : List Su) : Prop where
  rows : OwnS 80 2 encSu w B v xs
  rb : ∀ k, v.ownBlock = some k → k < C
  tops : ∀ x ∈ xs, OwnI w B x.u x.t
  tb : ∀ x ∈ xs, ∀ k, x.u.ownBlock = some k → k < C
  apart : ∀ (i j : Nat) x y k, xs[i]? = some x → xs[j]? = some y → x.u.ownBlock = some k → y.u.ownBlock = some k → i = j
  cb : C ≤ w.heap.size

theorem OwnSt.rd {w : World} {B C : Nat} {v : Value} {xs : List Su} (h : OwnSt w B C v xs) : RdSt w v xs := ⟨h.rows.rd encSu_len, fun x hx => (h.tops x hx).rd⟩
theorem OwnSt.of_blocks {w w' : World} {B C : Nat} {v : Value} {xs : List Su} (h : OwnSt w B C v xs) (hs : w.heap.size ≤ w'.heap.size) (hb : ∀ k, B ≤ k → k < C → w'.heap[k]? = w.heap[k]?) : OwnSt w' B C v xs :=
  ⟨h.rows.of_block fun k e => hb k (h.rows.lt k e).1 (h.rb k e), h.rb, fun x hx => (h.tops x hx).of_block fun k e => hb k ((h.tops x hx).lt k e).1 (h.tb x hx k e), h.tb, h.apart, Nat.le_trans h.cb hs⟩
theorem OwnSt.later {w w' : World} {B C : Nat} {v : Value} {xs : List Su} (h : OwnSt w B C v xs) (hb : Below w.heap.size w w') : OwnSt w' B C v xs :=
  h.of_blocks hb.size fun k _ hk => hb.block k (by have := h.cb; omega)
theorem OwnSt.chg {w w' : World} {B C B' C' : Nat} {v : Value} {xs : List Su} (h : OwnSt w B C v xs) (hb : Chg B' C' w w') (hd : C ≤ B' ∨ C' ≤ B) : OwnSt w' B C v xs :=
  h.of_blocks hb.size fun k _ hk => hb.block k (by have := h.cb; omega) (by omega)

/-- How many numbers stops have. -/
def sumSt (xs : List Su) : Nat := (xs.map fun x => x.t.length).sum
theorem sumSt_take_succ {xs : List Su} {k : Nat} {x : Su} (hx : xs[k]? = some x) : sumSt (xs.take (k + 1)) = sumSt (xs.take k) + x.t.length := by
  simp [sumSt, List.take_add_one, hx]
theorem sumSt_take_le (xs : List Su) (k : Nat) : sumSt (xs.take k) ≤ sumSt xs := by
  have : sumSt xs = sumSt (xs.take k) + sumSt (xs.drop k) := by
    unfold sumSt
    rw [← List.sum_append, ← List.map_append, List.take_append_drop]
  omega

theorem szStop_any (r : Int) (a : Option Addr) (n cap : Nat) (left : Int) (hl : 0 ≤ left) (hl2 : left ≤ 1099511627776) (hn : n ≤ 9223372036854775807) (w : World) :
    Calls Try.prog 34 #[.agg #[.int .i64 r, .slice a n cap], .int .i64 left] w fun e w' => e = .returned (.int .i64 (if (n : Int) ≤ left then left - n else -1)) ∧ Below w.heap.size w w' := by
  have C := Lib.hid (fun w => szInt64S_any a n cap left hl hl2 hn w)
  by_cases h : (n : Int) ≤ left
  · rw [if_pos h] at C
    rw [if_pos h]
    have h1 : ¬ left - (n : Int) < 0 := by omega
    go_enter Try.func34, Try.ntmps34
    go_wp2_with fail
    refine (C.out _).mono ?_
    rintro e w' ⟨rfl, rfl⟩
    go_wp2
    go_ret
    exact ⟨rfl, by go_grown⟩
  · rw [if_neg h] at C
    rw [if_neg h]
    go_enter Try.func34, Try.ntmps34
    go_wp2_with fail
    refine (C.out _).mono ?_
    rintro e w' ⟨rfl, rfl⟩
    go_wp2
    go_ret
    exact ⟨rfl, by go_grown⟩

set_option maxRecDepth 100000 in
set_option maxHeartbeats 2000000 in
theorem szStopS_any (v : Value) (xs : List Su) (left : Int) (hl : 0 ≤ left) (hl2 : left ≤ 1099511627776) (w : World) (h : RdSt w v xs) (hn : xs.length ≤ maxLen) (ht : ∀ x ∈ xs, x.t.length ≤ maxLen) (R : Int) (hR : R = if ((xs.length + sumSt xs : Nat) : Int) ≤ left then left - (xs.length + sumSt xs : Nat) else -1) :
    Calls Try.prog 8 #[v, .int .i64 left] w fun e w' => e = .returned (.int .i64 R) ∧ Below w.heap.size w w' := by
  obtain ⟨a, cap, rfl, -⟩ := id h.rows
  obtain ⟨n, en⟩ : ∃ n, n = xs.length := ⟨_, rfl⟩
  have H := Lib.hid h
  have HT := Lib.hid ht
  have EN := Lib.hid en
  rw [← en] at hn H hR
  rw [← en]
  have HR := Lib.hid hR
  unfold maxLen at hn
  clear h ht en hR
  by_cases h1 : (n : Int) ≤ left
  · have q1 : IntKind.i64.wrap (left - n) = left - n := IntWalk.i64_in _ (by omega)
    have q2 : ¬ left - (n : Int) < 0 := by omega
    have S0 : Hid (left - n - ((sumSt (xs.take 0) : Nat) : Int) = left - n) := by show _ = _; simp [sumSt]
    go_enter Try.func8, Try.ntmps8
    go_wp2
    go_loopw [1, 5] (fun lv i wr => ∃ (k : Nat) (l : Int), k ≤ n ∧ 0 ≤ l ∧ l ≤ left ∧ i = .int .i64 k ∧ lv = .int .i64 l ∧ Hid (l = left - n - (sumSt (xs.take k) : Nat)) ∧ Hid (Below w.heap.size w wr)) (fun _ i _ => n - (intOf i).toNat)
    case atStart => exact ⟨0, left - n, by omega, by omega, by omega, rfl, rfl, S0.out.symm, Below.refl _ _⟩
    case round =>
      obtain ⟨k, l, hk, l0, l1, rfl, rfl, hs, B⟩ := hrel
      clear S0
      have sz := B.out.size
      by_cases hlt : k < n
      · obtain ⟨x, hx⟩ : ∃ x, xs[k]? = some x := ⟨_, List.getElem?_eq_getElem (by have := EN.out; omega)⟩
        obtain ⟨b, off, rfl, c0, c1, -, -⟩ := (H.out.later B.out).at hx
        have tl := HT.out x (List.mem_of_getElem? hx)
        unfold maxLen at tl
        have ST := Lib.hid (sumSt_take_succ hx)
        have SL := Lib.hid (sumSt_take_le xs (k + 1))
        have C := Lib.hid (fun w => szStop_any x.r x.a x.t.length x.c l l0 (by omega) (by omega) w)
        obtain ⟨m, hm⟩ : ∃ m, m = x.t.length := ⟨_, rfl⟩
        rw [← hm] at c1 C ST tl
        have HM := Lib.hid hm
        clear hx hm
        by_cases h2 : (m : Int) ≤ l
        · rw [if_pos h2] at C
          have q3 : ¬ l - (m : Int) < 0 := by omega
          go_wp2_with fail
          refine (C.out _).mono ?_
          rintro e w' ⟨rfl, b2⟩
          have B2 : Hid (Below w.heap.size w w') := B.out.trans (b2.mono sz)
          have S2 : Hid (l - (m : Int) = left - n - (sumSt (xs.take (k + 1)) : Nat)) := by show _ = _; have := hs.out; have := ST.out; omega
          clear b2 hs ST SL B
          go_wp2
          exact ⟨⟨k + 1, l - m, by omega, by omega, by omega, by go_num, rfl, S2, B2⟩, by simp only [intOf]; omega⟩
        · rw [if_neg h2] at C
          go_wp2_with fail
          refine (C.out _).mono ?_
          rintro e w' ⟨rfl, b2⟩
          have B2 : Hid (Below w.heap.size w w') := B.out.trans (b2.mono sz)
          have R' : ¬ ((n + sumSt xs : Nat) : Int) ≤ left := by have := hs.out; have := ST.out; have := SL.out; omega
          have RH : Hid (R = -1) := by show _ = _; rw [HR.out, if_neg R']
          clear b2 hs ST SL B R'
          go_wp2
          go_ret
          exact ⟨by rw [RH.out]; rfl, B2.out⟩
      · obtain rfl : k = n := by omega
        have e1 : sumSt (xs.take k) = sumSt xs := by rw [List.take_of_length_le (by have := EN.out; omega)]
        have R' : ((k + sumSt xs : Nat) : Int) ≤ left := by have := hs.out; omega
        have LE : Hid (l = R) := by show _ = _; rw [HR.out, if_pos R']; have := hs.out; omega
        clear e1 hs R'
        go_wp2
        go_ret
        exact ⟨by rw [LE.out]; rfl, B.out⟩
  · have q1 : IntKind.i64.wrap (left - n) = left - n := IntWalk.i64_in _ (by omega)
    have q2 : left - (n : Int) < 0 := by omega
    have R' : ¬ ((n + sumSt xs : Nat) : Int) ≤ left := by omega
    obtain rfl : R = -1 := by rw [HR.out, if_neg R']
    clear R'
    go_enter Try.func8, Try.ntmps8
    go_wp2
    go_ret
    exact ⟨rfl, Below.refl _ _⟩

set_option maxHeartbeats 2000000 in
theorem eqStop_same (r : Int) (a b : Value) (zs : List Int) (w : World) (ha : RdI w a zs) (hb : RdI w b zs) (lz : zs.length ≤ 4611686018427387904) :
    Calls Try.prog 46 #[.agg #[.int .i64 r, a], .agg #[.int .i64 r, b]] w fun e w' => e = .returned (.bool true) ∧ Below w.heap.size w w' := by
  have HA := Lib.hid ha
  have HB := Lib.hid hb
  obtain ⟨a', ca, rfl, _⟩ := ha
  obtain ⟨b', cb, rfl, _⟩ := hb
  have d : ((r != r) : Bool) = false := by simp
  go_enter Try.func46, Try.ntmps46
  go_wp2_with fail
  refine (eqInt64S_same _ _ zs _ (HA.out.later (by go_grown)) (HB.out.later (by go_grown)) lz).mono ?_
  rintro e w2 ⟨rfl, b2⟩
  have B2 : Hid (Below w.heap.size w w2) := Below.trans (by go_grown) (b2.mono (by simp; omega))
  clear b2
  go_wp2
  go_ret
  exact ⟨rfl, B2.out⟩
end Go.Proofs.Ytmdddjhlfpmgdac
