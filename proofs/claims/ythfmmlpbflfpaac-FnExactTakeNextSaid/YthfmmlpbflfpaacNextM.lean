/- The next lot: the specification's side. -/
import Derived.Test.YthfmmlpbflfpaacDepO
import Derived.Test.YthfmmlpbflfpaacBlkS
namespace Go.Proofs.Ythfmmlpbflfpaac
open Go.ChangeShapes Go.WideShapes Go.ChangeAt Go.RowKit
set_option linter.unusedVariables false
set_option linter.unusedSimpArgs false

/-- The least lot so far and its stack. -/
def nxT (i : Int) (s : Int × Int) (t : List Int) (k : Nat) : Int × Int := (t.take k).foldl (fun s z => if z < s.1 then (z, i) else s) s
theorem nxT_zero (i : Int) (s : Int × Int) (t : List Int) : nxT i s t 0 = s := by simp [nxT]
theorem nxT_succ {i : Int} {s : Int × Int} {t : List Int} {k : Nat} {z : Int} (h : t[k]? = some z) : nxT i s t (k + 1) = if z < (nxT i s t k).1 then (z, i) else nxT i s t k := by
  unfold nxT; rw [List.take_add_one, h]; simp [List.foldl_append]
theorem nxT_yes {i : Int} {s : Int × Int} {t : List Int} {k : Nat} {z lo at' : Int} (h : t[k]? = some z) (e : (lo, at') = nxT i s t k) (g : z < lo) : (z, i) = nxT i s t (k + 1) := by
  rw [nxT_succ h, ← e, if_pos g]
theorem nxT_no {i : Int} {s : Int × Int} {t : List Int} {k : Nat} {z lo at' : Int} (h : t[k]? = some z) (e : (lo, at') = nxT i s t k) (g : ¬ z < lo) : (lo, at') = nxT i s t (k + 1) := by
  rw [nxT_succ h, ← e, if_neg g]
def nxS (t : Nat → List Int) : Nat → Int × Int
  | 0 => (100, -1)
  | k + 1 => nxT k (nxS t k) (t k) (t k).length
theorem nxS_past {g : Yd} (k : Nat) (h : g.x.length ≤ k) : nxS (tt g) k = nxS (tt g) g.x.length := by
  induction k with
  | zero => rw [Nat.le_zero.1 h]
  | succ k ih =>
    by_cases e : g.x.length = k + 1
    · rw [e]
    · rw [← ih (by omega)]
      show nxT _ _ _ _ = _
      rw [tt_past (show g.x.length ≤ k by omega)]
      rfl

set_option maxRecDepth 100000 in
set_option maxHeartbeats 16000000 in
theorem l09Next_any (G : Nat) (ty : TypeId) (g : Yd) (n0 : Nat) (w : World) (hG : w.heap[G]? = some (.cells #[.int .i64 g.h, .slice g.xa n0 g.xc] ty (0, 0))) (hr : RdYd w n0 g) (ok : OkYd g) :
    Calls Try.prog 25 #[.pointer (some ⟨G, 0, none⟩)] w fun e w' => e = .returned (.int .i64 (nxS (tt g) n0).2) ∧ w = w' := by
  have E0 := Lib.hid hr.len
  obtain ⟨⟨k0, k1⟩, -, lG⟩ := boxedYd_at hG
  have n4 : n0 ≤ 4 := by have := ok.n0; have := hr.len; omega
  have H := Lib.hid hr.r0
  have OK := Lib.hid ok
  obtain ⟨x0, hx0⟩ : ∃ x0, g.x[0]? = some x0 := ⟨_, List.getElem?_eq_getElem (by have := ok.n0; omega)⟩
  obtain ⟨ba, oa, EA, -, -, -⟩ := H.out.at hx0
  rw [EA] at k1
  clear hG hr ok hx0 x0
  go_enter Try.func25, Try.ntmps25
  go_wp2
  go_loopw [3, 4, 5] (fun av lv iv wr => ∃ (i : Nat) (lo at' : Int), i ≤ n0 ∧ iv = .int .i64 i ∧ lv = .int .i64 lo ∧ av = .int .i64 at' ∧ Hid ((lo, at') = nxS (tt g) i) ∧ w = wr) (fun _ _ iv _ => n0 - (intOf iv).toNat)
  case atStart => exact ⟨0, 100, -1, by omega, rfl, rfl, rfl, rfl, rfl⟩
  case round =>
    obtain ⟨i, lo, at', hi', rfl, rfl, rfl, hs, rfl⟩ := hrel
    by_cases hlt : i < n0
    · obtain ⟨x, hx⟩ : ∃ x, g.x[i]? = some x := ⟨_, List.getElem?_eq_getElem (by have := E0.out; omega)⟩
      obtain ⟨ba', oa', ea, e1, rt, la⟩ := H.out.at hx
      rw [EA] at ea
      simp only [Option.some.injEq, Addr.mk.injEq, and_true] at ea
      obtain ⟨rfl, rfl⟩ := ea
      have ltx : x.t.length ≤ 4 := by have := OK.out.t0 x (List.mem_of_getElem? hx); have := OK.out.h0; omega
      have TX : Hid (nxS (tt g) (i + 1) = nxT i (nxS (tt g) i) x.t x.t.length) := by show nxT _ _ _ _ = _; rw [tt_get hx]
      have S0 : Hid ((lo, at') = nxT i (nxS (tt g) i) x.t 0) := by show _ = _; rw [nxT_zero, hs.out]
      obtain ⟨p, hp⟩ : ∃ p, p = x.t.length := ⟨_, rfl⟩
      rw [← hp] at e1 rt ltx
      have HP := Lib.hid hp
      have RT := Lib.hid rt
      clear hx hp rt
      go_wp2
      go_loopw [3, 4, 6] (fun av lv kv wr => ∃ (k : Nat) (lo at' : Int), k ≤ p ∧ kv = .int .i64 k ∧ lv = .int .i64 lo ∧ av = .int .i64 at' ∧ Hid ((lo, at') = nxT i (nxS (tt g) i) x.t k) ∧ w = wr) (fun _ _ kv _ => p - (intOf kv).toNat)
      case atStart => exact ⟨0, lo, at', by omega, rfl, rfl, rfl, S0.out, rfl⟩
      case round =>
        obtain ⟨k, lo2, at2, hk, rfl, rfl, rfl, hs2, rfl⟩ := hrel
        by_cases hlk : k < p
        · obtain ⟨z, hzz⟩ : ∃ z, x.t[k]? = some z := ⟨_, List.getElem?_eq_getElem (by have := HP.out; omega)⟩
          obtain ⟨bz, oz, ez, f3⟩ := RT.out.at1 k z hzz
          rw [ez] at e1
          have HZ := Lib.hid hzz
          clear hzz
          by_cases hl : z < lo2
          · have S2 := Lib.hid (nxT_yes HZ.out hs2.out hl)
            go_wp2
            exact ⟨⟨k + 1, z, (i : Int), by omega, by go_num, rfl, rfl, S2, by trivial⟩, by simp only [intOf]; omega⟩
          · have S2 := Lib.hid (nxT_no HZ.out hs2.out hl)
            go_wp2
            exact ⟨⟨k + 1, lo2, at2, by omega, by go_num, rfl, rfl, S2, by trivial⟩, by simp only [intOf]; omega⟩
        · obtain rfl : k = p := by omega
          have S3 : Hid ((lo2, at2) = nxS (tt g) (i + 1)) := by show _ = _; rw [TX.out, ← HP.out, ← hs2.out]
          go_wp2
          exact ⟨⟨i + 1, lo2, at2, by omega, by go_num, rfl, rfl, S3, by trivial⟩, by simp only [intOf]; omega⟩
    · obtain rfl : i = n0 := by omega
      have e : (nxS (tt g) i).2 = at' := by rw [← hs.out]
      have EE := Lib.hid e
      clear e
      go_wp2
      go_ret
      exact ⟨by simpa using EE.out.symm, rfl⟩
end Go.Proofs.Ythfmmlpbflfpaac
