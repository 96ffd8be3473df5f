/- What a plan changes, as bits: the program's side. -/
import Derived.Test.YtmdddjhlfpmgdacMaskM
import Derived.Test.YtmdddjhlfpmgdacJoinSuB
import Derived.Deep.RegionLaw
namespace Go.Proofs.Ytmdddjhlfpmgdac
open Go.ChangeShapes Go.WideShapes Go.ChangeAt Go.RowKit
set_option linter.unusedVariables false
set_option linter.unusedSimpArgs false

set_option maxHeartbeats 1000000 in
theorem ringSetOf1_any (p r : Nat) (hr : r ≤ 59) (w : World) (h : w.cell? ⟨p, 0, none⟩ = some (.int .i64 r)) :
    Calls Try.prog 81 #[.slice (some ⟨p, 0, none⟩) 1 1] w fun e w' => e = .returned (.int .u64 ((2 ^ r : Nat) : Int)) ∧ w' = w := by
  have b0 : (2 : Nat) ^ r < 2 ^ 60 := Nat.pow_lt_pow_right (by decide) (by omega)
  obtain ⟨B, hB⟩ : ∃ B : Nat, B = 2 ^ r := ⟨_, rfl⟩
  have hB2 : ((2 : Int) ^ r) = (B : Int) := by rw [hB]; push_cast; rfl
  have bB : B < 1152921504606846976 := by rw [hB]; exact b0
  have q1 : IntKind.u64.wrap (1 * (2 : Int) ^ r) = (B : Int) := by rw [Int.one_mul, hB2]; unfold IntKind.wrap; simp [IntKind.bits, IntKind.signed]; omega
  have q1' : IntKind.u64.wrap ((2 : Int) ^ r) = (B : Int) := by rw [hB2]; unfold IntKind.wrap; simp [IntKind.bits, IntKind.signed]; omega
  have q2 : bits BinOp.or IntKind.u64 0 (B : Int) = (B : Int) := by
    have := bits_or_u64 0 B (by decide) (by rw [hB]; exact b0)
    rw [Nat.zero_or] at this
    exact_mod_cast this
  rw [← hB]
  have r63 : (r : Int) < 64 := by omega
  have r64 : r < 64 := by omega
  clear hB b0
  go_enter Try.func81, Try.ntmps81
  go_wp2
  refine wp_loop_rounds 2 ?_
  rw [rounds_succ]
  go_wp2
  rw [rounds_succ]
  go_wp2
  go_ret
  exact ⟨rfl, rfl⟩

/-- Five masks in a box. -/
def arr5 (f : Nat → Nat) : Array Value := #[.int .u64 ((f 0 : Nat) : Int), .int .u64 ((f 1 : Nat) : Int), .int .u64 ((f 2 : Nat) : Int), .int .u64 ((f 3 : Nat) : Int), .int .u64 ((f 4 : Nat) : Int)]
theorem arr5_cell {w : World} {g : Nat} {t : TypeId} {f : Nat → Nat} (h : w.heap[g]? = some (.cells (arr5 f) t (0, 0))) {c : Nat} (hc : c < 5) : w.cell? ⟨g, c, none⟩ = some (.int .u64 ((f c : Nat) : Int)) ∧ w.frozen? ⟨g, c, none⟩ = false := by
  match c, hc with
  | 0, _ => exact ⟨cell_of_row w g 0 _ t _ h, frozen_of_row w g 0 _ t h⟩
  | 1, _ => exact ⟨cell_of_row w g 1 _ t _ h, frozen_of_row w g 1 _ t h⟩
  | 2, _ => exact ⟨cell_of_row w g 2 _ t _ h, frozen_of_row w g 2 _ t h⟩
  | 3, _ => exact ⟨cell_of_row w g 3 _ t _ h, frozen_of_row w g 3 _ t h⟩
  | 4, _ => exact ⟨cell_of_row w g 4 _ t _ h, frozen_of_row w g 4 _ t h⟩
theorem arr5_put {w : World} {g : Nat} {t : TypeId} {f f' : Nat → Nat} {v : Nat} (h : w.heap[g]? = some (.cells (arr5 f) t (0, 0))) {c : Nat} (hc : c < 5) (hf : ∀ d, f' d = if d = c then v else f d) : (w.setCell ⟨g, c, none⟩ (.int .u64 ((v : Nat) : Int))).heap[g]? = some (.cells (arr5 f') t (0, 0)) := by
  have e : arr5 f' = (arr5 f).set! c (.int .u64 ((v : Nat) : Int)) := by
    match c, hc with
    | 0, _ => simp [arr5, hf]
    | 1, _ => simp [arr5, hf]
    | 2, _ => simp [arr5, hf]
    | 3, _ => simp [arr5, hf]
    | 4, _ => simp [arr5, hf]
  rw [e]
  simpa using heap_setCell_same _ g c _ t (.int .u64 ((v : Nat) : Int)) h

structure ChgSu (x : Su) : Prop where
  r : 0 ≤ x.r ∧ x.r ≤ 59
  t : ∀ y ∈ x.t, 0 ≤ y ∧ y ≤ 4
  n : x.t.length ≤ 5

set_option maxRecDepth 100000 in
set_option maxHeartbeats 8000000 in
theorem changesOf_any (v : Value) (xs : List Su) (w : World) (hr : RdSt w v xs) (lx : xs.length ≤ 1048576) (hok : ∀ x ∈ xs, ChgSu x) :
    Calls Try.prog 43 #[v] w fun e w' => e = .returned (.agg (arr5 fun c => maskTo xs c xs.length)) ∧ Below w.heap.size w w' := by
  have HR := Lib.hid hr
  have HK := Lib.hid hok
  obtain ⟨a, cap, rfl, -⟩ := id hr.rows
  obtain ⟨n, hn⟩ : ∃ n, n = xs.length := ⟨_, rfl⟩
  rw [← hn] at HR lx
  rw [← hn]
  have HN := Lib.hid hn
  clear hr hn hok
  go_enter Try.func43, Try.ntmps43
  go_wp2
  have B0 : Hid (Below w.heap.size w ((w.alloc (.cells (arr5 fun _ => 0) 87)).alloc (.cells (arr5 fun _ => 0) 87))) := ((Below.refl _ _).alloc (Nat.le_refl _) _).alloc (by simp) _
  have N0 : Hid (((w.alloc (.cells (arr5 fun _ => 0) 87)).alloc (.cells (arr5 fun _ => 0) 87)).heap[w.heap.size]? = some (.cells (arr5 fun _ => 0) 87 (0, 0))) := box2_0 w _ _
  have A0 : Hid (((w.alloc (.cells (arr5 fun _ => 0) 87)).alloc (.cells (arr5 fun _ => 0) 87)).heap[w.heap.size + 1]? = some (.cells (arr5 fun c => maskTo xs c 0) 87 (0, 0))) := box2_1 w _ _
  have y0 : w.heap.size + 2 ≤ ((w.alloc (.cells (arr5 fun _ => 0) 87)).alloc (.cells (arr5 fun _ => 0) 87)).heap.size := by simp
  change Code.wp _ _ _ _ ((w.alloc (.cells (arr5 fun _ => 0) 87)).alloc (.cells (arr5 fun _ => 0) 87))
  generalize (w.alloc (.cells (arr5 fun _ => 0) 87)).alloc (.cells (arr5 fun _ => 0) 87) = w0 at *
  go_loopw [10] (fun iv wr => ∃ k : Nat, k ≤ n ∧ iv = .int .i64 k ∧ Hid (wr.heap[w.heap.size]? = some (.cells (arr5 fun _ => 0) 87 (0, 0))) ∧ Hid (wr.heap[w.heap.size + 1]? = some (.cells (arr5 fun c => maskTo xs c k) 87 (0, 0))) ∧ Hid (Below w.heap.size w wr) ∧ w.heap.size + 2 ≤ wr.heap.size) (fun iv _ => n - (intOf iv).toNat)
  case atStart => exact ⟨0, by omega, rfl, N0, A0, B0, y0⟩
  case round =>
    obtain ⟨k, hk, rfl, NR, AR, B, yr⟩ := hrel
    clear N0 A0 B0 y0
    by_cases hlt : k < n
    · obtain ⟨x, hx⟩ : ∃ x, xs[k]? = some x := ⟨_, List.getElem?_eq_getElem (by have := HN.out; omega)⟩
      have ok := HK.out x (List.mem_of_getElem? hx)
      obtain ⟨ba, oa, rfl, c0, c1, -, -⟩ := (HR.out.later B.out).at hx
      have xr : RdI w (.slice x.a x.t.length x.c) x.t := HR.out.tops x (List.mem_of_getElem? hx)
      obtain ⟨r, hr⟩ : ∃ r : Nat, x.r = r := ⟨x.r.toNat, by have := ok.r; omega⟩
      have r59 : r ≤ 59 := by have := ok.r; omega
      obtain ⟨Bt, hBt⟩ : ∃ b : Nat, b = 2 ^ r := ⟨_, rfl⟩
      have btlt : Bt < 2 ^ 60 := by rw [hBt]; exact Nat.pow_lt_pow_right (by decide) (by omega)
      have MS := Lib.hid (fun c => maskTo_succ hx c)
      have TO := Lib.hid (show x.r.toNat = r by omega)
      rw [hr] at c0
      obtain ⟨m, hm⟩ : ∃ m, m = x.t.length := ⟨_, rfl⟩
      have m5 : m ≤ 5 := by have := ok.n; omega
      have OKT := Lib.hid ok.t
      have ML := Lib.hid (fun c => maskTo_lt xs (fun x hx => (HK.out x hx).r) c k)
      rw [← hm] at c1 xr
      have XR := Lib.hid xr
      have HM := Lib.hid hm
      have HBT := Lib.hid hBt
      have CC := Lib.hid (fun p w h => ringSetOf1_any p r r59 w h)
      rw [← hBt] at CC
      clear hx ok xr hm hBt
      go_wp2_with fail
      have B1 : Hid (Below w.heap.size w (wr.alloc (.cells #[.int .i64 r, .slice x.a m x.c] 80))) := B.out.alloc B.out.size _
      have N1 : Hid ((wr.alloc (.cells #[.int .i64 r, .slice x.a m x.c] 80)).heap[w.heap.size]? = some (.cells (arr5 fun _ => 0) 87 (0, 0))) := (Below.heap_alloc _ _ _ (by omega)).trans NR.out
      have A1 : Hid ((wr.alloc (.cells #[.int .i64 r, .slice x.a m x.c] 80)).heap[w.heap.size + 1]? = some (.cells (arr5 fun c => maskIn (maskTo xs c k) Bt x.t 0 c) 87 (0, 0))) := by
        show _ = _
        simp only [maskIn_zero]
        exact (Below.heap_alloc _ _ _ (by omega)).trans AR.out
      have P1 : Hid ((wr.alloc (.cells #[.int .i64 r, .slice x.a m x.c] 80)).heap[wr.heap.size]? = some (.cells #[.int .i64 r, .slice x.a m x.c] 80 (0, 0))) := heap_alloc_new _ _
      have y1 : w.heap.size + 2 ≤ (wr.alloc (.cells #[.int .i64 r, .slice x.a m x.c] 80)).heap.size := by simp; omega
      obtain ⟨P, hP⟩ : ∃ P, P = wr.heap.size := ⟨_, rfl⟩
      have pP : w.heap.size + 2 ≤ P := by omega
      rw [← hP] at P1 ⊢
      generalize wr.alloc (.cells #[.int .i64 r, .slice x.a m x.c] 80) = w1 at *
      clear hP c0 c1 NR AR B yr
      obtain ⟨⟨p0, p1⟩, -, -⟩ := boxedTwo_at P1.out
      go_wp2
      clear p0 p1
      go_loopw [17] (fun iv wi => ∃ j : Nat, j ≤ m ∧ iv = .int .i64 j ∧ Hid (wi.heap[w.heap.size]? = some (.cells (arr5 fun _ => 0) 87 (0, 0))) ∧ Hid (wi.heap[w.heap.size + 1]? = some (.cells (arr5 fun c => maskIn (maskTo xs c k) Bt x.t j c) 87 (0, 0))) ∧ Hid (wi.heap[P]? = some (.cells #[.int .i64 r, .slice x.a m x.c] 80 (0, 0))) ∧ Hid (Below w.heap.size w wi) ∧ w.heap.size + 2 ≤ wi.heap.size) (fun iv _ => m - (intOf iv).toNat)
      case atStart => exact ⟨0, by omega, rfl, N1, A1, P1, B1, y1⟩
      case round =>
        obtain ⟨j, hj, rfl, NI, AI, PI, BI, yi⟩ := hrel
        clear N1 A1 P1 B1 y1
        obtain ⟨⟨p0, p1⟩, -, pl⟩ := boxedTwo_at PI.out
        by_cases hjm : j < m
        · obtain ⟨y, hy⟩ : ∃ y, x.t[j]? = some y := ⟨_, List.getElem?_eq_getElem (by have := HM.out; omega)⟩
          have oky := OKT.out y (List.mem_of_getElem? hy)
          obtain ⟨yc, rfl⟩ : ∃ c : Nat, y = c := ⟨y.toNat, by omega⟩
          have yc5 : yc < 5 := by omega
          obtain ⟨bb, ob, eb, v0⟩ := (XR.out.later BI.out).atg j _ hy
          obtain ⟨g0, g1⟩ := arr5_cell AI.out yc5
          obtain ⟨O, hO⟩ : ∃ O, O = maskIn (maskTo xs yc k) Bt x.t j yc := ⟨_, rfl⟩
          have o60 : O < 2 ^ 60 := by rw [hO]; exact maskIn_lt (ML.out yc) btlt _ _ _
          rw [← hO] at g0
          have qor := bits_or_u64 O Bt o60 btlt
          obtain ⟨V, hV⟩ : ∃ V, V = O ||| Bt := ⟨_, rfl⟩
          rw [← hV] at qor
          have PUT := Lib.hid (fun (wz : World) (hz : wz.heap[w.heap.size + 1]? = some (.cells (arr5 fun c => maskIn (maskTo xs c k) Bt x.t j c) 87 (0, 0))) => arr5_put (v := V) (f' := fun c => maskIn (maskTo xs c k) Bt x.t (j + 1) c) hz yc5 (fun d => by
            show maskIn (maskTo xs d k) Bt x.t (j + 1) d = _
            rw [maskIn_succ hy]
            by_cases e : d = yc
            · rw [if_pos e, if_pos e, e, hV, hO]
            · rw [if_neg e, if_neg e]))
          have i1 : (0 : Int) ≤ (yc : Int) := by omega
          have i2 : (yc : Int) < 5 := by omega
          have EB := Lib.hid eb
          rw [eb]
          have ld : w.heap.size + 1 < wr.heap.size := by omega
          have ba1 : Below wr.heap.size wr (wr.alloc (.cells #[.int .i64 (r : Int)] 2)) := Below.alloc (Below.refl _ _) (Nat.le_refl _) _
          have g2 : (wr.alloc (.cells #[.int .i64 (r : Int)] 2)).frozen? ⟨w.heap.size + 1, yc, none⟩ = false := (ba1.frozen (p := ⟨w.heap.size + 1, yc, none⟩) ld).trans g1
          have g3 : (wr.alloc (.cells #[.int .i64 (r : Int)] 2)).drew.frozen? ⟨w.heap.size + 1, yc, none⟩ = false := g2
          have g4 : (wr.alloc (.cells #[.int .i64 (r : Int)] 2)).cell? ⟨w.heap.size + 1, yc, none⟩ = some (.int .u64 (O : Int)) := (ba1.cell (p := ⟨w.heap.size + 1, yc, none⟩) ld).trans g0
          have g5 : (wr.alloc (.cells #[.int .i64 (r : Int)] 2)).drew.cell? ⟨w.heap.size + 1, yc, none⟩ = some (.int .u64 (O : Int)) := g4
          have he : ∀ b, b < wr.heap.size → b ≠ w.heap.size + 1 → (((wr.setCell ⟨w.heap.size + 1, yc, none⟩ (.int .u64 (V : Int))).alloc (.cells #[.int .i64 (r : Int)] 2)).drew).heap[b]? = wr.heap[b]? := fun b h1 h2 => by
            show ((wr.setCell ⟨w.heap.size + 1, yc, none⟩ (.int .u64 (V : Int))).alloc _).heap[b]? = _
            rw [Below.heap_alloc _ _ _ (by simpa [World.setCell] using h1), Below.heap_setCell _ _ _ _ h2]
          have NE : Hid ((((wr.setCell ⟨w.heap.size + 1, yc, none⟩ (.int .u64 (V : Int))).alloc (.cells #[.int .i64 (r : Int)] 2)).drew).heap[w.heap.size]? = some (.cells (arr5 fun _ => 0) 87 (0, 0))) := (he _ (by omega) (by omega)).trans NI.out
          have PE : Hid ((((wr.setCell ⟨w.heap.size + 1, yc, none⟩ (.int .u64 (V : Int))).alloc (.cells #[.int .i64 (r : Int)] 2)).drew).heap[P]? = some (.cells #[.int .i64 r, .slice x.a m x.c] 80 (0, 0))) := (he _ pl (by omega)).trans PI.out
          have AE : Hid ((((wr.setCell ⟨w.heap.size + 1, yc, none⟩ (.int .u64 (V : Int))).alloc (.cells #[.int .i64 (r : Int)] 2)).drew).heap[w.heap.size + 1]? = some (.cells (arr5 fun c => maskIn (maskTo xs c k) Bt x.t (j + 1) c) 87 (0, 0))) := by
            show ((wr.setCell ⟨w.heap.size + 1, yc, none⟩ (.int .u64 (V : Int))).alloc _).heap[_]? = _
            rw [Below.heap_alloc _ _ _ (by simpa [World.setCell] using ld)]
            exact PUT.out wr AI.out
          have BE : Hid (Below w.heap.size w (((wr.setCell ⟨w.heap.size + 1, yc, none⟩ (.int .u64 (V : Int))).alloc (.cells #[.int .i64 (r : Int)] 2)).drew)) := ((BI.out.setCell (p := ⟨w.heap.size + 1, yc, none⟩) (show w.heap.size ≤ w.heap.size + 1 by omega) (.int .u64 (V : Int))).alloc (by simp [World.setCell]; omega) (.cells #[.int .i64 (r : Int)] 2)).drew
          have yE : w.heap.size + 2 ≤ (((wr.setCell ⟨w.heap.size + 1, yc, none⟩ (.int .u64 (V : Int))).alloc (.cells #[.int .i64 (r : Int)] 2)).drew).heap.size := by show _ ≤ ((wr.setCell ⟨w.heap.size + 1, yc, none⟩ (.int .u64 (V : Int))).alloc _).heap.size; rw [World.size_alloc]; simp [World.setCell]; omega
          clear hy oky hO hV o60 ba1 he
          rw [EB.out] at PE p1
          go_wp2
          go_region_law (go_simp; go_at_call 81; refine (CC.out _ _ (cell_of_row _ _ 0 _ _ _ (heap_alloc_new _ _))).mono ?_; rintro e w5 ⟨rfl, rfl⟩)
          all_goals
            go_wp2
            exact ⟨⟨j + 1, by omega, by go_num, NE, AE, PE, BE, yE⟩, by simp only [intOf]; omega⟩
        · obtain rfl : j = m := by omega
          have AE : Hid (wr.heap[w.heap.size + 1]? = some (.cells (arr5 fun c => maskTo xs c (k + 1)) 87 (0, 0))) := by
            show _ = _
            have e := AI.out
            have e2 : (fun c => maskTo xs c (k + 1)) = fun c => maskIn (maskTo xs c k) Bt x.t j c := by
              funext c
              rw [MS.out c, TO.out, HM.out, HBT.out]
            rw [e2]; exact e
          clear AI PI p0 p1
          go_wp2
          exact ⟨⟨k + 1, by omega, by go_num, NI, AE, BI, yi⟩, by simp only [intOf]; omega⟩
    · obtain rfl : k = n := by omega
      have h0 := AR.out
      have h1 := NR.out
      have B1 := B.out
      unfold arr5 at h0 h1
      simp only [] at h0 h1
      obtain ⟨m0, hm0⟩ : ∃ z, z = maskTo xs 0 k := ⟨_, rfl⟩
      obtain ⟨m1, hm1⟩ : ∃ z, z = maskTo xs 1 k := ⟨_, rfl⟩
      obtain ⟨m2, hm2⟩ : ∃ z, z = maskTo xs 2 k := ⟨_, rfl⟩
      obtain ⟨m3, hm3⟩ : ∃ z, z = maskTo xs 3 k := ⟨_, rfl⟩
      obtain ⟨m4, hm4⟩ : ∃ z, z = maskTo xs 4 k := ⟨_, rfl⟩
      have E5 : Hid (Value.agg (arr5 fun c => maskTo xs c k) = .agg #[.int .u64 (m0 : Int), .int .u64 (m1 : Int), .int .u64 (m2 : Int), .int .u64 (m3 : Int), .int .u64 (m4 : Int)]) := by show _ = _; rw [hm0, hm1, hm2, hm3, hm4]; rfl
      rw [← hm0, ← hm1, ← hm2, ← hm3, ← hm4] at h0
      obtain ⟨⟨a0, a1, a2, a3, a4⟩, -, -⟩ := boxedHd_at h0
      obtain ⟨⟨r0, r1, r2, r3, r4⟩, ⟨z0, z1, z2, z3, z4⟩, -⟩ := boxedHd_at h1
      clear AR NR B hm0 hm1 hm2 hm3 hm4 h0 h1 HK HR HN
      go_wp2
      refine bodyPost_ret (v := .agg #[.int .u64 (m0 : Int), .int .u64 (m1 : Int), .int .u64 (m2 : Int), .int .u64 (m3 : Int), .int .u64 (m4 : Int)]) (by simp [results, Try.results43, go_sem, r0, r1, r2, r3, r4]; try rfl) rfl ⟨by rw [E5.out], ?_⟩
      exact ((((B1.setCell (p := ⟨w.heap.size, 0, none⟩) (Nat.le_refl _) _).setCell (p := ⟨w.heap.size, 1, none⟩) (Nat.le_refl _) _).setCell (p := ⟨w.heap.size, 2, none⟩) (Nat.le_refl _) _).setCell (p := ⟨w.heap.size, 3, none⟩) (Nat.le_refl _) _).setCell (p := ⟨w.heap.size, 4, none⟩) (Nat.le_refl _) _
end Go.Proofs.Ytmdddjhlfpmgdac
