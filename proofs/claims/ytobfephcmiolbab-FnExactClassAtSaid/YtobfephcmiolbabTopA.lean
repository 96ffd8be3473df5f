/- The tops at a ring, on the program's side. -/
import Derived.Test.YtobfephcmiolbabTopK
import Derived.Deep.RegionHeld3
import Derived.BigQuiet
namespace Go.Proofs.Ytobfephcmiolbab
open Go.ChangeShapes Go.WideShapes Go.ChangeAt Go.RowKit
set_option linter.unusedVariables false
set_option linter.unusedSimpArgs false

set_option maxRecDepth 100000 in
set_option maxHeartbeats 4000000 in
theorem topsAt_any (g : Gu) (ring : Int) (r0 : 0 ≤ ring) (r1 : ring ≤ 60) (w : World) (h : RdG w g) (ok : OkG g) (lt : g.tot ≤ 1048576) (B : Nat) (hB : Behind g.xs ring B) (ts : List Int) (hts : IsTops g.xs ring B ts) :
    Calls Try.prog 64 #[.agg #[.slice g.da g.d.length g.dc, .slice g.ha g.xs.length g.hc], .int .i64 ring] w fun e w' => ∃ v, e = .returned v ∧ OwnI w' w.heap.size v ts ∧ Below w.heap.size w w' := by
  have F := Lib.hid (fun w h => firstBehind_any g ring w h lt B hB)
  have RG := Lib.hid h
  have BX := hB.le
  have h1 := ok.h1
  have h6 := ok.h6
  have hd0 := ok.d0
  have hd4 := ok.d4
  obtain ⟨ia, ib, x, y, hia, hib, ea, eb, hx, hy, hc⟩ := tops_two ok.rise hB hts
  have hox := ok.holes x (List.mem_of_getElem? hx)
  have hoy := ok.holes y (List.mem_of_getElem? hy)
  have HX := Lib.hid hx
  have HY := Lib.hid hy
  have HC := Lib.hid hc
  have OX := Lib.hid hox
  have OY := Lib.hid hoy
  obtain ⟨n, hn⟩ : ∃ n, n = g.xs.length := ⟨_, rfl⟩
  obtain ⟨m, hm⟩ : ∃ n, n = g.d.length := ⟨_, rfl⟩
  rw [← hn] at F BX h1 h6 hia hib eb
  rw [← hm] at F hd0 hd4
  rw [← hn, ← hm]
  have HN := Lib.hid hn
  have HM := Lib.hid hm
  clear h ok lt hB hts hx hy hc hox hoy hn hm
  go_enter Try.func64, Try.ntmps64
  go_wp2_with fail
  refine (F.out _ (RG.out.later (by go_grown))).mono ?_
  rintro e w1 ⟨rfl, b1⟩
  have BL : Below w.heap.size w (w.alloc (.cells #[.slice g.da m g.dc, .slice g.ha n g.hc] 30)) := by go_grown
  have B1 : Hid (Below w.heap.size w w1) := BL.trans (b1.mono BL.size)
  have z2 : w1.cell? ⟨w.heap.size, 1, none⟩ = some (.slice g.ha n g.hc) := (b1.cell (p := ⟨w.heap.size, 1, none⟩) (World.block_lt_of_cell? _ _ (cell_of_row _ w.heap.size 1 _ 30 (0, 0) (heap_alloc_new w _)))).trans (cell_of_row _ w.heap.size 1 _ 30 (0, 0) (heap_alloc_new w _))
  have RG1 := RG.out.holes.later B1.out
  unfold Gu.hv at RG1
  rw [← HN.out] at RG1
  obtain ⟨ba, oa, eha, xc0, xc1, xr, lba⟩ := RG1.at HX.out
  obtain ⟨ba', oa', eha', yc0, yc1, yr, lbb⟩ := RG1.at HY.out
  obtain ⟨rfl, rfl⟩ : ba = ba' ∧ oa = oa' := by rw [eha] at eha'; simpa using eha'
  clear eha'
  rw [eha] at z2
  obtain ⟨xt, hxt⟩ : ∃ n, n = x.t.length := ⟨_, rfl⟩
  obtain ⟨yt, hyt⟩ : ∃ n, n = y.t.length := ⟨_, rfl⟩
  rw [← hxt] at xc1
  rw [← hyt] at yc1
  have q1 : IntKind.i64.wrap ((B : Int) - 1) = (B : Int) - 1 := IntWalk.i64_in _ (by omega)
  have q2 : IntKind.i64.wrap ((n : Int) - 1) = (n : Int) - 1 := IntWalk.i64_in _ (by omega)
  have XR := Lib.hid xr
  have YR := Lib.hid yr
  have HXT := Lib.hid hxt
  have HYT := Lib.hid hyt
  have lg : w.heap.size < w1.heap.size := World.block_lt_of_cell? _ _ z2
  have ne1 : ¬ w.heap.size = w1.heap.size := by omega
  have ne2 : ¬ w.heap.size = w1.heap.size + 1 := by omega
  have ne3 : ¬ ba = w1.heap.size := by omega
  have ne4 : ¬ ba = w1.heap.size + 1 := by omega
  clear RG1 BL b1 eha xr yr hxt hyt
  have DV := Lib.hid (fun a b h1 h2 h3 h4 w => divFloor_any a b h1 h2 h3 h4 w)
  go_wp2
  rename_i Q K hK
  have REST : Hid (∀ (pa pb : Nat) (w2 : World), w2.cell? ⟨pa, 0, none⟩ = some (.int .i64 x.r) → w2.cell? ⟨pa, 1, none⟩ = some (.slice x.a xt x.c) → w2.cell? ⟨pb, 0, none⟩ = some (.int .i64 y.r) → w2.cell? ⟨pb, 1, none⟩ = some (.slice y.a yt y.c) → Below w1.heap.size w1 w2 →
      Exit.then K Q .normal { tmps := #[.agg #[.slice g.da m g.dc, .slice g.ha n g.hc], .int .i64 ring, .pointer (some ⟨w.heap.size, 0, none⟩), undef, .slice none 0 0, .int .i64 B, .pointer (some ⟨pa, 0, none⟩), .pointer (some ⟨pb, 0, none⟩), undef, undef, undef, undef, .agg #[.slice g.da m g.dc, .slice g.ha n g.hc], .int .i64 ring, .int .i64 B, .pointer (some ⟨w.heap.size, 1, none⟩), .slice (some ⟨ba, oa, none⟩) n g.hc, .int .i64 B, .int .i64 ((B : Int) - 1), .int .i64 ia, .pointer (some ⟨ba, oa + ia * 2, none⟩), .agg #[.int .i64 x.r, .slice x.a xt x.c], .pointer (some ⟨w.heap.size, 1, none⟩), .slice (some ⟨ba, oa, none⟩) n g.hc, .int .i64 B, .pointer (some ⟨w.heap.size, 1, none⟩), .slice (some ⟨ba, oa, none⟩) n g.hc, .int .i64 n, .int .i64 ((n : Int) - 1), .int .i64 ib, .pointer (some ⟨ba, oa + ib * 2, none⟩), .agg #[.int .i64 y.r, .slice y.a yt y.c], undef, undef, undef, undef, undef, undef, undef, undef, undef, undef, undef, undef, undef, undef, undef, undef, undef, undef, undef, undef, undef, undef, undef, undef, undef, undef, undef, undef, undef, undef, undef, undef, undef, undef, undef, undef, undef, undef, undef, undef, undef, undef, undef, undef, undef, undef, undef, undef], defers := [] } w2) := by
    as_aux_lemma =>
      show ∀ _, _
      intro pa pb w2 a0 a1 b0 b1 B2
      obtain ⟨ox0, ox1, oxl, oxa, -⟩ := OX.out
      obtain ⟨oy0, oy1, oyl, oya, -⟩ := OY.out
      have txl : xt = x.t.length := HXT.out
      have tyl : yt = y.t.length := HYT.out
      have em : m = g.d.length := HM.out
      have XR2 := XR.out.later B2
      have YR2 := YR.out.later B2
      have CL := Lib.hid (clone8_any x.a x.c xt x.t w2 txl (by omega) (by omega) (by rw [txl]; exact XR2))
      obtain ⟨bx, ox, ex, lx, cx⟩ := XR2.spot (by omega)
      obtain ⟨by', oy, ey, ly, cy⟩ := YR2.spot (by omega)
      have B12 : Hid (Below w.heap.size w w2) := B1.out.trans (B2.mono B1.out.size)
      have sz2 := B12.out.size
      have XT : Hid (0 < xt) := by show _ < _; omega
      have exy : yt = xt := by omega
      rw [exy] at b1
      have EXY := Lib.hid exy
      have OXA := Lib.hid oxa
      have OYA := Lib.hid oya
      have la : pa < w2.heap.size := World.block_lt_of_cell? _ _ a0
      have lb : pb < w2.heap.size := World.block_lt_of_cell? _ _ b0
      have A0 := Lib.hid a0
      have A1 := Lib.hid a1
      have C0 := Lib.hid b0
      have C1 := Lib.hid b1
      have CX := Lib.hid cx
      have CY := Lib.hid cy
      rw [ex] at A1 a1 CL
      rw [ey] at C1
      have xt4 : xt ≤ 4 := by omega
      clear B2 XR YR XR2 YR2 oxa oya oxl oyl xc0 xc1 yc0 yc1 z2 eb ea q1 q2 txl tyl em exy cx cy b0 b1
      rcases HC.out with ⟨he, ht⟩ | ⟨hlt, ht⟩
      · have d : (x.r == y.r) = true := by simpa using he
        have HT := Lib.hid ht
        clear HC ht
        go_wp2_with fail
        refine CL.out.mono ?_
        rintro e w3 ⟨v, rfl, o3, b3⟩
        obtain ⟨vg, vc, rfl⟩ := o3.fit
        have a0' := (b3.cell (p := ⟨pa, 0, none⟩) la).trans a0
        have b0' := (b3.cell (p := ⟨pb, 0, none⟩) lb).trans C0.out
        have O3 := Lib.hid o3
        have B3 := Lib.hid b3
        clear o3 b3 a0 a1
        go_wp2
        go_ret
        exact ⟨_, rfl, by rw [HT.out]; exact O3.out.mono sz2, B12.out.trans (B3.out.mono sz2)⟩
      · have d : (x.r == y.r) = false := by simp; omega
        have HT := Lib.hid ht
        clear HC ht
        go_wp2_with fail
        refine CL.out.mono ?_
        rintro e w3 ⟨v, rfl, o3, b3⟩
        obtain ⟨vg, vc, rfl⟩ := o3.fit
        rw [← HXT.out] at o3 ⊢
        obtain ⟨gg, rfl, lgg⟩ := o3.spot (by rw [← HXT.out]; exact XT.out)
        have a0' := (b3.cell (p := ⟨pa, 0, none⟩) la).trans a0
        have b0' := (b3.cell (p := ⟨pb, 0, none⟩) lb).trans C0.out
        have O3 : Hid (OwnI w3 w2.heap.size (.slice (some ⟨gg, 0, none⟩) xt vc) (mixT x y ring 0)) := by show OwnI _ _ _ _; rw [mixT_zero]; exact o3
        have B3 := Lib.hid b3
        have q3 : IntKind.i64.wrap (y.r - x.r) = y.r - x.r := IntWalk.i64_in _ (by omega)
        have q4 : IntKind.i64.wrap (ring - x.r) = ring - x.r := IntWalk.i64_in _ (by omega)
        clear o3 b3 a0 a1 CL
        go_wp2
        go_loopw [43] (fun i wr => ∃ k : Nat, k ≤ xt ∧ i = .int .i64 k ∧ Hid (OwnI wr w2.heap.size (.slice (some ⟨gg, 0, none⟩) xt vc) (mixT x y ring k)) ∧ Hid (Below w2.heap.size w2 wr)) (fun i _ => xt - (intOf i).toNat)
        case atStart => exact ⟨0, by omega, rfl, O3, B3⟩
        case round =>
          obtain ⟨k, hk, rfl, ho, hb⟩ := hrel
          clear O3 B3 a0' b0'
          by_cases hlk : k < xt
          · obtain ⟨a, ha⟩ : ∃ a, x.t[k]? = some a := ⟨_, List.getElem?_eq_getElem (by have := HXT.out; omega)⟩
            obtain ⟨b, hb'⟩ : ∃ b, y.t[k]? = some b := ⟨_, List.getElem?_eq_getElem (by have := HYT.out; have := EXY.out; omega)⟩
            have ra := OXA.out.at ha
            have rb := OYA.out.at hb'
            obtain ⟨⟨m0, m1⟩, d0, d1⟩ := mix_bd ra rb ⟨r0, r1⟩ ⟨ox0, ox1⟩ ⟨oy0, oy1⟩ hlt
            have c0 := (hb.out.cell (p := ⟨pa, 0, none⟩) la).trans A0.out
            have c1 := (hb.out.cell (p := ⟨pa, 1, none⟩) la).trans A1.out
            have c2 := (hb.out.cell (p := ⟨pb, 0, none⟩) lb).trans C0.out
            have c3 := (hb.out.cell (p := ⟨pb, 1, none⟩) lb).trans C1.out
            have c4 := (hb.out.cell (p := ⟨bx, ox + k, none⟩) lx).trans (CX.out k a ha)
            have c5 := (hb.out.cell (p := ⟨by', oy + k, none⟩) ly).trans (CY.out k b hb')
            obtain ⟨c6, f6⟩ := mixT_cell HXT.out hlk ha ho.out
            have S1 := mixT_store HXT.out hlk ha hb' ho.out
            have S2 : Hid (Below w2.heap.size w2 (wr.setCell ⟨gg, k, none⟩ (.int .i64 (a + (b - a) * (ring - x.r) / (y.r - x.r))))) := hb.out.setCell lgg _
            have D := Lib.hid (fun w => DV.out ((b - a) * (ring - x.r)) (y.r - x.r) (by omega) (by omega) (by omega) (by omega) w)
            obtain ⟨M, hM⟩ : ∃ M, M = (b - a) * (ring - x.r) := ⟨_, rfl⟩
            rw [← hM] at m0 m1 d0 d1 S1 S2 D
            obtain ⟨q, hq⟩ : ∃ q, q = M / (y.r - x.r) := ⟨_, rfl⟩
            rw [← hq] at d0 d1 S1 S2 D
            have q5 : IntKind.i64.wrap (b - a) = b - a := IntWalk.i64_in _ (by omega)
            have q6 : IntKind.i64.wrap ((b - a) * (ring - x.r)) = M := by rw [← hM]; exact IntWalk.i64_in _ (by omega)
            have q7 : IntKind.i64.wrap (a + q) = a + q := IntWalk.i64_in _ (by omega)
            have T1 := Lib.hid S1
            have HB := Lib.hid hb.out
            clear hM hq ha hb' hb ho S1 S2
            go_wp2
            go_quiet ((go_at_call 98; exact (D.out _).mono fun _ _ h => ⟨h.1, ⟨_, h.2.symm⟩⟩))
            go_wp2
            exact ⟨⟨k + 1, by omega, by go_num, T1, (below_drewN HB.out _).setCell lgg _⟩, by simp only [intOf]; omega⟩
          · obtain rfl : k = xt := by omega
            have HO : Hid (OwnI wr w2.heap.size (.slice (some ⟨gg, 0, none⟩) k vc) ts) := by have h := ho.out; show OwnI _ _ _ _; rw [HT.out, ← mixT_all, ← HXT.out]; exact h
            clear ho
            go_wp2
            go_ret
            exact ⟨_, rfl, HO.out.mono sz2, B12.out.trans (hb.out.mono sz2)⟩
  have KS : Hid (∀ w', Below w1.heap.size w1 w' → (w'.cell? ⟨w.heap.size, 1, none⟩ = some (.slice (some ⟨ba, oa, none⟩) n g.hc) ∧ w'.cell? ⟨ba, oa + ia * 2, none⟩ = some (.int .i64 x.r) ∧ w'.cell? ⟨ba, oa + ia * 2 + 1, none⟩ = some (.slice x.a xt x.c) ∧ w'.cell? ⟨ba, oa + ib * 2, none⟩ = some (.int .i64 y.r) ∧ w'.cell? ⟨ba, oa + ib * 2 + 1, none⟩ = some (.slice y.a yt y.c))) :=
    fun w' b => ⟨(b.cell (p := ⟨w.heap.size, 1, none⟩) lg).trans z2, (b.cell (p := ⟨ba, oa + ia * 2, none⟩) lba).trans xc0, (b.cell (p := ⟨ba, oa + ia * 2 + 1, none⟩) lba).trans xc1, (b.cell (p := ⟨ba, oa + ib * 2, none⟩) lba).trans yc0, (b.cell (p := ⟨ba, oa + ib * 2 + 1, none⟩) lba).trans yc1⟩
  clear DV OX OY HC XR YR B1 xc0 xc1 yc0 yc1 z2
  go_region_held3 (fun w' => (w'.cell? ⟨w.heap.size, 1, none⟩ = some (.slice (some ⟨ba, oa, none⟩) n g.hc) ∧ w'.cell? ⟨ba, oa + ia * 2, none⟩ = some (.int .i64 x.r) ∧ w'.cell? ⟨ba, oa + ia * 2 + 1, none⟩ = some (.slice x.a xt x.c) ∧ w'.cell? ⟨ba, oa + ib * 2, none⟩ = some (.int .i64 y.r) ∧ w'.cell? ⟨ba, oa + ib * 2 + 1, none⟩ = some (.slice y.a yt y.c)))
    (exact KS.out _ (by go_grown))
    (fail)
  all_goals
    first
    | exact REST.out _ _ _ (cell_of_row _ w1.heap.size 0 _ 48 (0, 0) (box2_0 w1 _ _)) (cell_of_row _ w1.heap.size 1 _ 48 (0, 0) (box2_0 w1 _ _)) (cell_of_row _ (w1.heap.size + 1) 0 _ 48 (0, 0) (box2_1 w1 _ _)) (cell_of_row _ (w1.heap.size + 1) 1 _ 48 (0, 0) (box2_1 w1 _ _)) (by go_grown)
    | exact REST.out _ _ _ (cell_of_row _ (w1.heap.size + 1) 0 _ 48 (0, 0) (box2_1 w1 _ _)) (cell_of_row _ (w1.heap.size + 1) 1 _ 48 (0, 0) (box2_1 w1 _ _)) (cell_of_row _ w1.heap.size 0 _ 48 (0, 0) (box2_0 w1 _ _)) (cell_of_row _ w1.heap.size 1 _ 48 (0, 0) (box2_0 w1 _ _)) (by go_grown)
end Go.Proofs.Ytobfephcmiolbab
