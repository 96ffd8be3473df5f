/- The tops at a ring, on the document's side. -/
import Derived.Test.YtobfephcmiolbabTopK
import Derived.Deep.RegionHeld3
import Derived.Deep.AppendLies
import Derived.Deep.CutBlock
import Derived.Deep.DeepCutAuto
namespace Go.Proofs.Ytobfephcmiolbab
open Go.ChangeShapes Go.WideShapes Go.ChangeAt Go.RowKit
set_option linter.unusedVariables false
set_option linter.unusedSimpArgs false

theorem tops_spec {xs : List Hu} (hr : Rise xs) {ring : Int} {B : Nat} (hB : Behind xs ring B) {ts : List Int} (h : IsTops xs ring B ts) : ∃ (ia ib : Nat) (x y : Hu), ia < xs.length ∧ ib < xs.length ∧ xs[ia]? = some x ∧ xs[ib]? = some y ∧
    (∀ (i : Nat) z, 1 ≤ i → i ≤ ia → xs[i]? = some z → z.r ≤ ring) ∧ (∀ z, xs[ia + 1]? = some z → ring < z.r) ∧
    (∀ (i : Nat) z, ib ≤ i → i + 1 < xs.length → xs[i]? = some z → ring ≤ z.r) ∧ (∀ (i : Nat) z, ib = i + 1 → xs[i]? = some z → z.r < ring) ∧
    (((ring < x.r ∨ y.r ≤ x.r) ∧ ts = x.t) ∨ ((x.r ≤ ring ∧ x.r < y.r) ∧ ts = inter x y ring x.t.length)) := by
  have hl := hB.le
  cases h with
  | front x hB0 hx =>
    have h1 := (List.getElem?_eq_some_iff.1 hx).1
    refine ⟨0, 0, x, x, by omega, by omega, hx, hx, fun i z a b => by omega, fun z hz => hB.behind 1 z (by omega) hz, fun i z _ _ hz => ?_, fun i z a => by omega, .inl ⟨.inr (Int.le_refl _), rfl⟩⟩
    have := hB.behind i z (by omega) hz; omega
  | last x hBl h0 hx =>
    refine ⟨B - 1, B - 1, x, x, by omega, by omega, hx, hx, fun i z a b hz => hB.before i z (by omega) hz, fun z hz => ?_, fun i z a b => by omega, fun i z a hz => ?_, .inl ⟨.inr (Int.le_refl _), rfl⟩⟩
    · have := (List.getElem?_eq_some_iff.1 hz).1; omega
    · have h1 := rise_le hr (by omega) hz hx
      have h2 := hB.before (B - 1) x (by omega) hx
      omega
  | mid x y h0 hBl hx hy =>
    have h2 := hB.before (B - 1) x (by omega) hx
    have h3 := hB.behind B y (by omega) hy
    by_cases g : x.r = ring
    · refine ⟨B - 1, B - 1, x, x, by omega, by omega, hx, hx, fun i z a b hz => hB.before i z (by omega) hz, fun z hz => hB.behind _ z (by omega) hz, fun i z a b hz => ?_, fun i z a hz => ?_, .inl ⟨.inr (Int.le_refl _), inter_at g⟩⟩
      · by_cases e : i = B - 1
        · subst e; rw [hx] at hz; rw [← Option.some.inj hz]; omega
        · have := hB.behind i z (by omega) hz; omega
      · have h1 := rise_le hr (by omega) hz hx
        omega
    · refine ⟨B - 1, B, x, y, by omega, by omega, hx, hy, fun i z a b hz => hB.before i z (by omega) hz, fun z hz => hB.behind _ z (by omega) hz, fun i z a b hz => ?_, fun i z a hz => ?_, .inr ⟨⟨h2, by omega⟩, rfl⟩⟩
      · have := hB.behind i z (by omega) hz; omega
      · obtain rfl : i = B - 1 := by omega
        rw [hx] at hz; rw [← Option.some.inj hz]; omega

set_option maxRecDepth 100000 in
set_option maxHeartbeats 4000000 in
theorem l06At_any (g : Gu) (ring : Int) (r0 : 0 ≤ ring) (r1 : ring ≤ 60) (w : World) (G : Nat) (p1 : w.cell? ⟨G, 1, none⟩ = some (.slice g.ha g.xs.length g.hc)) (h : RdH w g.hv g.xs) (ok : OkG g) (B : Nat) (hB : Behind g.xs ring B) (ts : List Int) (hts : IsTops g.xs ring B ts) :
    Calls Try.prog 62 #[.pointer (some ⟨G, 0, none⟩), .int .i64 ring] w fun e w' => ∃ v, e = .returned v ∧ OwnI w' w.heap.size v ts ∧ Below w.heap.size w w' := by
  obtain ⟨i0, hi, hz0, hz1, hz2⟩ := infoI8_parts
  have h1 := ok.h1
  have h6 := ok.h6
  have hd0 := ok.d0
  have hd4 := ok.d4
  obtain ⟨ia, ib, x, y, hia, hib, hx, hy, l1, l2, l3, l4, hc⟩ := tops_spec ok.rise hB hts
  obtain ⟨ox0, ox1, oxl, oxa, -⟩ := ok.holes x (List.mem_of_getElem? hx)
  obtain ⟨oy0, oy1, oyl, oya, -⟩ := ok.holes y (List.mem_of_getElem? hy)
  unfold Gu.hv at h
  obtain ⟨ba, oa, eha, xc0, xc1, xr, lba⟩ := h.at hx
  obtain ⟨ba', oa', eha', yc0, yc1, yr, lbb⟩ := h.at hy
  obtain ⟨rfl, rfl⟩ : ba = ba' ∧ oa = oa' := by rw [eha] at eha'; simpa using eha'
  have RI : Hid (∀ (i : Nat) z, g.xs[i]? = some z → w.cell? ⟨ba, oa + i * 2, none⟩ = some (.int .i64 z.r)) := by
    show ∀ _, _
    intro i z hz
    obtain ⟨b', o', e', c0, -, -, -⟩ := h.at hz
    obtain ⟨rfl, rfl⟩ : ba = b' ∧ oa = o' := by rw [eha] at e'; simpa using e'
    exact c0
  rw [eha] at p1
  obtain ⟨n, hn⟩ : ∃ n, n = g.xs.length := ⟨_, rfl⟩
  obtain ⟨xt, hxt⟩ : ∃ n, n = x.t.length := ⟨_, rfl⟩
  have exy : y.t.length = xt := by omega
  obtain ⟨bx, ox, ex, lx, cx⟩ := xr.spot (by omega)
  obtain ⟨by', oy, ey, ly, cy⟩ := yr.spot (by omega)
  have CL := Lib.hid (fun m => l00Own8_any x.a x.c xt x.t (w.drewN m) hxt (by omega) (by omega) (by rw [hxt]; exact xr.drewN m))
  have XT : Hid (0 < xt) := by show _ < _; omega
  rw [← hn] at p1 h1 h6 hia hib l3
  rw [← hxt, ex] at xc1
  rw [ex] at CL
  rw [exy, ey] at yc1
  have xt4 : xt ≤ 4 := by omega
  have HN := Lib.hid hn
  have HXT := Lib.hid hxt
  have EXY := Lib.hid exy
  have L1 := Lib.hid l1
  have L2 := Lib.hid l2
  have L3 := Lib.hid l3
  have L4 := Lib.hid l4
  have CX := Lib.hid cx
  have CY := Lib.hid cy
  have OXA := Lib.hid oxa
  have OYA := Lib.hid oya
  have HC := Lib.hid hc
  have EX : ∀ i, i < n → ∃ z, g.xs[i]? = some z := fun i hi => ⟨_, List.getElem?_eq_getElem (by omega)⟩
  have EX' := Lib.hid EX
  have FL := Lib.hid (fun a b h1 h2 h3 h4 w => l01Floor_any a b h1 h2 h3 h4 w)
  clear hx hy l1 l2 l3 l4 hc oxa oya oxl oyl h eha eha' xr yr hn hxt exy cx cy hB hts ok EX
  go_enter Try.func62, Try.ntmps62
  go_upto_block 0 with (fail)
  go_cut [5] (fun iv wx => iv = .int .i64 ia ∧ w = wx)
  case first =>
    go_wp2_with fail
    go_loopw [5] (fun iv wr => ∃ i : Nat, i ≤ ia ∧ iv = .int .i64 i ∧ w = wr) (fun iv _ => ia - (intOf iv).toNat)
    case atStart => exact ⟨0, by omega, rfl, rfl⟩
    case round =>
      obtain ⟨i, hii, rfl, rfl⟩ := hrel
      have q1 : IntKind.i64.wrap ((i : Int) + 1) = ((i + 1 : Nat) : Int) := by rw [IntWalk.i64_in _ (by omega)]; omega
      by_cases hlt : i < ia
      · obtain ⟨z, hz⟩ := EX'.out (i + 1) (by omega)
        have zl := L1.out (i + 1) z (by omega) (by omega) hz
        have c0 := RI.out (i + 1) z hz
        have dn : decide (((i + 1 : Nat) : Int) < (n : Int)) = true := decide_eq_true (by omega)
        clear hz
        go_wp2
        exact ⟨⟨i + 1, by omega, by go_num, trivial⟩, by simp only [intOf]; omega⟩
      · obtain rfl : i = ia := by omega
        have STOP : (n ≤ i + 1 ∧ decide ((i : Int) + 1 < (n : Int)) = false) ∨ (decide ((i : Int) + 1 < (n : Int)) = true ∧ ∃ z : Hu, w.cell? ⟨ba, oa + (i + 1) * 2, none⟩ = some (.int .i64 z.r) ∧ decide (z.r ≤ ring) = false ∧ i + 1 < n) := by
          by_cases e : i + 1 < n
          · obtain ⟨z, hz⟩ := EX'.out (i + 1) e
            have := L2.out z hz
            exact .inr ⟨decide_eq_true (by omega), z, RI.out (i + 1) z hz, decide_eq_false (by omega), e⟩
          · exact .inl ⟨by omega, decide_eq_false (by omega)⟩
        rcases STOP with ⟨en, dn⟩ | ⟨dn, z, c0, dz, e⟩
        all_goals
          go_wp2
          go_meet
          exact ⟨rfl, rfl⟩
  case rest =>
    obtain ⟨rfl, rfl⟩ := hcut
    have q0 : IntKind.i64.wrap ((n : Int) - 1) = ((n - 1 : Nat) : Int) := by rw [IntWalk.i64_in _ (by omega)]; omega
    go_upto_block 2 with (fail)
    go_cut [6] (fun jv wx => jv = .int .i64 ib ∧ w = wx)
    case first =>
      go_wp2_with fail
      go_loopw [6] (fun jv wr => ∃ j : Nat, ib ≤ j ∧ j < n ∧ jv = .int .i64 j ∧ w = wr) (fun jv _ => (intOf jv).toNat)
      case atStart => exact ⟨n - 1, by omega, by omega, rfl, rfl⟩
      case round =>
        obtain ⟨j, hj, hjn, rfl, rfl⟩ := hrel
        by_cases hgt : ib < j
        · obtain ⟨jj, rfl⟩ : ∃ jj, j = jj + 1 := ⟨j - 1, by omega⟩
          obtain ⟨z, hz⟩ := EX'.out jj (by omega)
          have zl := L3.out jj z (by omega) (by omega) hz
          have c0 := RI.out jj z hz
          have dj : decide ((0 : Int) < ((jj + 1 : Nat) : Int)) = true := decide_eq_true (by omega)
          have q2 : IntKind.i64.wrap (((jj + 1 : Nat) : Int) - 1) = (jj : Int) := by rw [IntWalk.i64_in _ (by omega)]; omega
          clear hz
          go_wp2
          exact ⟨⟨jj, by omega, by omega, by go_num, trivial⟩, by simp only [intOf]; omega⟩
        · obtain rfl : j = ib := by omega
          have STOP2 : (decide (0 < j) = false) ∨ (∃ (jj : Nat) (z : Hu), decide (0 < j) = true ∧ IntKind.i64.wrap ((j : Int) - 1) = (jj : Int) ∧ w.cell? ⟨ba, oa + jj * 2, none⟩ = some (.int .i64 z.r) ∧ decide (ring ≤ z.r) = false ∧ jj < n) := by
            by_cases e : j = 0
            · exact .inl (decide_eq_false (by omega))
            · obtain ⟨z, hz⟩ := EX'.out (j - 1) (by omega)
              have := L4.out (j - 1) z (by omega) hz
              exact .inr ⟨j - 1, z, decide_eq_true (by omega), by rw [IntWalk.i64_in _ (by omega)]; omega, RI.out (j - 1) z hz, decide_eq_false (by omega), by omega⟩
          rcases STOP2 with dj | ⟨jj, z, dj, q2, c1, dz2, ejj⟩
          all_goals
            go_wp2
            go_meet
            exact ⟨rfl, rfl⟩
    case rest =>
      obtain ⟨rfl, rfl⟩ := hcut
      clear EX' L1 L2 L3 L4 RI q0
      rcases HC.out with ⟨hh, ht⟩ | ⟨⟨g1, g2⟩, ht⟩
      · have HT := Lib.hid ht
        have D : (decide (ring < x.r) = true) ∨ (decide (ring < x.r) = false ∧ decide (y.r ≤ x.r) = true) := by
          by_cases c : ring < x.r
          · exact .inl (decide_eq_true c)
          · exact .inr ⟨decide_eq_false c, decide_eq_true (by omega)⟩
        clear ht hh HC
        rcases D with d1 | ⟨d1, d2⟩
        all_goals
          go_wp2
          go_quiet (fail)
          go_wp2_with fail
          refine (CL.out _).mono ?_
          rintro e w3 ⟨v, rfl, o3, b3⟩
          have O3 := Lib.hid o3
          have B3 := Lib.hid b3
          clear o3 b3
          go_wp2
          go_ret
          exact ⟨_, rfl, by rw [HT.out]; exact O3.out, Below.trans (below_drewN (Below.refl _ _) _) B3.out⟩
      · have HT := Lib.hid ht
        have d1 : decide (ring < x.r) = false := decide_eq_false (by omega)
        have d2 : decide (y.r ≤ x.r) = false := decide_eq_false (by omega)
        clear ht HC CL
        go_wp2
        go_quiet (fail)
        rename_i nq
        have O0 : Hid (OwnI ((w.drewN nq).alloc (.cells #[] 2)) w.heap.size (.slice (some ⟨w.heap.size, 0, none⟩) 0 0) (inter x y ring 0)) := ownI_lit8 (w.drewN nq) [] (by simp)
        have B0 : Hid (Below w.heap.size w ((w.drewN nq).alloc (.cells #[] 2))) := (below_drewN (Below.refl _ _) _).alloc (Nat.le_refl _) _
        go_wp2
        go_loopw [9, 10] (fun ov iv wr => ∃ (k c1 : Nat) (ad : Option Addr), k ≤ xt ∧ iv = .int .i64 k ∧ ov = .slice ad k c1 ∧ Hid (OwnI wr w.heap.size (.slice ad k c1) (inter x y ring k)) ∧ Hid (Below w.heap.size w wr)) (fun _ iv _ => xt - (intOf iv).toNat)
        case atStart => exact ⟨0, 0, _, by omega, rfl, rfl, O0, B0⟩
        case round =>
          obtain ⟨k, c1, ad, hk, rfl, rfl, ho, hbl⟩ := hrel
          clear O0 B0
          have e1 := (hbl.out.cell (p := ⟨ba, oa + ia * 2 + 1, none⟩) lba).trans xc1
          by_cases hlk : k < xt
          · obtain ⟨a, ha⟩ : ∃ a, x.t[k]? = some a := ⟨_, List.getElem?_eq_getElem (by have := HXT.out; omega)⟩
            obtain ⟨b, hb'⟩ : ∃ b, y.t[k]? = some b := ⟨_, List.getElem?_eq_getElem (by have := EXY.out; omega)⟩
            have ra := OXA.out.at ha
            have rb := OYA.out.at hb'
            obtain ⟨⟨m0, m1⟩, d0, d3⟩ := mix_bd ra rb ⟨r0, r1⟩ ⟨ox0, ox1⟩ ⟨oy0, oy1⟩ g2
            have SS := Lib.hid (inter_succ (x := x) (y := y) (ring := ring) ha hb')
            have D := Lib.hid (fun w => FL.out ((b - a) * (ring - x.r)) (y.r - x.r) (by omega) (by omega) (by omega) (by omega) w)
            obtain ⟨M, hM⟩ : ∃ M, M = (b - a) * (ring - x.r) := ⟨_, rfl⟩
            rw [← hM] at m0 m1 d0 d3 SS D
            obtain ⟨q, hq⟩ : ∃ q, q = M / (y.r - x.r) := ⟨_, rfl⟩
            rw [← hq] at d0 d3 SS D
            have q3 : IntKind.i64.wrap (y.r - x.r) = y.r - x.r := IntWalk.i64_in _ (by omega)
            have q4 : IntKind.i64.wrap (ring - x.r) = ring - x.r := IntWalk.i64_in _ (by omega)
            have q5 : IntKind.i64.wrap (b - a) = b - a := IntWalk.i64_in _ (by omega)
            have q6 : IntKind.i64.wrap ((b - a) * (ring - x.r)) = M := by rw [← hM]; exact IntWalk.i64_in _ (by omega)
            have q7 : IntKind.i64.wrap (a + q) = a + q := IntWalk.i64_in _ (by omega)
            have own : Hid (wr.ownsRow w.heap.size 2 1 (.slice ad k c1) k ((inter x y ring k).map (Value.int .i64))) := by
              have e := ho.out
              unfold OwnI at e
              rw [inter_len] at e
              exact e
            have hsz := hbl.out.size
            have lgz := own.out.lt
            have KS : Hid (∀ w', Below w.heap.size wr w' → (w'.cell? ⟨ba, oa + ia * 2, none⟩ = some (.int .i64 x.r) ∧ w'.cell? ⟨ba, oa + ia * 2 + 1, none⟩ = some (.slice (some ⟨bx, ox, none⟩) xt x.c) ∧ w'.cell? ⟨ba, oa + ib * 2, none⟩ = some (.int .i64 y.r) ∧ w'.cell? ⟨ba, oa + ib * 2 + 1, none⟩ = some (.slice (some ⟨by', oy, none⟩) xt y.c) ∧ w'.cell? ⟨bx, ox + k, none⟩ = some (.int .i64 a) ∧ w'.cell? ⟨by', oy + k, none⟩ = some (.int .i64 b))) := fun w' v => by
              have u := hbl.out.trans v
              exact ⟨(u.cell (p := ⟨ba, oa + ia * 2, none⟩) lba).trans xc0, (u.cell (p := ⟨ba, oa + ia * 2 + 1, none⟩) lba).trans xc1, (u.cell (p := ⟨ba, oa + ib * 2, none⟩) lba).trans yc0, (u.cell (p := ⟨ba, oa + ib * 2 + 1, none⟩) lba).trans yc1, (u.cell (p := ⟨bx, ox + k, none⟩) lx).trans (CX.out k a ha), (u.cell (p := ⟨by', oy + k, none⟩) ly).trans (CY.out k b hb')⟩
            clear hM hq ha hb' ho xc0 xc1 yc0 yc1
            go_wp2
            go_region_held3 (fun w' => (w'.cell? ⟨ba, oa + ia * 2, none⟩ = some (.int .i64 x.r) ∧ w'.cell? ⟨ba, oa + ia * 2 + 1, none⟩ = some (.slice (some ⟨bx, ox, none⟩) xt x.c) ∧ w'.cell? ⟨ba, oa + ib * 2, none⟩ = some (.int .i64 y.r) ∧ w'.cell? ⟨ba, oa + ib * 2 + 1, none⟩ = some (.slice (some ⟨by', oy, none⟩) xt y.c) ∧ w'.cell? ⟨bx, ox + k, none⟩ = some (.int .i64 a) ∧ w'.cell? ⟨by', oy + k, none⟩ = some (.int .i64 b)))
              (first | exact KS.out _ BX.out | exact KS.out _ (Below.refl _ _).drew | exact KS.out _ (((Below.refl _ _).alloc hsz _).drew) | exact KS.out _ (((Below.refl _ _).drew).alloc hsz _))
              (first
                | (go_at_call 96; refine (D.out _).mono ?_; rintro e w4 ⟨rfl, rfl⟩)
                | (refine step_append_lies _ (by rfl) _ _ _ (by rfl) w.heap.size 2 i0 _ 1 8 Try.underlying22 hi hz0 hz1 hz2 rfl (by omega) _ _ _ (by rfl) ((own.out.alloc _).drew) ⟨wr.heap.size, 0, none⟩ 1 1 [.int .i64 (a + q)] (by rfl) (by rfl) (World.news_of_block (cs := #[.int .i64 (a + q)]) (t := 2) (fr := (0, 0)) (heap_alloc_new wr _)) (by simp [Value.oneCell']) (by omega) (by unfold maxLen; omega) (by omega) (by simp; omega) (wr.heap.size + 1) (by simp) ?_; intro gg cap1 w5 hown1 hgrow hat hlt'; have BX : Hid (Below w.heap.size wr w5) := (((Below.refl _ _).alloc hsz _).drew).grown hgrow (by simp; omega) (fun j hj => (lgz j hj).1)))
            rename_i hHeld
            clear hHeld
            have O5 : Hid (OwnI w5 w.heap.size (.slice (some ⟨gg, 0, none⟩) (k + 1) cap1) (inter x y ring (k + 1))) := by
              show OwnI _ _ _ _
              unfold OwnI
              rw [SS.out, List.length_append, inter_len, List.map_append]
              exact hown1
            have B5 : Hid (Below w.heap.size w w5) := hbl.out.trans BX.out
            clear hown1 hgrow hat hlt' own lgz hbl BX KS
            go_wp2
            exact ⟨⟨k + 1, cap1, _, by omega, by go_num, rfl, O5, B5⟩, by simp only [intOf]; omega⟩
          · obtain rfl : k = xt := by omega
            have HO : Hid (OwnI wr w.heap.size (.slice ad k c1) ts) := by show OwnI _ _ _ _; rw [HT.out, ← HXT.out]; exact ho.out
            clear ho
            go_wp2
            go_ret
            exact ⟨_, rfl, HO.out, hbl.out⟩
end Go.Proofs.Ytobfephcmiolbab
