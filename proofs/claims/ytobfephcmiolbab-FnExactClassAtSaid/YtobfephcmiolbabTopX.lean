/- The tops at a ring: the exact law's two contracts. -/
import Derived.Test.YtobfephcmiolbabTopA
import Derived.Test.YtobfephcmiolbabTopS
import Derived.Test.YtobfephcmiolbabClsL
import Derived.Test.YtobfephcmiolbabOpenG
namespace Go.Proofs.Ytobfephcmiolbab
open Go.ChangeShapes Go.WideShapes Go.ChangeAt Go.RowKit
set_option linter.unusedVariables false
set_option linter.unusedSimpArgs false

theorem ownI_nil' (w : World) (B : Nat) : OwnI w B (.slice none 0 0) [] := World.ownsRow_nil w B _ _

set_option maxRecDepth 100000 in
set_option maxHeartbeats 4000000 in
theorem specTops_any (g : Gu) (ring : Int) (w : World) (h : RdG w g) (lt : g.tot ≤ 1048576) (b1 b2 : Bool) (B : Nat) (ts : List Int) (h1 : b1 = true ↔ OkG g) (h2 : b2 = true ↔ 0 ≤ ring ∧ ring ≤ 60) (hp : b1 = true → Behind g.xs ring B ∧ IsTops g.xs ring B ts) :
    Calls Try.prog 16 #[.agg #[.slice g.da g.d.length g.dc, .slice g.ha g.xs.length g.hc], .int .i64 ring] w fun e w' => ∃ u, e = .returned (.tuple #[u, .bool (b1 && b2)]) ∧ OwnI w' w.heap.size u (if b1 && b2 then ts else []) ∧ Below w.heap.size w w' := by
  have M1 := cell_of_row (w.alloc (.cells #[.slice g.da g.d.length g.dc, .slice g.ha g.xs.length g.hc] 30)) w.heap.size 1 _ 30 (0, 0) (heap_alloc_new w _)
  have BB : Below w.heap.size w (w.alloc (.cells #[.slice g.da g.d.length g.dc, .slice g.ha g.xs.length g.hc] 30)) := by go_grown
  have C := Lib.hid (l06Is_any w.heap.size 30 g (w.alloc (.cells #[.slice g.da g.d.length g.dc, .slice g.ha g.xs.length g.hc] 30)) (heap_alloc_new w _) (h.later BB) lt b1 h1)
  have R := Lib.hid (fun w => l06Ring_any ring w b2 h2)
  have T : Hid (b1 = true → b2 = true → ∀ q, Calls Try.prog 62 #[.pointer (some ⟨w.heap.size, 0, none⟩), .int .i64 ring] ((w.alloc (.cells #[.slice g.da g.d.length g.dc, .slice g.ha g.xs.length g.hc] 30)).drewN q) fun e w' => ∃ v, e = .returned v ∧ OwnI w' w.heap.size v ts ∧ Below w.heap.size w w') := by
    show _ → _
    intro e1 e2 q
    obtain ⟨r0, r1⟩ := h2.1 e2
    refine (l06At_any g ring r0 r1 ((w.alloc (.cells #[.slice g.da g.d.length g.dc, .slice g.ha g.xs.length g.hc] 30)).drewN q) w.heap.size M1 ⟨(h.later BB).holes.rows.drewN q, fun x hx => ((h.later BB).holes.tops x hx).drewN q⟩ (h1.1 e1) B (hp e1).1 ts (hp e1).2).mono ?_
    rintro e w' ⟨v, rfl, o, b⟩
    exact ⟨v, rfl, o.mono BB.size, BB.trans ((below_drewN (Below.refl _ _) q).trans (b.mono BB.size))⟩
  generalize g.d.length = n at *
  generalize g.xs.length = m at *
  clear h lt h1 h2 hp M1 BB
  go_enter Try.func16, Try.ntmps16
  go_wp2_with fail
  refine C.out.mono ?_
  rintro e w1 ⟨rfl, q, rfl⟩
  cases b1 with
  | false =>
    go_wp2
    go_ret2
    exact ⟨_, rfl, ownI_nil' _ _, Below.trans (show Below w.heap.size w (w.alloc _) by go_grown) (below_drewN (Below.refl _ _) _)⟩
  | true =>
    go_wp2_with fail
    refine (R.out _).mono ?_
    rintro e w2 ⟨rfl, rfl⟩
    cases b2 with
    | false =>
      go_wp2
      go_ret2
      exact ⟨_, rfl, ownI_nil' _ _, Below.trans (show Below w.heap.size w (w.alloc _) by go_grown) (below_drewN (Below.refl _ _) _)⟩
    | true =>
      have TT := Lib.hid (T.out trivial rfl q)
      clear T
      go_wp2_with fail
      refine TT.out.mono ?_
      rintro e w3 ⟨v, rfl, o3, b3⟩
      have O3 := Lib.hid o3
      have B3 := Lib.hid b3
      clear o3 b3
      go_wp2
      go_ret2
      exact ⟨_, rfl, O3.out, B3.out⟩

set_option maxRecDepth 100000 in
set_option maxHeartbeats 4000000 in
theorem implTops_any (g : Gu) (ring : Int) (w : World) (h : RdG w g) (lt : g.tot ≤ 1048576) (b1 b2 : Bool) (B : Nat) (ts : List Int) (h1 : b1 = true ↔ OkG g) (h2 : b2 = true ↔ 0 ≤ ring ∧ ring ≤ 60) (hp : b1 = true → Behind g.xs ring B ∧ IsTops g.xs ring B ts) :
    Calls Try.prog 17 #[.agg #[.slice g.da g.d.length g.dc, .slice g.ha g.xs.length g.hc], .int .i64 ring] w fun e w' => ∃ u, e = .returned (.tuple #[u, .bool (b1 && b2)]) ∧ OwnI w' w.heap.size u (if b1 && b2 then ts else []) ∧ Below w.heap.size w w' := by
  have C := Lib.hid (fun w h => implValid_any g w h lt b1 h1)
  have R := Lib.hid (fun w => isRingNumber_is8 ring w b2 h2)
  have T : Hid (b1 = true → b2 = true → ∀ w1, Below w.heap.size w w1 → Calls Try.prog 64 #[.agg #[.slice g.da g.d.length g.dc, .slice g.ha g.xs.length g.hc], .int .i64 ring] w1 fun e w' => ∃ v, e = .returned v ∧ OwnI w' w.heap.size v ts ∧ Below w.heap.size w w') := by
    show _ → _
    intro e1 e2 w1 b1
    obtain ⟨r0, r1⟩ := h2.1 e2
    refine (topsAt_any g ring r0 r1 w1 (h.later b1) (h1.1 e1) lt B (hp e1).1 ts (hp e1).2).mono ?_
    rintro e w' ⟨v, rfl, o, b⟩
    exact ⟨v, rfl, o.mono b1.size, b1.trans (b.mono b1.size)⟩
  have H := Lib.hid h
  generalize g.d.length = n at *
  generalize g.xs.length = m at *
  clear h lt h1 h2 hp
  have BL : Hid (Below w.heap.size w (w.alloc (.cells #[.slice g.da n g.dc, .slice g.ha m g.hc] 30))) := by show Below _ _ _; go_grown
  have zl := BL.out.size
  have lz : w.heap.size < (w.alloc (.cells #[.slice g.da n g.dc, .slice g.ha m g.hc] 30)).heap.size := by simp only [World.size_alloc]; omega
  have LZ := Lib.hid lz
  have ZL := Lib.hid zl
  clear lz zl
  go_enter Try.func17, Try.ntmps17
  go_wp2_with fail
  refine (C.out _ (H.out.later BL.out)).mono ?_
  rintro e w1 ⟨rfl, v1⟩
  have B1 : Hid (Below w.heap.size w w1) := BL.out.trans (v1.mono ZL.out)
  have n1 := Lib.hid ((v1.block w.heap.size LZ.out).trans (heap_alloc_new w _))
  clear v1
  cases b1 with
  | false =>
    go_wp2
    go_ret2
    exact ⟨_, rfl, ownI_nil' _ _, B1.out⟩
  | true =>
    go_wp2_with fail
    refine (R.out _).mono ?_
    rintro e w2 ⟨rfl, rfl⟩
    cases b2 with
    | false =>
      go_wp2
      go_ret2
      exact ⟨_, rfl, ownI_nil' _ _, B1.out⟩
    | true =>
      have TT := Lib.hid (T.out trivial rfl _ B1.out)
      obtain ⟨a0, a1⟩ := boxG_at n1.out
      clear T
      go_wp2_with fail
      refine TT.out.mono ?_
      rintro e w3 ⟨v, rfl, o3, b3⟩
      have O3 := Lib.hid o3
      have B3 := Lib.hid b3
      clear o3 b3 a0 a1
      go_wp2
      go_ret2
      exact ⟨_, rfl, O3.out, B3.out⟩

theorem exTopsAt (g : Gu) (a1 : Int) (lt : g.tot ≤ 1048576) : ∃ (ys : List Int) (r1 : Bool) (_ : ys.length ≤ 1048576),
    Hid (∀ (w : World) (k : Gu), True → k.same g → RdG w k → Calls Try.prog 16 #[.agg #[.slice k.da g.d.length k.dc, .slice k.ha g.xs.length k.hc], .int .i64 a1] w fun e w' => ∃ u, e = .returned (.tuple #[u, .bool r1]) ∧ OwnI w' w.heap.size u ys ∧ Below w.heap.size w w') ∧
    Hid (∀ (w : World) (k : Gu), True → k.same g → RdG w k → Calls Try.prog 17 #[.agg #[.slice k.da g.d.length k.dc, .slice k.ha g.xs.length k.hc], .int .i64 a1] w fun e w' => ∃ u, e = .returned (.tuple #[u, .bool r1]) ∧ OwnI w' w.heap.size u ys ∧ Below w.heap.size w w') := by
  obtain ⟨b1, B, ts, h1, hp⟩ := place_ex g a1
  obtain ⟨b2, h2⟩ := ok_boolG (0 ≤ a1 ∧ a1 ≤ 60)
  refine ⟨if b1 && b2 then ts else [], b1 && b2, ?_, fun w k _ hs hr => ?_, fun w k _ hs hr => ?_⟩
  · split
    · rename_i e
      simp at e
      have := (hp e.1).2.2.2
      unfold Gu.tot at lt; omega
    · simp
  · obtain ⟨k1, k2⟩ := place_same hs h1 hp
    have := specTops_any k a1 w hr (by rw [Gu.same_tot hs]; exact lt) b1 b2 B ts k1 h2 (fun e => ⟨(k2 e).1, (k2 e).2.1⟩)
    rwa [(Gu.lens hs).1, (Gu.lens hs).2] at this
  · obtain ⟨k1, k2⟩ := place_same hs h1 hp
    have := implTops_any k a1 w hr (by rw [Gu.same_tot hs]; exact lt) b1 b2 B ts k1 h2 (fun e => ⟨(k2 e).1, (k2 e).2.1⟩)
    rwa [(Gu.lens hs).1, (Gu.lens hs).2] at this
end Go.Proofs.Ytobfephcmiolbab
