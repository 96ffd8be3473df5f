/- The class at a ring and a height: the exact law's two contracts. -/
import Derived.Test.YtobfephcmiolbabTopX
namespace Go.Proofs.Ytobfephcmiolbab
open Go.ChangeShapes Go.WideShapes Go.ChangeAt Go.RowKit
set_option linter.unusedVariables false
set_option linter.unusedSimpArgs false

set_option maxRecDepth 100000 in
set_option maxHeartbeats 4000000 in
theorem specClass_any (g : Gu) (ring ht : Int) (w : World) (h : RdG w g) (lt : g.tot ≤ 1048576) (b1 b2 b3 : Bool) (B F : Nat) (ts : List Int) (h1 : b1 = true ↔ OkG g) (h2 : b2 = true ↔ 0 ≤ ring ∧ ring ≤ 60) (h3 : b3 = true ↔ (-100000) ≤ ht ∧ ht ≤ 100000) (hp : b1 = true → (Behind g.xs ring B ∧ IsTops g.xs ring B ts) ∧ Over ts ht F ∧ ts.length = g.d.length) :
    Calls Try.prog 22 #[.agg #[.slice g.da g.d.length g.dc, .slice g.ha g.xs.length g.hc], .int .i64 ring, .int .i64 ht] w fun e w' => e = .returned (.tuple #[.int .i64 (if b1 && (b2 && b3) then (F : Int) - 1 else 0), .bool (b1 && (b2 && b3))]) ∧ Below w.heap.size w w' := by
  have M1 := cell_of_row (w.alloc (.cells #[.slice g.da g.d.length g.dc, .slice g.ha g.xs.length g.hc] 30)) w.heap.size 1 _ 30 (0, 0) (heap_alloc_new w _)
  have BB : Below w.heap.size w (w.alloc (.cells #[.slice g.da g.d.length g.dc, .slice g.ha g.xs.length g.hc] 30)) := by go_grown
  have C := Lib.hid (l06Is_any w.heap.size 30 g (w.alloc (.cells #[.slice g.da g.d.length g.dc, .slice g.ha g.xs.length g.hc] 30)) (heap_alloc_new w _) (h.later BB) lt b1 h1)
  have R := Lib.hid (fun w => l06Ring_any ring w b2 h2)
  have R3 := Lib.hid (fun w => l06Height_any ht w b3 h3)
  have T : Hid (b1 = true → b2 = true → ∀ q, Calls Try.prog 62 #[.pointer (some ⟨w.heap.size, 0, none⟩), .int .i64 ring] ((w.alloc (.cells #[.slice g.da g.d.length g.dc, .slice g.ha g.xs.length g.hc] 30)).drewN q) fun e w' => ∃ v, e = .returned v ∧ RdI w' v ts ∧ Below w.heap.size w w') := by
    show _ → _
    intro e1 e2 q
    obtain ⟨r0, r1⟩ := h2.1 e2
    refine (l06At_any g ring r0 r1 ((w.alloc (.cells #[.slice g.da g.d.length g.dc, .slice g.ha g.xs.length g.hc] 30)).drewN q) w.heap.size M1 ⟨(h.later BB).holes.rows.drewN q, fun x hx => ((h.later BB).holes.tops x hx).drewN q⟩ (h1.1 e1) B (hp e1).1.1 ts (hp e1).1.2).mono ?_
    rintro e w' ⟨v, rfl, o, b⟩
    exact ⟨v, rfl, o.rd, BB.trans ((below_drewN (Below.refl _ _) q).trans (b.mono BB.size))⟩
  have K : Hid (b1 = true → ∀ v w, RdI w v ts → Calls Try.prog 67 #[v, .int .i64 ht] w fun e w' => e = .returned (.int .i64 ((F : Int) - 1)) ∧ w = w') := by
    show _ → _
    intro e1 v w hr
    have ok := h1.1 e1
    have o1 := ok.d0
    have o2 := ok.d4
    obtain ⟨-, hF, hl⟩ := hp e1
    obtain ⟨a, c, hv, -⟩ := id hr
    subst hv
    exact l06Class_any a ts.length c ts ht w rfl (by omega) (by omega) hr F hF
  generalize g.d.length = n at *
  generalize g.xs.length = m at *
  clear h lt h1 h2 h3 hp M1 BB
  go_enter Try.func22, Try.ntmps22
  go_wp2_with fail
  refine C.out.mono ?_
  rintro e w1 ⟨rfl, q, rfl⟩
  cases b1 with
  | false =>
    go_wp2
    go_ret2
    exact ⟨rfl, Below.trans (show Below w.heap.size w (w.alloc _) by go_grown) (below_drewN (Below.refl _ _) _)⟩
  | true =>
    go_wp2_with fail
    refine (R.out _).mono ?_
    rintro e w2 ⟨rfl, rfl⟩
    cases b2 with
    | false =>
      go_wp2
      go_ret2
      exact ⟨rfl, Below.trans (show Below w.heap.size w (w.alloc _) by go_grown) (below_drewN (Below.refl _ _) _)⟩
    | true =>
      go_wp2_with fail
      refine (R3.out _).mono ?_
      rintro e w2 ⟨rfl, rfl⟩
      cases b3 with
      | false =>
        go_wp2
        go_ret2
        exact ⟨rfl, Below.trans (show Below w.heap.size w (w.alloc _) by go_grown) (below_drewN (Below.refl _ _) _)⟩
      | true =>
        have TT := Lib.hid (T.out trivial trivial q)
        have KK := Lib.hid (K.out trivial)
        clear T K
        go_wp2_with fail
        refine TT.out.mono ?_
        rintro e w3 ⟨v, rfl, o3, b3⟩
        have O3 := Lib.hid o3
        have B3 := Lib.hid b3
        clear o3 b3
        go_wp2_with fail
        refine (KK.out _ _ O3.out).mono ?_
        rintro e w4 ⟨rfl, rfl⟩
        go_wp2
        go_ret2
        exact ⟨rfl, B3.out⟩

set_option maxHeartbeats 2000000 in
theorem hasPlace_any (g : Gu) (ring ht : Int) (w : World) (h : RdG w g) (lt : g.tot ≤ 1048576) (b1 b2 b3 : Bool) (h1 : b1 = true ↔ OkG g) (h2 : b2 = true ↔ 0 ≤ ring ∧ ring ≤ 60) (h3 : b3 = true ↔ (-100000) ≤ ht ∧ ht ≤ 100000) :
    Calls Try.prog 68 #[.agg #[.slice g.da g.d.length g.dc, .slice g.ha g.xs.length g.hc], .int .i64 ring, .int .i64 ht] w fun e w' => e = .returned (.bool (b1 && (b2 && b3))) ∧ Below w.heap.size w w' := by
  have C := Lib.hid (fun w h => implValid_any g w h lt b1 h1)
  have R := Lib.hid (fun w => isRingNumber_is8 ring w b2 h2)
  have R3 := Lib.hid (fun w => isOffset_is8 ht w b3 h3)
  have H := Lib.hid h
  generalize g.d.length = n at *
  generalize g.xs.length = m at *
  clear h lt h1 h2 h3
  have BL : Hid (Below w.heap.size w (w.alloc (.cells #[.slice g.da n g.dc, .slice g.ha m g.hc] 30))) := by show Below _ _ _; go_grown
  have ZL := Lib.hid BL.out.size
  go_enter Try.func68, Try.ntmps68
  go_wp2_with fail
  refine (C.out _ (H.out.later BL.out)).mono ?_
  rintro e w1 ⟨rfl, v1⟩
  have B1 : Hid (Below w.heap.size w w1) := BL.out.trans (v1.mono ZL.out)
  clear v1
  cases b1 with
  | false =>
    go_wp2
    go_ret
    exact ⟨rfl, B1.out⟩
  | true =>
    go_wp2_with fail
    refine (R.out _).mono ?_
    rintro e w2 ⟨rfl, rfl⟩
    cases b2 with
    | false =>
      go_wp2
      go_ret
      exact ⟨rfl, B1.out⟩
    | true =>
      go_wp2_with fail
      refine (R3.out _).mono ?_
      rintro e w2 ⟨rfl, rfl⟩
      go_wp2
      go_ret
      exact ⟨by cases b3 <;> rfl, B1.out⟩

set_option maxHeartbeats 2000000 in
theorem classAt_any (g : Gu) (ring ht : Int) (r0 : 0 ≤ ring) (r1 : ring ≤ 60) (w : World) (h : RdG w g) (ok : OkG g) (lt : g.tot ≤ 1048576) (B F : Nat) (ts : List Int) (hB : Behind g.xs ring B) (hts : IsTops g.xs ring B ts) (hF : Over ts ht F) (hl : ts.length = g.d.length) :
    Calls Try.prog 69 #[.agg #[.slice g.da g.d.length g.dc, .slice g.ha g.xs.length g.hc], .int .i64 ring, .int .i64 ht] w fun e w' => e = .returned (.int .i64 ((F : Int) - 1)) ∧ Below w.heap.size w w' := by
  have T := Lib.hid (fun w h => topsAt_any g ring r0 r1 w h ok lt B hB ts hts)
  have K : Hid (∀ v w, RdI w v ts → Calls Try.prog 99 #[v, .int .i64 ht] w fun e w' => e = .returned (.int .i64 ((F : Int) - 1)) ∧ Below w.heap.size w w') := by
    show ∀ _, _
    intro v w hr
    have o1 := ok.d0
    have o2 := ok.d4
    obtain ⟨a, c, hv, -⟩ := id hr
    subst hv
    exact classOf_any a ts.length c ts ht w rfl (by omega) (by omega) hr F hF
  have H := Lib.hid h
  generalize g.d.length = n at *
  generalize g.xs.length = m at *
  clear h lt hB hts hF hl ok
  have BL : Hid (Below w.heap.size w (w.alloc (.cells #[.slice g.da n g.dc, .slice g.ha m g.hc] 30))) := by show Below _ _ _; go_grown
  have ZL := Lib.hid BL.out.size
  go_enter Try.func69, Try.ntmps69
  go_wp2_with fail
  refine (T.out _ (H.out.later BL.out)).mono ?_
  rintro e w1 ⟨v, rfl, o1, v1⟩
  have B1 : Hid (Below w.heap.size w w1) := BL.out.trans (v1.mono ZL.out)
  have R1 := Lib.hid o1.rd
  clear v1 o1
  go_wp2_with fail
  refine (K.out _ _ R1.out).mono ?_
  rintro e w2 ⟨rfl, b2⟩
  have B2 : Hid (Below w.heap.size w w2) := B1.out.trans (b2.mono B1.out.size)
  clear b2
  go_wp2
  go_ret
  exact ⟨rfl, B2.out⟩

set_option maxHeartbeats 2000000 in
theorem implClass_any (g : Gu) (ring ht : Int) (w : World) (h : RdG w g) (lt : g.tot ≤ 1048576) (b1 b2 b3 : Bool) (B F : Nat) (ts : List Int) (h1 : b1 = true ↔ OkG g) (h2 : b2 = true ↔ 0 ≤ ring ∧ ring ≤ 60) (h3 : b3 = true ↔ (-100000) ≤ ht ∧ ht ≤ 100000) (hp : b1 = true → (Behind g.xs ring B ∧ IsTops g.xs ring B ts) ∧ Over ts ht F ∧ ts.length = g.d.length) :
    Calls Try.prog 23 #[.agg #[.slice g.da g.d.length g.dc, .slice g.ha g.xs.length g.hc], .int .i64 ring, .int .i64 ht] w fun e w' => e = .returned (.tuple #[.int .i64 (if b1 && (b2 && b3) then (F : Int) - 1 else 0), .bool (b1 && (b2 && b3))]) ∧ Below w.heap.size w w' := by
  have C := Lib.hid (fun w h => hasPlace_any g ring ht w h lt b1 b2 b3 h1 h2 h3)
  have T : Hid ((b1 && (b2 && b3)) = true → ∀ w, RdG w g → Calls Try.prog 69 #[.agg #[.slice g.da g.d.length g.dc, .slice g.ha g.xs.length g.hc], .int .i64 ring, .int .i64 ht] w fun e w' => e = .returned (.int .i64 ((F : Int) - 1)) ∧ Below w.heap.size w w') := by
    show _ → _
    intro e w h
    simp only [Bool.and_eq_true] at e
    obtain ⟨r0, r1⟩ := h2.1 e.2.1
    obtain ⟨⟨p1, p2⟩, p3, p4⟩ := hp e.1
    exact classAt_any g ring ht r0 r1 w h (h1.1 e.1) lt B F ts p1 p2 p3 p4
  have H := Lib.hid h
  generalize g.d.length = n at *
  generalize g.xs.length = m at *
  obtain ⟨b, hb⟩ : ∃ b, b = (b1 && (b2 && b3)) := ⟨_, rfl⟩
  rw [← hb] at C T ⊢
  clear h lt h1 h2 h3 hp hb
  have BL : Hid (Below w.heap.size w (w.alloc (.cells #[.slice g.da n g.dc, .slice g.ha m g.hc] 30))) := by show Below _ _ _; go_grown
  have ZL := Lib.hid BL.out.size
  have LZ : Hid (w.heap.size < (w.alloc (.cells #[.slice g.da n g.dc, .slice g.ha m g.hc] 30)).heap.size) := by show _ < _; simp only [World.size_alloc]; omega
  go_enter Try.func23, Try.ntmps23
  go_wp2_with fail
  refine (C.out _ (H.out.later BL.out)).mono ?_
  rintro e w1 ⟨rfl, v1⟩
  have B1 : Hid (Below w.heap.size w w1) := BL.out.trans (v1.mono ZL.out)
  have n1 := Lib.hid ((v1.block w.heap.size LZ.out).trans (heap_alloc_new w _))
  clear v1
  cases b with
  | false =>
    go_wp2
    go_ret2
    exact ⟨rfl, B1.out⟩
  | true =>
    have TT := Lib.hid (T.out rfl)
    obtain ⟨a0, a1⟩ := boxG_at n1.out
    clear T
    go_wp2_with fail
    refine (TT.out _ (H.out.later B1.out)).mono ?_
    rintro e w2 ⟨rfl, b2⟩
    have B2 : Hid (Below w.heap.size w w2) := B1.out.trans (b2.mono B1.out.size)
    clear b2 a0 a1
    go_wp2
    go_ret2
    exact ⟨rfl, B2.out⟩

theorem exClassAt (g : Gu) (a1 a2 : Int) (lt : g.tot ≤ 1048576) : ∃ (r0 : Int) (r1 : Bool),
    Hid (∀ (w : World) (k : Gu), True → k.same g → RdG w k → Calls Try.prog 22 #[.agg #[.slice k.da g.d.length k.dc, .slice k.ha g.xs.length k.hc], .int .i64 a1, .int .i64 a2] w fun e w' => e = .returned (.tuple #[.int .i64 r0, .bool r1]) ∧ Below w.heap.size w w') ∧
    Hid (∀ (w : World) (k : Gu), True → k.same g → RdG w k → Calls Try.prog 23 #[.agg #[.slice k.da g.d.length k.dc, .slice k.ha g.xs.length k.hc], .int .i64 a1, .int .i64 a2] w fun e w' => e = .returned (.tuple #[.int .i64 r0, .bool r1]) ∧ Below w.heap.size w w') := by
  obtain ⟨b1, B, ts, h1, hp⟩ := place_ex g a1
  obtain ⟨b2, h2⟩ := ok_boolG (0 ≤ a1 ∧ a1 ≤ 60)
  obtain ⟨b3, h3⟩ := ok_boolG ((-100000) ≤ a2 ∧ a2 ≤ 100000)
  obtain ⟨F, hF⟩ : ∃ F, b1 = true → Over ts a2 F := by
    cases b1 with
    | false => exact ⟨0, fun e => by cases e⟩
    | true => obtain ⟨F, hF⟩ := over_ex (hp rfl).2.2.1 a2; exact ⟨F, fun _ => hF⟩
  refine ⟨if b1 && (b2 && b3) then (F : Int) - 1 else 0, b1 && (b2 && b3), fun w k _ hs hr => ?_, fun w k _ hs hr => ?_⟩
  · obtain ⟨k1, k2⟩ := place_same hs h1 hp
    have := specClass_any k a1 a2 w hr (by rw [Gu.same_tot hs]; exact lt) b1 b2 b3 B F ts k1 h2 h3 (fun e => ⟨⟨(k2 e).1, (k2 e).2.1⟩, hF e, (k2 e).2.2.2⟩)
    rwa [(Gu.lens hs).1, (Gu.lens hs).2] at this
  · obtain ⟨k1, k2⟩ := place_same hs h1 hp
    have := implClass_any k a1 a2 w hr (by rw [Gu.same_tot hs]; exact lt) b1 b2 b3 B F ts k1 h2 h3 (fun e => ⟨⟨(k2 e).1, (k2 e).2.1⟩, hF e, (k2 e).2.2.2⟩)
    rwa [(Gu.lens hs).1, (Gu.lens hs).2] at this
end Go.Proofs.Ytobfephcmiolbab
