/- PlanText on both sides. -/
import Derived.Test.YtgockhlainnnnabDoorPlanT
import Derived.Test.YtgockhlainnnnabDoorPlanX
namespace Go.Proofs.YtgockhlainnnnabDoor
open Go.ChangeShapes Go.WideShapes Go.ChangeAt Go.RowKit
set_option linter.unusedVariables false
set_option linter.unusedSimpArgs false

theorem small_ok {g : Hd} {x : Su} (h : OkHd g) (hx : OkSu g x) : SmallSu x := by
  have h1 := h.s1.1 x.r hx.1
  have h0 := h.h0
  have hc := h.c0
  have hl := rises_len hx.2.2
  refine ⟨by omega, ?_, fun y hy => ?_⟩
  · rcases hl with hl | hl
    · omega
    · rw [hl]; simp
  · have := hx.2.2.1 y hy
    omega

/-- What PlanText answers. -/
def PlanTextOf (g : Hd) (xs : List Su) (t : ByteArray) (b : Bool) : Prop := (b = true ∧ OkHd g ∧ OkPlan g xs ∧ t = ⟨(joinG [59] (xs.map textSu) xs.length).toArray⟩) ∨ (b = false ∧ ¬ (OkHd g ∧ OkPlan g xs) ∧ t = ⟨#[]⟩)

set_option maxRecDepth 100000 in
set_option maxHeartbeats 4000000 in
theorem specPlanText_any (g : Hd) (n0 n1 n2 : Nat) (v : Value) (xs : List Su) (w : World) (hr : RdHd w n0 n1 n2 g) (l0 : n0 ≤ 1048576) (l1 : n1 ≤ 1048576) (l2 : n2 ≤ 1048576) (hv : RdSt w v xs) (lx : xs.length ≤ 1048576) (lt : ∀ x ∈ xs, x.t.length ≤ 1048576) (t : ByteArray) (b : Bool) (ht : PlanTextOf g xs t b) :
    Calls Tryd.prog 18 #[(.agg #[.slice g.ca n0 g.cc, .slice g.ha n1 g.hc, .slice g.sa n2 g.sc, .int .i64 g.p, .int .i64 g.q]), v] w fun e w' => e = .returned (.tuple #[.string t, .bool b]) ∧ Below w.heap.size w w' := by
  obtain ⟨b1, h1⟩ := ok_boolS (OkHd g)
  obtain ⟨b2, h2⟩ := ok_boolS (OkPlan g xs)
  have C := Lib.hid (fun (w : World) hG hr => l08Is_any w.heap.size 32 g n0 n1 n2 (w.alloc (.cells #[.slice g.ca n0 g.cc, .slice g.ha n1 g.hc, .slice g.sa n2 g.sc, .int .i64 g.p, .int .i64 g.q] 32)) hG hr l0 l1 l2 b1 h1)
  have C2 := Lib.hid (fun G w hG hr hv => l08Plan_any G 32 g n0 n1 n2 v xs w hG hr l0 l2 hv lx lt b2 h2)
  have C3 := Lib.hid (fun w hr hx => l08PlanText_any v xs w hr lx hx)
  have H := Lib.hid hr
  have HV := Lib.hid hv
  have H1 := Lib.hid h1
  have H2 := Lib.hid h2
  have HTX := Lib.hid ht
  clear hr h1 h2 hv ht
  go_enter Tryd.func18, Tryd.ntmps18
  go_wp2_with fail
  refine (C.out _ (heap_alloc_new w _) (H.out.later (by go_grown))).mono ?_
  rintro e w1 ⟨rfl, q, rfl⟩
  have B1 : Hid (Below w.heap.size w ((w.alloc (.cells #[.slice g.ca n0 g.cc, .slice g.ha n1 g.hc, .slice g.sa n2 g.sc, .int .i64 g.p, .int .i64 g.q] 32)).drewN q)) := Below.trans (show Below w.heap.size w (w.alloc _) by go_grown) ⟨rfl, rfl, rfl, Nat.le_refl _, fun _ _ => rfl⟩
  have N1 : Hid (((w.alloc (.cells #[.slice g.ca n0 g.cc, .slice g.ha n1 g.hc, .slice g.sa n2 g.sc, .int .i64 g.p, .int .i64 g.q] 32)).drewN q).heap[w.heap.size]? = some (.cells #[.slice g.ca n0 g.cc, .slice g.ha n1 g.hc, .slice g.sa n2 g.sc, .int .i64 g.p, .int .i64 g.q] 32 (0, 0))) := heap_alloc_new w _
  generalize (w.alloc (.cells #[.slice g.ca n0 g.cc, .slice g.ha n1 g.hc, .slice g.sa n2 g.sc, .int .i64 g.p, .int .i64 g.q] 32)).drewN q = w0 at *
  cases b1
  · obtain ⟨rfl, rfl⟩ : b = false ∧ t = ⟨#[]⟩ := by
      rcases HTX.out with h | h
      · have := H1.out.mpr h.2.1; simp at this
      · exact ⟨h.1, h.2.2⟩
    go_wp2
    go_ret2
    exact ⟨rfl, B1.out⟩
  go_wp2_with fail
  refine (C2.out _ _ N1.out (H.out.later B1.out) (HV.out.later B1.out)).mono ?_
  rintro e w2 ⟨rfl, q2, rfl⟩
  have B2 : Hid (Below w.heap.size w (w0.drewN q2)) := B1.out.trans ⟨rfl, rfl, rfl, Nat.le_refl _, fun _ _ => rfl⟩
  clear B1 N1
  generalize w0.drewN q2 = w3 at *
  cases b2
  · obtain ⟨rfl, rfl⟩ : b = false ∧ t = ⟨#[]⟩ := by
      rcases HTX.out with h | h
      · have := H2.out.mpr h.2.2.1; simp at this
      · exact ⟨h.1, h.2.2⟩
    go_wp2
    go_ret2
    exact ⟨rfl, B2.out⟩
  have k1 := H1.out.mp (by trivial)
  have k2 := H2.out.mp (by trivial)
  obtain ⟨rfl, rfl⟩ : b = true ∧ t = ⟨(joinG [59] (xs.map textSu) xs.length).toArray⟩ := by
    rcases HTX.out with h | h
    · exact ⟨h.1, h.2.2.2⟩
    · exact absurd ⟨k1, k2⟩ h.2.1
  have C4 := Lib.hid (C3.out w3 (HV.out.later B2.out) (fun x hx => small_ok k1 (k2.ok x hx)))
  clear k1 k2 C C2 C3 HTX
  go_wp2_with fail
  refine C4.out.mono ?_
  rintro e w4 ⟨rfl, b4⟩
  have B4 : Hid (Below w.heap.size w w4) := B2.out.trans (b4.mono B2.out.size)
  clear b4 B2 C4
  go_wp2
  go_ret2
  exact ⟨rfl, B4.out⟩

set_option maxRecDepth 100000 in
set_option maxHeartbeats 4000000 in
theorem implPlanText_any (g : Hd) (n0 n1 n2 : Nat) (v : Value) (xs : List Su) (w : World) (hT : TDec w) (hr : RdHd w n0 n1 n2 g) (l0 : n0 ≤ 1048576) (l1 : n1 ≤ 1048576) (l2 : n2 ≤ 1048576) (hv : RdSt w v xs) (lx : xs.length ≤ 1048576) (lt : ∀ x ∈ xs, x.t.length ≤ 1048576) (t : ByteArray) (b : Bool) (ht : PlanTextOf g xs t b) :
    Calls Tryd.prog 20 #[(.agg #[.slice g.ca n0 g.cc, .slice g.ha n1 g.hc, .slice g.sa n2 g.sc, .int .i64 g.p, .int .i64 g.q]), v] w fun e w' => e = .returned (.tuple #[.string t, .bool b]) ∧ Below w.heap.size w w' := by
  obtain ⟨bp, hp⟩ := ok_boolS (OkHd g ∧ OkPlan g xs)
  have C := Lib.hid (fun w hr hv => implPlan_any g n0 n1 n2 v xs w hr l0 l1 l2 hv lx lt bp hp)
  have C3 := Lib.hid (fun w (hr : RdSt w v xs) (hx : ∀ x ∈ xs, SmallSu x) hT => joinSu_any textSu v xs [59] (by simp) w hr lx 140 (by omega) (fun x h => textSu_len (hx x h)) TDec (fun w w' h b => h.later b) hT (fun x h w hT hr => stopText_any x (hx x h) w hT hr))
  have H := Lib.hid hr
  have HV := Lib.hid hv
  have HP := Lib.hid hp
  have HTX := Lib.hid ht
  have HT := Lib.hid hT
  clear hr hp hv ht hT
  go_enter Tryd.func20, Tryd.ntmps20
  go_wp2_with fail
  generalize hx : w.alloc (.cells #[.slice g.ca n0 g.cc, .slice g.ha n1 g.hc, .slice g.sa n2 g.sc, .int .i64 g.p, .int .i64 g.q] 32) = w0
  have B0 : Hid (Below w.heap.size w w0) := by show Below _ _ _; rw [← hx]; go_grown
  clear hx
  refine (C.out _ (H.out.later B0.out) (HV.out.later B0.out)).mono ?_
  rintro e w1 ⟨rfl, b1⟩
  have B1 : Hid (Below w.heap.size w w1) := B0.out.trans (b1.mono B0.out.size)
  clear b1 B0
  cases bp
  · obtain ⟨rfl, rfl⟩ : b = false ∧ t = ⟨#[]⟩ := by
      rcases HTX.out with h | h
      · have := HP.out.mpr ⟨h.2.1, h.2.2.1⟩; simp at this
      · exact ⟨h.1, h.2.2⟩
    go_wp2
    go_ret2
    exact ⟨rfl, B1.out⟩
  have k := HP.out.mp (by trivial)
  obtain ⟨rfl, rfl⟩ : b = true ∧ t = ⟨(joinG [59] (xs.map textSu) xs.length).toArray⟩ := by
    rcases HTX.out with h | h
    · exact ⟨h.1, h.2.2.2⟩
    · exact absurd k h.2.1
  have C4 := Lib.hid (C3.out w1 (HV.out.later B1.out) (fun x hx => small_ok k.1 (k.2.ok x hx)) (HT.out.later B1.out))
  clear k C C3 HTX
  go_wp2_with fail
  refine C4.out.mono ?_
  rintro e w4 ⟨rfl, b4⟩
  have B4 : Hid (Below w.heap.size w w4) := B1.out.trans (b4.mono B1.out.size)
  clear b4 B1 C4
  go_wp2
  go_ret2
  exact ⟨rfl, B4.out⟩

theorem textSu_so {x y : Su} (h : x.so = y.so) : textSu x = textSu y := by
  have h1 : x.r = y.r := congrArg So.r h
  have h2 : x.t = y.t := congrArg So.t h
  unfold textSu
  rw [h1, h2]
theorem texts_so {xs ys : List Su} (h : xs.map Su.so = ys.map Su.so) : xs.map textSu = ys.map textSu := by
  have e : ∀ zs : List Su, zs.map textSu = (zs.map Su.so).map (fun s => textSu ⟨s.r, none, 0, s.t⟩) := by
    intro zs
    rw [List.map_map]
    exact List.map_congr_left fun x _ => textSu_so (by rfl)
  rw [e, e, h]
theorem planTextOf_same {g k : Hd} {xs ys : List Su} {t : ByteArray} {b : Bool} (h : PlanTextOf g xs t b) (e : g.same k) (es : xs.map Su.so = ys.map Su.so) : PlanTextOf k ys t b := by
  rcases h with ⟨h1, h2, h3, h4⟩ | ⟨h1, h2, h3⟩
  · exact .inl ⟨h1, h2.same e, okPlan_same h3 e es, by rw [h4, texts_so es, map_so_len es]⟩
  · exact .inr ⟨h1, fun h' => h2 ⟨h'.1.same (Hd.same_symm e), okPlan_same h'.2 (Hd.same_symm e) es.symm⟩, h3⟩

theorem exPlanText (g0 : Hd) (n0 n1 n2 : Nat) (e : n0 = g0.c.length ∧ n1 = g0.h.length ∧ n2 = g0.s.length) (xs1 : List Su) (lt : (n0 : Int) + (n1 : Int) + (n2 : Int) + ((xs1.length + sumSt xs1 : Nat) : Int) ≤ 1048576) : ∃ (t : ByteArray) (b : Bool),
    Hid (∀ (w : World) (k0 : Hd) (v1 : Value) (zs1 : List Su), TDec w → k0.same g0 → k0.caps n0 n1 n2 → RdHd w n0 n1 n2 k0 → RdSt w v1 zs1 → zs1.map Su.so = xs1.map Su.so → Calls Tryd.prog 18 #[(.agg #[.slice k0.ca n0 k0.cc, .slice k0.ha n1 k0.hc, .slice k0.sa n2 k0.sc, .int .i64 k0.p, .int .i64 k0.q]), v1] w fun e w' => e = .returned (.tuple #[.string t, .bool b]) ∧ Below w.heap.size w w') ∧
    Hid (∀ (w : World) (k0 : Hd) (v1 : Value) (zs1 : List Su), TDec w → k0.same g0 → k0.caps n0 n1 n2 → RdHd w n0 n1 n2 k0 → RdSt w v1 zs1 → zs1.map Su.so = xs1.map Su.so → Calls Tryd.prog 20 #[(.agg #[.slice k0.ca n0 k0.cc, .slice k0.ha n1 k0.hc, .slice k0.sa n2 k0.sc, .int .i64 k0.p, .int .i64 k0.q]), v1] w fun e w' => e = .returned (.tuple #[.string t, .bool b]) ∧ Below w.heap.size w w') := by
  obtain ⟨t, b, h⟩ : ∃ t b, PlanTextOf g0 xs1 t b := by
    by_cases h : OkHd g0 ∧ OkPlan g0 xs1
    · exact ⟨_, true, .inl ⟨rfl, h.1, h.2, rfl⟩⟩
    · exact ⟨_, false, .inr ⟨rfl, h, rfl⟩⟩
  have sm : ∀ (zs : List Su), zs.map Su.so = xs1.map Su.so → zs.length ≤ 1048576 ∧ ∀ x ∈ zs, x.t.length ≤ 1048576 := fun zs hs => stops_small (n := n0 + n1 + n2) (by rw [map_so_len hs, sumSt_so hs]; omega)
  exact ⟨t, b, fun w k v zs _ hs _ hr hv he => specPlanText_any k n0 n1 n2 v zs w hr (by omega) (by omega) (by omega) hv (sm zs he).1 (sm zs he).2 t b (planTextOf_same h (Hd.same_symm hs) he.symm), fun w k v zs hT hs _ hr hv he => implPlanText_any k n0 n1 n2 v zs w hT hr (by omega) (by omega) (by omega) hv (sm zs he).1 (sm zs he).2 t b (planTextOf_same h (Hd.same_symm hs) he.symm)⟩
end Go.Proofs.YtgockhlainnnnabDoor
