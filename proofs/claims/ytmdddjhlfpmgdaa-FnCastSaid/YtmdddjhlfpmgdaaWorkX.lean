/- ShortDays and StockOn on both sides. (Written by tools/mkworkx.py.) -/
import Derived.Test.YtmdddjhlfpmgdaaWorkS
import Derived.Test.YtmdddjhlfpmgdaaHas
namespace Go.Proofs.Ytmdddjhlfpmgdaa
open Go.ChangeShapes Go.WideShapes Go.ChangeAt Go.RowKit
set_option linter.unusedVariables false
set_option linter.unusedSimpArgs false

/-- What ShortDays answers. -/
def ShortRes (g : Wk) (xs : List Od) (L : List Int) (b : Bool) : Prop := ((OkWk g ∧ OkOs xs) ∧ L = shortT g.m g.c g.u xs 0 xs.length ∧ b = true) ∨ (¬ (OkWk g ∧ OkOs xs) ∧ L = [] ∧ b = false)

set_option maxRecDepth 100000 in
set_option maxHeartbeats 4000000 in
theorem specShort_any (g : Wk) (v : Value) (xs : List Od) (w : World) (h : RdS 2 encOd w v xs) (lz : xs.length ≤ 1048576) (L : List Int) (b : Bool) (hr : ShortRes g xs L b) :
    Calls Try.prog 21 #[(.agg #[.int .i64 g.m, .int .i64 g.c, .int .i64 g.u]), v] w fun e w' => ∃ u, e = .returned (.tuple #[u, .bool b]) ∧ OwnI w' w.heap.size u L ∧ Below w.heap.size w w' := by
  obtain ⟨b1, h1⟩ := bool_of (OkWk g)
  obtain ⟨b2, h2⟩ := bool_of (OkOs xs)
  have C1 := Lib.hid (fun w => l09Works_blw g b1 h1 w)
  have C2 := Lib.hid (fun w h => l09Orders_any v xs w h lz b2 h2)
  have H1 := Lib.hid h1
  have H2 := Lib.hid h2
  have HR := Lib.hid hr
  have H := Lib.hid h
  obtain ⟨a, cap, rfl, _⟩ := h
  obtain ⟨n, hn⟩ : ∃ n, n = xs.length := ⟨_, rfl⟩
  rw [← hn] at H C2 lz
  rw [← hn]
  have HN := Lib.hid hn
  clear h1 h2 hr hn
  go_enter Try.func21, Try.ntmps21
  go_wp2_with fail
  refine (C1.out _).mono ?_
  rintro e w1 ⟨rfl, c1⟩
  obtain ⟨B1, N1, z1⟩ := boxWk_step (by simpa using c1)
  have B1' := Lib.hid B1
  have N1' := Lib.hid N1
  obtain ⟨⟨a0, a1, a2⟩, -⟩ := boxWk_at N1
  clear c1 C1 B1 N1
  cases b1 with
  | false =>
    have no : ¬ OkWk g := fun k => by have := H1.out.mpr k; simp at this
    obtain ⟨rfl, rfl⟩ : L = [] ∧ b = false := by
      rcases HR.out with k | k
      · exact absurd k.1.1 no
      · exact k.2
    go_wp2
    go_ret2
    exact ⟨_, rfl, World.ownsRow_nil _ _ _ _, B1'.out⟩
  | true =>
  have ok := H1.out.mp (by trivial)
  go_wp2_with fail
  refine (C2.out _ (H.out.later B1'.out)).mono ?_
  rintro e w2 ⟨rfl, c2⟩
  obtain ⟨B2, N2, z2⟩ := boxWk_next B1'.out N1'.out z1 c2
  have B2' := Lib.hid B2
  have N2' := Lib.hid N2
  clear c2 C2 B1' N1' B2 a0 a1 a2
  obtain ⟨⟨a0, a1, a2⟩, -⟩ := boxWk_at N2
  clear N2
  cases b2 with
  | false =>
    have no : ¬ OkOs xs := fun k => by have := H2.out.mpr k; simp at this
    obtain ⟨rfl, rfl⟩ : L = [] ∧ b = false := by
      rcases HR.out with k | k
      · exact absurd k.1.2 no
      · exact k.2
    go_wp2
    go_ret2
    exact ⟨_, rfl, World.ownsRow_nil _ _ _ _, B2'.out⟩
  | true =>
  have oks := H2.out.mp (by trivial)
  obtain ⟨hL, rfl⟩ : L = shortT g.m g.c g.u xs 0 xs.length ∧ b = true := by
    rcases HR.out with k | k
    · exact k.2
    · exact absurd ⟨ok, oks⟩ k.1
  have C3 := Lib.hid (fun w (h : RdS 2 encOd w (.slice a n cap) xs) => l09Short_any g ok _ xs w h oks 0 (by omega) L hL.symm)
  clear hL ok oks HR H1 H2
  go_wp2_with fail
  refine (C3.out _ (H.out.later B2'.out)).mono ?_
  rintro e w3 ⟨u, rfl, o3, c3⟩
  have O3 := Lib.hid (o3.mono (show w.heap.size ≤ w2.heap.size by omega))
  have B3 : Hid (Below w.heap.size w w3) := B2'.out.trans (c3.mono (by omega))
  clear c3 o3 a0 a1 a2
  go_wp2
  go_ret2
  exact ⟨_, rfl, O3.out, B3.out⟩

set_option maxRecDepth 100000 in
set_option maxHeartbeats 4000000 in
theorem implShort_any (g : Wk) (v : Value) (xs : List Od) (w : World) (h : RdS 2 encOd w v xs) (lz : xs.length ≤ 1048576) (L : List Int) (b : Bool) (hr : ShortRes g xs L b) :
    Calls Try.prog 22 #[(.agg #[.int .i64 g.m, .int .i64 g.c, .int .i64 g.u]), v] w fun e w' => ∃ u, e = .returned (.tuple #[u, .bool b]) ∧ OwnI w' w.heap.size u L ∧ Below w.heap.size w w' := by
  obtain ⟨b1, h1⟩ := bool_of (OkWk g)
  obtain ⟨b2, h2⟩ := bool_of (OkOs xs)
  have C1 := Lib.hid (fun w => implWorks_blw g b1 h1 w)
  have C2 := Lib.hid (fun w h => implOrders_any v xs w h lz b2 h2)
  have H1 := Lib.hid h1
  have H2 := Lib.hid h2
  have HR := Lib.hid hr
  have H := Lib.hid h
  obtain ⟨a, cap, rfl, _⟩ := h
  obtain ⟨n, hn⟩ : ∃ n, n = xs.length := ⟨_, rfl⟩
  rw [← hn] at H C2 lz
  rw [← hn]
  have HN := Lib.hid hn
  clear h1 h2 hr hn
  go_enter Try.func22, Try.ntmps22
  go_wp2_with fail
  refine (C1.out _).mono ?_
  rintro e w1 ⟨rfl, c1⟩
  obtain ⟨B1, N1, z1⟩ := boxWk_step (by simpa using c1)
  have B1' := Lib.hid B1
  have N1' := Lib.hid N1
  obtain ⟨⟨a0, a1, a2⟩, -⟩ := boxWk_at N1
  clear c1 C1 B1 N1
  cases b1 with
  | false =>
    have no : ¬ OkWk g := fun k => by have := H1.out.mpr k; simp at this
    obtain ⟨rfl, rfl⟩ : L = [] ∧ b = false := by
      rcases HR.out with k | k
      · exact absurd k.1.1 no
      · exact k.2
    go_wp2
    go_ret2
    exact ⟨_, rfl, World.ownsRow_nil _ _ _ _, B1'.out⟩
  | true =>
  have ok := H1.out.mp (by trivial)
  go_wp2_with fail
  refine (C2.out _ (H.out.later B1'.out)).mono ?_
  rintro e w2 ⟨rfl, c2⟩
  obtain ⟨B2, N2, z2⟩ := boxWk_next B1'.out N1'.out z1 c2
  have B2' := Lib.hid B2
  have N2' := Lib.hid N2
  clear c2 C2 B1' N1' B2 a0 a1 a2
  obtain ⟨⟨a0, a1, a2⟩, -⟩ := boxWk_at N2
  clear N2
  cases b2 with
  | false =>
    have no : ¬ OkOs xs := fun k => by have := H2.out.mpr k; simp at this
    obtain ⟨rfl, rfl⟩ : L = [] ∧ b = false := by
      rcases HR.out with k | k
      · exact absurd k.1.2 no
      · exact k.2
    go_wp2
    go_ret2
    exact ⟨_, rfl, World.ownsRow_nil _ _ _ _, B2'.out⟩
  | true =>
  have oks := H2.out.mp (by trivial)
  obtain ⟨hL, rfl⟩ : L = shortT g.m g.c g.u xs 0 xs.length ∧ b = true := by
    rcases HR.out with k | k
    · exact k.2
    · exact absurd ⟨ok, oks⟩ k.1
  have C3 := Lib.hid (fun w (h : RdS 2 encOd w (.slice a n cap) xs) => shortW_any g ok _ xs w h oks L hL.symm)
  clear hL ok oks HR H1 H2
  go_wp2_with fail
  refine (C3.out _ (H.out.later B2'.out)).mono ?_
  rintro e w3 ⟨u, rfl, o3, c3⟩
  have O3 := Lib.hid (o3.mono (show w.heap.size ≤ w2.heap.size by omega))
  have B3 : Hid (Below w.heap.size w w3) := B2'.out.trans (c3.mono (by omega))
  clear c3 o3 a0 a1 a2
  go_wp2
  go_ret2
  exact ⟨_, rfl, O3.out, B3.out⟩

theorem exShortDays (g : Wk) (xs : List Od) (lz : xs.length ≤ 1048576) : ∃ (L : List Int) (b : Bool), ∃ (_ : L.length ≤ 1048576),
    Hid (∀ (w : World) (v1 : Value), (fun _ => True) w → RdS 2 encOd w v1 xs → Calls Try.prog 21 #[(.agg #[.int .i64 g.m, .int .i64 g.c, .int .i64 g.u]), v1] w fun e w' => ∃ u0, e = .returned (.tuple #[u0, .bool b]) ∧ OwnI w' w.heap.size u0 L ∧ Below w.heap.size w w') ∧
    Hid (∀ (w : World) (v1 : Value), (fun _ => True) w → RdS 2 encOd w v1 xs → Calls Try.prog 22 #[(.agg #[.int .i64 g.m, .int .i64 g.c, .int .i64 g.u]), v1] w fun e w' => ∃ u0, e = .returned (.tuple #[u0, .bool b]) ∧ OwnI w' w.heap.size u0 L ∧ Below w.heap.size w w') := by
  obtain ⟨L, b, h, hl⟩ : ∃ L b, ShortRes g xs L b ∧ L.length ≤ 1048576 := by
    by_cases h : OkWk g ∧ OkOs xs
    · exact ⟨_, _, .inl ⟨h, rfl, rfl⟩, by have := shortT_len g.m g.c g.u xs 0 xs.length; omega⟩
    · exact ⟨_, _, .inr ⟨h, rfl, rfl⟩, by simp⟩
  exact ⟨L, b, hl, fun w v _ k => specShort_any g v xs w k lz L b h, fun w v _ k => implShort_any g v xs w k lz L b h⟩

/-! StockOn. -/
def ShortBy (L : List Int) (d : Int) : Prop := ∃ z, L[0]? = some z ∧ z ≤ d
def StockV (g : Wk) (xs : List Od) (d : Int) : Prop := (OkWk g ∧ OkOs xs) ∧ DayN d ∧ ¬ ShortBy (shortT g.m g.c g.u xs 0 xs.length) d
def StockRes (g : Wk) (xs : List Od) (d : Int) (r : Int) (b : Bool) : Prop := (StockV g xs d ∧ r = g.m * rnd g.c g.u d - wantTo xs d xs.length ∧ b = true) ∨ (¬ StockV g xs d ∧ r = 0 ∧ b = false)

set_option maxRecDepth 100000 in
set_option maxHeartbeats 8000000 in
theorem specStock_any (g : Wk) (v : Value) (xs : List Od) (d : Int) (w : World) (h : RdS 2 encOd w v xs) (lz : xs.length ≤ 1048576) (r : Int) (b : Bool) (hr : StockRes g xs d r b) :
    Calls Try.prog 31 #[(.agg #[.int .i64 g.m, .int .i64 g.c, .int .i64 g.u]), v, .int .i64 d] w fun e w' => e = .returned (.tuple #[.int .i64 r, .bool b]) ∧ Below w.heap.size w w' := by
  obtain ⟨b3, h3⟩ := bool_of (DayN d)
  have C3 := Lib.hid (fun w => l09Day_any d b3 h3 w)
  have H3 := Lib.hid h3
  clear h3
  obtain ⟨b1, h1⟩ := bool_of (OkWk g)
  obtain ⟨b2, h2⟩ := bool_of (OkOs xs)
  have C1 := Lib.hid (fun w => l09Works_blw g b1 h1 w)
  have C2 := Lib.hid (fun w h => l09Orders_any v xs w h lz b2 h2)
  have H1 := Lib.hid h1
  have H2 := Lib.hid h2
  have HR := Lib.hid hr
  have H := Lib.hid h
  obtain ⟨a, cap, rfl, _⟩ := h
  obtain ⟨n, hn⟩ : ∃ n, n = xs.length := ⟨_, rfl⟩
  rw [← hn] at H C2 lz
  rw [← hn]
  have HN := Lib.hid hn
  clear h1 h2 hr hn
  go_enter Try.func31, Try.ntmps31
  go_wp2_with fail
  refine (C1.out _).mono ?_
  rintro e w1 ⟨rfl, c1⟩
  obtain ⟨B1, N1, z1⟩ := boxWk_step (by simpa using c1)
  have B1' := Lib.hid B1
  have N1' := Lib.hid N1
  obtain ⟨⟨a0, a1, a2⟩, -⟩ := boxWk_at N1
  clear c1 C1 B1 N1
  cases b1 with
  | false =>
    have no : ¬ OkWk g := fun k => by have := H1.out.mpr k; simp at this
    obtain ⟨rfl, rfl⟩ : r = 0 ∧ b = false := by
      rcases HR.out with k | k
      · exact absurd k.1.1.1 no
      · exact k.2
    go_wp2
    go_ret2
    exact ⟨rfl, B1'.out⟩
  | true =>
  have ok := H1.out.mp (by trivial)
  go_wp2_with fail
  refine (C2.out _ (H.out.later B1'.out)).mono ?_
  rintro e w2 ⟨rfl, c2⟩
  obtain ⟨B2, N2, z2⟩ := boxWk_next B1'.out N1'.out z1 c2
  have B2' := Lib.hid B2
  have N2' := Lib.hid N2
  clear c2 C2 B1' N1' B2 a0 a1 a2
  obtain ⟨⟨a0, a1, a2⟩, -⟩ := boxWk_at N2
  clear N2
  cases b2 with
  | false =>
    have no : ¬ OkOs xs := fun k => by have := H2.out.mpr k; simp at this
    obtain ⟨rfl, rfl⟩ : r = 0 ∧ b = false := by
      rcases HR.out with k | k
      · exact absurd k.1.1.2 no
      · exact k.2
    go_wp2
    go_ret2
    exact ⟨rfl, B2'.out⟩
  | true =>
  have oks := H2.out.mp (by trivial)
  go_wp2_with fail
  refine (C3.out _).mono ?_
  rintro e w3 ⟨rfl, rfl⟩
  clear C3
  cases b3 with
  | false =>
    have no : ¬ DayN d := fun k => by have := H3.out.mpr k; simp at this
    obtain ⟨rfl, rfl⟩ : r = 0 ∧ b = false := by
      rcases HR.out with k | k
      · exact absurd k.1.2.1 no
      · exact k.2
    go_wp2
    go_ret2
    exact ⟨rfl, B2'.out⟩
  | true =>
  have od := H3.out.mp (by trivial)
  obtain ⟨L, hL⟩ : ∃ L, L = shortT g.m g.c g.u xs 0 xs.length := ⟨_, rfl⟩
  have C4 := Lib.hid (fun w (h : RdS 2 encOd w (.slice a n cap) xs) => l09Short_any g ok _ xs w h oks 0 (by omega) L hL.symm)
  have HR2 : Hid ((¬ ShortBy L d ∧ r = g.m * rnd g.c g.u d - wantTo xs d xs.length ∧ b = true) ∨ (ShortBy L d ∧ r = 0 ∧ b = false)) := by
    rw [hL]
    rcases HR.out with k | k
    · exact .inl ⟨k.1.2.2, k.2⟩
    · refine .inr ⟨Classical.byContradiction fun q => k.1 ⟨⟨ok, oks⟩, od, q⟩, k.2⟩
  have OK := Lib.hid ok
  have OKS := Lib.hid oks
  have OD := Lib.hid od
  have L8 : L.length ≤ 8 := by rw [hL]; have := shortT_len g.m g.c g.u xs 0 xs.length; have := oks.1; omega
  clear hL ok oks HR H1 H2 H3 od
  go_wp2_with fail
  refine (C4.out _ (H.out.later B2'.out)).mono ?_
  rintro e w3 ⟨u, rfl, o3, c3⟩
  obtain ⟨au, cu, rfl, -⟩ := id o3.rd
  obtain ⟨m, hm⟩ : ∃ m, m = L.length := ⟨_, rfl⟩
  rw [← hm] at o3 L8
  rw [← hm]
  have O3 := Lib.hid o3.rd
  obtain ⟨B3, N3, z3⟩ := boxWk_next B2'.out N2'.out z2 c3
  have B3' := Lib.hid B3
  have N3' := Lib.hid N3
  clear c3 o3 B2' N2' C4 a0 a1 a2 B3
  obtain ⟨⟨a0, a1, a2⟩, -⟩ := boxWk_at N3
  clear N3
  by_cases hs : ShortBy L d
  · obtain ⟨rfl, rfl⟩ : r = 0 ∧ b = false := by
      rcases HR2.out with k | k
      · exact absurd hs k.1
      · exact k.2
    obtain ⟨z, hz, zd⟩ := hs
    obtain ⟨bz, oz, rfl, k0⟩ := O3.out.at1 0 z hz
    rw [Nat.add_zero] at k0
    have m0 : 0 < m := by rw [hm]; exact (List.getElem?_eq_some_iff.1 hz).1
    clear hz hm HR2
    go_wp2
    go_ret2
    exact ⟨rfl, B3'.out⟩
  · obtain ⟨hr, rfl⟩ : r = g.m * rnd g.c g.u d - wantTo xs d xs.length ∧ b = true := by
      rcases HR2.out with k | k
      · exact k.2
      · exact absurd k.1 hs
    have bm := made_bd (d := d) OK.out.1 OK.out.2.1.1 OK.out.2.2.1 OD.out.2
    have C5 := Lib.hid (fun w => l09Rounds_any g.c g.u d OK.out.2 ⟨by have := OD.out.1; omega, OD.out.2⟩ w)
    obtain ⟨R, hR⟩ : ∃ R, R = rnd g.c g.u d := ⟨_, rfl⟩
    rw [← hR] at bm C5 hr
    obtain ⟨P, hP⟩ : ∃ P, P = g.m * R := ⟨_, rfl⟩
    have q3 : IntKind.i64.wrap (g.m * R) = P := by rw [hP]; exact IntWalk.i64_in _ (by omega)
    rw [← hP] at hr bm
    have HRR := Lib.hid hr
    have n8 : n ≤ 8 := by have := OKS.out.1; have := HN.out; omega
    have KS : Hid (∀ w', Below w3.heap.size w3 w' → (w'.cell? ⟨w.heap.size, 0, none⟩ = some (.int .i64 g.m) ∧ w'.cell? ⟨w.heap.size, 1, none⟩ = some (.int .i64 g.c) ∧ w'.cell? ⟨w.heap.size, 2, none⟩ = some (.int .i64 g.u))) := by
      intro w' b
      obtain ⟨⟨a0, a1, a2⟩, -⟩ := boxWk_at ((b.block w.heap.size (by omega)).trans N3'.out)
      exact ⟨a0, a1, a2⟩
    clear hr hR hP
    have two : (m = 0) ∨ (0 < m ∧ ∃ bz oz z, au = some ⟨bz, oz, none⟩ ∧ w3.cell? ⟨bz, oz, none⟩ = some (.int .i64 z) ∧ d < z) := by
      cases hz : L[0]? with
      | none => left; rw [List.getElem?_eq_none_iff] at hz; omega
      | some z =>
        right
        obtain ⟨bz, oz, e, k0⟩ := O3.out.at1 0 z hz
        rw [Nat.add_zero] at k0
        exact ⟨by rw [hm]; exact (List.getElem?_eq_some_iff.1 hz).1, bz, oz, z, e, k0, Int.not_le.mp fun q => hs ⟨z, hz, q⟩⟩
    clear hs hm HR2
    rcases two with rfl | ⟨m0, bz, oz, z, rfl, k0, zd⟩
    all_goals
      go_wp2_with fail
      go_region_held3 (fun w' => (w'.cell? ⟨w.heap.size, 0, none⟩ = some (.int .i64 g.m) ∧ w'.cell? ⟨w.heap.size, 1, none⟩ = some (.int .i64 g.c) ∧ w'.cell? ⟨w.heap.size, 2, none⟩ = some (.int .i64 g.u)))
        (exact KS.out _ (Below.refl _ _).drew)
        ((go_at_call 48; refine (C5.out _).mono ?_; rintro e w2 ⟨rfl, rfl⟩))
      rename_i hHeld
      clear hHeld
      have B4 : Hid (Below w.heap.size w w3.drew) := B3'.out.trans ((Below.refl _ _).drew.mono B3'.out.size)
      clear KS a0 a1 a2 B3' N3' z3 C5 O3
      generalize w3.drew = w4 at *
      go_wp2
      go_loopw [9, 10] (fun sv iv wr => ∃ (k : Nat) (S : Int), k ≤ n ∧ iv = .int .i64 k ∧ sv = .int .i64 S ∧ Hid (S = P - wantTo xs d k) ∧ Hid (Below w.heap.size w wr)) (fun _ iv _ => n - (intOf iv).toNat)
      case atStart => exact ⟨0, P, by omega, rfl, rfl, (by show _ = _; simp [wantTo]), B4⟩
      case round =>
        obtain ⟨k, S, hk, rfl, rfl, hS, B⟩ := hrel
        clear B4
        have hsz := B.out.size
        by_cases hlt : k < n
        · obtain ⟨c, hx⟩ : ∃ x, xs[k]? = some x := ⟨_, List.getElem?_eq_getElem (by have := HN.out; omega)⟩
          obtain ⟨ba, oa, rfl, e0, e1⟩ := (H.out.later B.out).at2o k c hx
          have okc := (OKS.out.2.1 c (List.mem_of_getElem? hx)).2
          have bd := wantTo_bd OKS.out.2.1 d k
          have bd1 := wantTo_bd OKS.out.2.1 d (k + 1)
          unfold PcsN at okc
          have hS' := hS.out
          by_cases gd : c.d ≤ d
          · have S1 : Hid (S - c.p = P - wantTo xs d (k + 1)) := by show _ = _; rw [wantTo_in hx gd]; omega
            have q1 : IntKind.i64.wrap (S - c.p) = S - c.p := IntWalk.i64_in _ (by omega)
            clear hx bd bd1 hS' hS
            go_wp2
            exact ⟨⟨k + 1, S - c.p, by omega, by go_num, rfl, S1, B⟩, by simp only [intOf]; omega⟩
          · have S1 : Hid (S = P - wantTo xs d (k + 1)) := by show _ = _; rw [wantTo_out hx gd]; omega
            clear hx bd bd1 hS' hS
            go_wp2
            exact ⟨⟨k + 1, S, by omega, by go_num, rfl, S1, B⟩, by simp only [intOf]; omega⟩
        · obtain rfl : k = n := by omega
          obtain rfl : S = r := by rw [hS.out, HRR.out, HN.out]
          go_wp2
          go_ret2
          exact ⟨rfl, B.out⟩

set_option maxRecDepth 100000 in
set_option maxHeartbeats 8000000 in
theorem implStock_any (g : Wk) (v : Value) (xs : List Od) (d : Int) (w : World) (h : RdS 2 encOd w v xs) (lz : xs.length ≤ 1048576) (r : Int) (b : Bool) (hr : StockRes g xs d r b) :
    Calls Try.prog 32 #[(.agg #[.int .i64 g.m, .int .i64 g.c, .int .i64 g.u]), v, .int .i64 d] w fun e w' => e = .returned (.tuple #[.int .i64 r, .bool b]) ∧ Below w.heap.size w w' := by
  obtain ⟨b3, h3⟩ := bool_of (DayN d)
  have C3 := Lib.hid (fun w => isDay_any d b3 h3 w)
  have H3 := Lib.hid h3
  clear h3
  obtain ⟨b1, h1⟩ := bool_of (OkWk g)
  obtain ⟨b2, h2⟩ := bool_of (OkOs xs)
  have C1 := Lib.hid (fun w => implWorks_blw g b1 h1 w)
  have C2 := Lib.hid (fun w h => implOrders_any v xs w h lz b2 h2)
  have H1 := Lib.hid h1
  have H2 := Lib.hid h2
  have HR := Lib.hid hr
  have H := Lib.hid h
  obtain ⟨a, cap, rfl, _⟩ := h
  obtain ⟨n, hn⟩ : ∃ n, n = xs.length := ⟨_, rfl⟩
  rw [← hn] at H C2 lz
  rw [← hn]
  have HN := Lib.hid hn
  clear h1 h2 hr hn
  go_enter Try.func32, Try.ntmps32
  go_wp2_with fail
  refine (C1.out _).mono ?_
  rintro e w1 ⟨rfl, c1⟩
  obtain ⟨B1, N1, z1⟩ := boxWk_step (by simpa using c1)
  have B1' := Lib.hid B1
  have N1' := Lib.hid N1
  obtain ⟨⟨a0, a1, a2⟩, -⟩ := boxWk_at N1
  clear c1 C1 B1 N1
  cases b1 with
  | false =>
    have no : ¬ OkWk g := fun k => by have := H1.out.mpr k; simp at this
    obtain ⟨rfl, rfl⟩ : r = 0 ∧ b = false := by
      rcases HR.out with k | k
      · exact absurd k.1.1.1 no
      · exact k.2
    go_wp2
    go_ret2
    exact ⟨rfl, B1'.out⟩
  | true =>
  have ok := H1.out.mp (by trivial)
  go_wp2_with fail
  refine (C2.out _ (H.out.later B1'.out)).mono ?_
  rintro e w2 ⟨rfl, c2⟩
  obtain ⟨B2, N2, z2⟩ := boxWk_next B1'.out N1'.out z1 c2
  have B2' := Lib.hid B2
  have N2' := Lib.hid N2
  clear c2 C2 B1' N1' B2 a0 a1 a2
  obtain ⟨⟨a0, a1, a2⟩, -⟩ := boxWk_at N2
  clear N2
  cases b2 with
  | false =>
    have no : ¬ OkOs xs := fun k => by have := H2.out.mpr k; simp at this
    obtain ⟨rfl, rfl⟩ : r = 0 ∧ b = false := by
      rcases HR.out with k | k
      · exact absurd k.1.1.2 no
      · exact k.2
    go_wp2
    go_ret2
    exact ⟨rfl, B2'.out⟩
  | true =>
  have oks := H2.out.mp (by trivial)
  go_wp2_with fail
  refine (C3.out _).mono ?_
  rintro e w3 ⟨rfl, rfl⟩
  clear C3
  cases b3 with
  | false =>
    have no : ¬ DayN d := fun k => by have := H3.out.mpr k; simp at this
    obtain ⟨rfl, rfl⟩ : r = 0 ∧ b = false := by
      rcases HR.out with k | k
      · exact absurd k.1.2.1 no
      · exact k.2
    go_wp2
    go_ret2
    exact ⟨rfl, B2'.out⟩
  | true =>
  have od := H3.out.mp (by trivial)
  obtain ⟨L, hL⟩ : ∃ L, L = shortT g.m g.c g.u xs 0 xs.length := ⟨_, rfl⟩
  have C4 := Lib.hid (fun w (h : RdS 2 encOd w (.slice a n cap) xs) => shortW_any g ok _ xs w h oks L hL.symm)
  have HR2 : Hid ((¬ ShortBy L d ∧ r = g.m * rnd g.c g.u d - wantTo xs d xs.length ∧ b = true) ∨ (ShortBy L d ∧ r = 0 ∧ b = false)) := by
    rw [hL]
    rcases HR.out with k | k
    · exact .inl ⟨k.1.2.2, k.2⟩
    · refine .inr ⟨Classical.byContradiction fun q => k.1 ⟨⟨ok, oks⟩, od, q⟩, k.2⟩
  have OK := Lib.hid ok
  have OKS := Lib.hid oks
  have OD := Lib.hid od
  have L8 : L.length ≤ 8 := by rw [hL]; have := shortT_len g.m g.c g.u xs 0 xs.length; have := oks.1; omega
  clear hL ok oks HR H1 H2 H3 od
  go_wp2_with fail
  refine (C4.out _ (H.out.later B2'.out)).mono ?_
  rintro e w3 ⟨u, rfl, o3, c3⟩
  obtain ⟨au, cu, rfl, -⟩ := id o3.rd
  obtain ⟨m, hm⟩ : ∃ m, m = L.length := ⟨_, rfl⟩
  rw [← hm] at o3 L8
  rw [← hm]
  have O3 := Lib.hid o3.rd
  obtain ⟨B3, N3, z3⟩ := boxWk_next B2'.out N2'.out z2 c3
  have B3' := Lib.hid B3
  have N3' := Lib.hid N3
  clear c3 o3 B2' N2' C4 a0 a1 a2 B3
  obtain ⟨⟨a0, a1, a2⟩, -⟩ := boxWk_at N3
  clear N3
  by_cases hs : ShortBy L d
  · obtain ⟨rfl, rfl⟩ : r = 0 ∧ b = false := by
      rcases HR2.out with k | k
      · exact absurd hs k.1
      · exact k.2
    obtain ⟨z, hz, zd⟩ := hs
    obtain ⟨bz, oz, rfl, k0⟩ := O3.out.at1 0 z hz
    rw [Nat.add_zero] at k0
    have m0 : 0 < m := by rw [hm]; exact (List.getElem?_eq_some_iff.1 hz).1
    clear hz hm HR2
    go_wp2
    go_ret2
    exact ⟨rfl, B3'.out⟩
  · obtain ⟨hr, rfl⟩ : r = g.m * rnd g.c g.u d - wantTo xs d xs.length ∧ b = true := by
      rcases HR2.out with k | k
      · exact k.2
      · exact absurd k.1 hs
    have bm := made_bd (d := d) OK.out.1 OK.out.2.1.1 OK.out.2.2.1 OD.out.2
    have C5 := Lib.hid (fun w => readyBy_any g OK.out d ⟨by have := OD.out.1; omega, OD.out.2⟩ w)
    obtain ⟨P, hP⟩ : ∃ P, P = g.m * rnd g.c g.u d := ⟨_, rfl⟩
    rw [← hP] at bm C5 hr
    have bw := wantTo_bd OKS.out.2.1 d xs.length
    have C6 := Lib.hid (fun w (h : RdS 2 encOd w (.slice a n cap) xs) => wantedBy_any _ xs w h OKS.out d _ rfl)
    obtain ⟨S, hS⟩ : ∃ S, S = wantTo xs d xs.length := ⟨_, rfl⟩
    rw [← hS] at hr bw C6
    have n8 := OKS.out.1
    have q3 : IntKind.i64.wrap (P - S) = r := by rw [hr]; exact IntWalk.i64_in _ (by omega)
    clear hr hP hS n8 bw bm
    have two : (m = 0) ∨ (0 < m ∧ ∃ bz oz z, au = some ⟨bz, oz, none⟩ ∧ w3.cell? ⟨bz, oz, none⟩ = some (.int .i64 z) ∧ d < z) := by
      cases hz : L[0]? with
      | none => left; rw [List.getElem?_eq_none_iff] at hz; omega
      | some z =>
        right
        obtain ⟨bz, oz, e, k0⟩ := O3.out.at1 0 z hz
        rw [Nat.add_zero] at k0
        exact ⟨by rw [hm]; exact (List.getElem?_eq_some_iff.1 hz).1, bz, oz, z, e, k0, Int.not_le.mp fun q => hs ⟨z, hz, q⟩⟩
    clear hs hm HR2
    rcases two with rfl | ⟨m0, bz, oz, z, rfl, k0, zd⟩
    all_goals
      go_wp2_with fail
      refine (C5.out _).mono ?_
      rintro e w4 ⟨rfl, c4⟩
      have B4 : Hid (Below w.heap.size w w4) := B3'.out.trans (c4.mono (by omega))
      clear c4 a0 a1 a2 B3' N3' z3 C5 O3
      go_wp2_with fail
      refine (C6.out _ (H.out.later B4.out)).mono ?_
      rintro e w5 ⟨rfl, c5⟩
      have B5 : Hid (Below w.heap.size w w5) := B4.out.trans (c5.mono B4.out.size)
      clear c5 B4 C6
      go_wp2
      go_ret2
      exact ⟨rfl, B5.out⟩

theorem exStockOn (g : Wk) (xs : List Od) (d : Int) (lz : xs.length ≤ 1048576) : ∃ (r : Int) (b : Bool),
    Hid (∀ (w : World) (v1 : Value), (fun _ => True) w → RdS 2 encOd w v1 xs → Calls Try.prog 31 #[(.agg #[.int .i64 g.m, .int .i64 g.c, .int .i64 g.u]), v1, .int .i64 d] w fun e w' => e = .returned (.tuple #[.int .i64 r, .bool b]) ∧ Below w.heap.size w w') ∧
    Hid (∀ (w : World) (v1 : Value), (fun _ => True) w → RdS 2 encOd w v1 xs → Calls Try.prog 32 #[(.agg #[.int .i64 g.m, .int .i64 g.c, .int .i64 g.u]), v1, .int .i64 d] w fun e w' => e = .returned (.tuple #[.int .i64 r, .bool b]) ∧ Below w.heap.size w w') := by
  obtain ⟨r, b, h⟩ : ∃ r b, StockRes g xs d r b := by
    by_cases h : StockV g xs d
    · exact ⟨_, _, .inl ⟨h, rfl, rfl⟩⟩
    · exact ⟨_, _, .inr ⟨h, rfl, rfl⟩⟩
  exact ⟨r, b, fun w v _ k => specStock_any g v xs d w k lz r b h, fun w v _ k => implStock_any g v xs d w k lz r b h⟩
end Go.Proofs.Ytmdddjhlfpmgdaa
