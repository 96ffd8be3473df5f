/- OutlookOf on both sides. -/
import Derived.Test.YtjapgbeecabkfabDoorBuildEx
import Derived.Test.YtjapgbeecabkfabDoorSpecM2
import Derived.Deep.RegionHeld3
namespace Go.Proofs.YtjapgbeecabkfabDoor
open Go.ChangeShapes Go.WideShapes Go.ChangeAt Go.RowKit
set_option linter.unusedVariables false
set_option linter.unusedSimpArgs false

def FirstLeast (zs : List Int) (k : Nat) (x : Int) : Prop := LeastOf zs x ∧ zs[k]? = some x ∧ ∀ j, j < k → zs[j]? ≠ some x

theorem first_idx (zs : List Int) (x : Int) (h : x ∈ zs) : ∃ k : Nat, zs[k]? = some x ∧ ∀ j : Nat, j < k → zs[j]? ≠ some x := by
  induction zs with
  | nil => simp at h
  | cons y ys ih =>
    by_cases e : y = x
    · subst e; exact ⟨0, rfl, fun j hj => by omega⟩
    · obtain ⟨k, h1, h2⟩ := ih (by simpa [Ne.symm e, eq_comm, e] using h)
      refine ⟨k + 1, by simpa using h1, fun j hj => ?_⟩
      cases j with
      | zero => simpa using e
      | succ j => simpa using h2 j (by omega)

theorem firstLeast_ex (zs : List Int) (x : Int) (h : LeastOf zs x) : ∃ k, FirstLeast zs k x := by
  obtain ⟨k, h1, h2⟩ := first_idx zs x h.1
  exact ⟨k, h, h1, h2⟩

set_option maxRecDepth 100000 in
set_option maxHeartbeats 4000000 in
theorem l04Least_any (g : Nat) (t : TypeId) (m : Mc) (h : NearM m) (k : Nat) (x : Int) (hx : FirstLeast (gapsM m) k x) (w : World) (hg : w.heap[g]? = some (.cells #[.int .i64 m.u.s, .int .i64 m.u.h, .int .i64 m.u.y, .int .i64 m.u.p, .int .i64 m.t.s, .int .i64 m.t.h, .int .i64 m.t.y, .int .i64 m.t.p, .int .i64 m.a] t (0, 0))) :
    Calls Tryd.prog 90 #[.pointer (some ⟨g, 0, none⟩)] w fun e w' => e = .returned (.int .i64 k) ∧ Below w.heap.size w w' := by
  have c1 := Lib.hid (l04Gaps_any g t m h w hg)
  have LG : Hid ((gapsM m).length = 4) := rfl
  obtain ⟨G, hG⟩ : ∃ G, G = gapsM m := ⟨_, rfl⟩
  rw [← hG] at c1 LG hx
  have HX := Lib.hid hx
  clear hx hG h hg
  go_enter Tryd.func90, Tryd.ntmps90
  go_wp2_with fail
  refine c1.out.mono ?_
  rintro e w1 ⟨v, rfl, o1, b1⟩
  have B1 := Lib.hid b1
  obtain ⟨ac, cc, rfl, hc⟩ := o1.rd
  obtain ⟨gb, go, rfl, hc2⟩ := hc.resolve_left (by intro e; have := LG.out; rw [e] at this; simp at this)
  have HC := Lib.hid hc2
  rw [LG.out]
  obtain ⟨y0, hy0⟩ : ∃ y, G[0]? = some y := ⟨_, List.getElem?_eq_getElem (by have := LG.out; omega)⟩
  have I0 : Hid (∃ y, G[0]? = some y ∧ (∀ j z, j < 1 → G[j]? = some z → y ≤ z) ∧ ∀ j z, j < 0 → G[j]? = some z → y < z) := by
    refine ⟨y0, hy0, fun j z hj hz => ?_, fun j z hj => by omega⟩
    obtain rfl : j = 0 := by omega
    rw [hy0] at hz; cases hz; omega
  clear b1 o1 hc hc2 c1 hy0
  go_wp2_with fail
  go_loopw [4, 5] (fun bs i wr => ∃ (k b mm : Nat), 1 ≤ k ∧ k ≤ 4 ∧ b < k ∧ bs = .int .i64 b ∧ i = .int .i64 k ∧ wr = w1.drewN mm ∧ Hid (∃ y, G[b]? = some y ∧ (∀ j z, j < k → G[j]? = some z → y ≤ z) ∧ ∀ j z, j < b → G[j]? = some z → y < z)) (fun _ i _ => 4 - (intOf i).toNat)
  case atStart => exact ⟨1, 0, 0, by omega, by omega, by omega, rfl, rfl, rfl, I0⟩
  case round =>
    obtain ⟨n, b, mm, n1, hn, hb, rfl, rfl, rfl, IK⟩ := hrel
    clear I0
    by_cases hlt : n < 4
    · obtain ⟨z, hz⟩ : ∃ z, G[n]? = some z := ⟨_, List.getElem?_eq_getElem (by have := LG.out; omega)⟩
      obtain ⟨y, hy, i1, i2⟩ := IK.out
      have d1 := HC.out n z hz
      have d2 := HC.out b y hy
      have lt : (n : Int) < 4 := by omega
      have bt : (b : Int) < 4 := by omega
      have bt' : b < 4 := by omega
      by_cases hzy : z < y
      · have IK' : Hid (∃ y, G[n]? = some y ∧ (∀ j z, j < n + 1 → G[j]? = some z → y ≤ z) ∧ ∀ j z, j < n → G[j]? = some z → y < z) := by
          refine ⟨z, hz, fun j u hj hu => ?_, fun j u hj hu => ?_⟩
          · by_cases e : j = n
            · subst e; rw [hz] at hu; cases hu; omega
            · have := i1 j u (by omega) hu; omega
          · have := i1 j u hj hu; omega
        clear hz hy i1 i2 IK
        go_wp2
        go_quiet (fail)
        go_wp2
        exact ⟨⟨n + 1, n, _, by omega, by omega, by omega, rfl, by go_num, rfl, IK'⟩, by simp only [intOf]; omega⟩
      · have IK' : Hid (∃ y, G[b]? = some y ∧ (∀ j z, j < n + 1 → G[j]? = some z → y ≤ z) ∧ ∀ j z, j < b → G[j]? = some z → y < z) := by
          refine ⟨y, hy, fun j u hj hu => ?_, i2⟩
          by_cases e : j = n
          · subst e; rw [hz] at hu; cases hu; omega
          · exact i1 j u (by omega) hu
        clear hz hy i1 i2 IK
        go_wp2
        go_quiet (fail)
        go_wp2
        exact ⟨⟨n + 1, b, _, by omega, by omega, by omega, rfl, by go_num, rfl, IK'⟩, by simp only [intOf]; omega⟩
    · obtain rfl : n = 4 := by omega
      obtain rfl : b = k := by
        obtain ⟨y, hy, i1, i2⟩ := IK.out
        obtain ⟨⟨x1, x2⟩, hk, hj⟩ := HX.out
        have l := LG.out
        have kl : k < 4 := by have := (List.getElem?_eq_some_iff.1 hk).1; omega
        have e1 : y ≤ x := i1 k x kl hk
        have e2 : x ≤ y := x2 y (List.mem_of_getElem? hy)
        have e : y = x := by omega
        subst e
        by_cases h1 : b < k
        · exact absurd hy (hj b h1)
        · by_cases h2 : k < b
          · have := i2 k y h2 hk; omega
          · omega
      clear IK HX
      go_wp2
      go_ret
      exact ⟨rfl, B1.out.trans ⟨rfl, rfl, rfl, Nat.le_refl _, fun _ _ => rfl⟩⟩


/-- The machine behind the three steps of an outlook. -/
def lookM (m : Mc) (key : Int) : Mc := buildR (pushM (buildR m ⟨1, key⟩) 0 0) ⟨0, 0⟩
def lookV (m : Mc) (key : Int) : Prop := OkR ⟨1, key⟩ ∧ OkM (buildR m ⟨1, key⟩) ∧ OkM (pushM (buildR m ⟨1, key⟩) 0 0) ∧ OkM (lookM m key)
theorem turn0 : OkTurn 0 := by unfold OkTurn; omega
theorem okR0 : OkR ⟨0, 0⟩ := by unfold OkR; simp

/-- What an outlook is. -/
def LookIs (m : Mc) (key : Int) (x : Int) (v : Bool) : Prop := (v = true ↔ lookV m key) ∧ (v = true → LeastOf (gapsM (lookM m key)) x) ∧ (v = false → x = 0)
theorem look_ex (m : Mc) (key : Int) : ∃ x v, LookIs m key x v := by
  by_cases h : lookV m key
  · obtain ⟨x, hx⟩ := least_ex (40 - sideM (lookM m key)) (40 - highM (lookM m key)) (40 + sideM (lookM m key)) (40 + highM (lookM m key))
    exact ⟨x, true, by simp [h], fun _ => hx, fun e => by cases e⟩
  · exact ⟨0, false, by simp [h], (fun e => by cases e), fun _ => rfl⟩

set_option maxRecDepth 100000 in
set_option maxHeartbeats 4000000 in
theorem l04Outlook_any (g : Nat) (m : Mc) (hm : OkM m) (key x : Int) (v : Bool) (hx : LookIs m key x v) (w : World) (hg : w.heap[g]? = some (.cells #[.int .i64 m.u.s, .int .i64 m.u.h, .int .i64 m.u.y, .int .i64 m.u.p, .int .i64 m.t.s, .int .i64 m.t.h, .int .i64 m.t.y, .int .i64 m.t.p, .int .i64 m.a] 30 (0, 0))) :
    Calls Tryd.prog 56 #[.pointer (some ⟨g, 0, none⟩), .int .i64 key] w fun e w' => e = .returned (.tuple #[.int .i64 x, .bool v]) ∧ Below w.heap.size w w' := by
  obtain ⟨v1, hv1⟩ := rv_ex m ⟨1, key⟩
  obtain ⟨o1, ho1⟩ : ∃ o, o = if v1 then buildR m ⟨1, key⟩ else (⟨⟨0, 0, 0, 0⟩, ⟨0, 0, 0, 0⟩, 0⟩ : Mc) := ⟨_, rfl⟩
  have c1 := Lib.hid (l04Build_any g _ m o1 ⟨1, key⟩ hm.1 v1 hv1 ho1 w hg)
  have HX := Lib.hid hx
  have HV1 := Lib.hid hv1
  have HO1 := Lib.hid ho1
  clear hm hx hv1 ho1 hg
  go_enter Tryd.func56, Tryd.ntmps56
  go_wp2_with fail
  refine c1.out.mono ?_
  rintro e w1 ⟨rfl, b1⟩
  have B1 := Lib.hid b1
  have z1 := b1.size
  clear b1 c1
  cases v1 with
  | false =>
    obtain rfl : v = false := b_false HX.out.1 fun h => by cases HV1.out.mpr ⟨h.1, h.2.1⟩
    obtain rfl : x = 0 := HX.out.2.2 rfl
    clear HX HV1 HO1
    go_wp2
    go_returns
    exact ⟨rfl, B1.out.alloc z1 _⟩
  | true =>
    obtain rfl : o1 = buildR m ⟨1, key⟩ := HO1.out
    obtain ⟨v2, hv2⟩ := okM_dec (pushM (buildR m ⟨1, key⟩) 0 0)
    have ok1 : OkM (buildR m ⟨1, key⟩) := (HV1.out.mp rfl).2
    have c2 := Lib.hid (fun g w hg => l04Push_near g 30 (buildR m ⟨1, key⟩) 0 0 ok1.1 turn0 turn0 v2 hv2 w hg)
    have HK := Lib.hid (HV1.out.mp rfl)
    have HV2 := Lib.hid hv2
    have HLM : Hid (lookM m key = buildR (pushM (buildR m ⟨1, key⟩) 0 0) ⟨0, 0⟩) := rfl
    have HLV : Hid (lookV m key ↔ OkM (pushM (buildR m ⟨1, key⟩) 0 0) ∧ OkM (lookM m key)) := ⟨fun h => h.2.2, fun h => ⟨HK.out.1, HK.out.2, h⟩⟩
    obtain ⟨p, hp⟩ : ∃ p, p = pushM (buildR m ⟨1, key⟩) 0 0 := ⟨_, rfl⟩
    obtain ⟨o1, ho1⟩ : ∃ o1, o1 = buildR m ⟨1, key⟩ := ⟨_, rfl⟩
    rw [← hp] at c2 HV2 HLM HLV
    rw [← ho1] at c2
    rw [← ho1]
    clear ok1 hv2 hp ho1 HO1 HV1 HK
    go_wp2_with fail
    refine (c2.out w1.heap.size _ (heap_alloc_new w1 (.cells #[.int .i64 o1.u.s, .int .i64 o1.u.h, .int .i64 o1.u.y, .int .i64 o1.u.p, .int .i64 o1.t.s, .int .i64 o1.t.h, .int .i64 o1.t.y, .int .i64 o1.t.p, .int .i64 o1.a] 30))).mono ?_
    rintro e w2 ⟨rfl, b2⟩
    have B2 : Hid (Below w.heap.size w w2) := (B1.out.alloc z1 _).trans (b2.mono (by simp only [World.size_alloc]; omega))
    have z2 : w.heap.size ≤ w2.heap.size := B2.out.size
    clear b2 c2 B1
    cases v2 with
    | false =>
      obtain rfl : v = false := b_false HX.out.1 fun h => by cases HV2.out.mpr (HLV.out.mp h).1
      obtain rfl : x = 0 := HX.out.2.2 rfl
      clear HX HV2 HLM HLV
      go_wp2
      go_returns
      exact ⟨rfl, B2.out.alloc z2 _⟩
    | true =>
      have okp : OkM p := HV2.out.mp rfl
      obtain ⟨v3, hv3⟩ := rv_ex p ⟨0, 0⟩
      obtain ⟨o3, ho3⟩ : ∃ o, o = if v3 then buildR p ⟨0, 0⟩ else (⟨⟨0, 0, 0, 0⟩, ⟨0, 0, 0, 0⟩, 0⟩ : Mc) := ⟨_, rfl⟩
      have c3 := Lib.hid (fun g w hg => l04Build_any g 30 p o3 ⟨0, 0⟩ okp.1 v3 hv3 ho3 w hg)
      have HV3 := Lib.hid hv3
      have HO3 := Lib.hid ho3
      have HP := Lib.hid okp
      clear okp hv3 ho3 HV2
      go_wp2_with fail
      refine (c3.out w2.heap.size _ (heap_alloc_new w2 (.cells #[.int .i64 p.u.s, .int .i64 p.u.h, .int .i64 p.u.y, .int .i64 p.u.p, .int .i64 p.t.s, .int .i64 p.t.h, .int .i64 p.t.y, .int .i64 p.t.p, .int .i64 p.a] 30))).mono ?_
      rintro e w3 ⟨rfl, b3⟩
      have B3 : Hid (Below w.heap.size w w3) := (B2.out.alloc z2 _).trans (b3.mono (by simp only [World.size_alloc]; omega))
      have z3 : w.heap.size ≤ w3.heap.size := B3.out.size
      clear b3 c3 B2
      cases v3 with
      | false =>
        obtain rfl : v = false := b_false HX.out.1 fun h => by cases HV3.out.mpr ⟨okR0, HLM.out ▸ (HLV.out.mp h).2⟩
        obtain rfl : x = 0 := HX.out.2.2 rfl
        clear HX HLM HLV HV3 HO3 HP
        go_wp2
        go_returns
        exact ⟨rfl, B3.out.alloc z3 _⟩
      | true =>
        have e3 : o3 = lookM m key := HO3.out.trans HLM.out.symm
        have ok3 : OkM o3 := by rw [e3, HLM.out]; exact (HV3.out.mp rfl).2
        obtain rfl : v = true := HX.out.1.mpr (HLV.out.mpr ⟨HP.out, e3 ▸ ok3⟩)
        have lx : LeastOf (gapsM o3) x := by rw [e3]; exact HX.out.2.1 rfl
        obtain ⟨k, hk⟩ := firstLeast_ex _ _ lx
        have c4 := Lib.hid (fun g w hg => l04Gaps_any g 30 o3 ok3.1 w hg)
        have c5 := Lib.hid (fun g w hg => l04Least_any g 30 o3 ok3.1 k x hk w hg)
        have HK := Lib.hid hk
        have k4 : k < 4 := (List.getElem?_eq_some_iff.1 hk.2.1).1
        have k4' : (k : Int) < 4 := by omega
        have lt3 : w3.heap.size < (w3.alloc (.cells #[.int .i64 o3.u.s, .int .i64 o3.u.h, .int .i64 o3.u.y, .int .i64 o3.u.p, .int .i64 o3.t.s, .int .i64 o3.t.h, .int .i64 o3.t.y, .int .i64 o3.t.p, .int .i64 o3.a] 30)).heap.size := by simp
        clear HX HLM HLV HV3 HO3 HP e3 ok3 lx hk
        go_wp2_with fail
        refine (c4.out w3.heap.size _ (heap_alloc_new w3 (.cells #[.int .i64 o3.u.s, .int .i64 o3.u.h, .int .i64 o3.u.y, .int .i64 o3.u.p, .int .i64 o3.t.s, .int .i64 o3.t.h, .int .i64 o3.t.y, .int .i64 o3.t.p, .int .i64 o3.a] 30))).mono ?_
        rintro e w4 ⟨u, rfl, o4, b4⟩
        have N4 := Lib.hid ((b4.block w3.heap.size lt3).trans (heap_alloc_new w3 (.cells #[.int .i64 o3.u.s, .int .i64 o3.u.h, .int .i64 o3.u.y, .int .i64 o3.u.p, .int .i64 o3.t.s, .int .i64 o3.t.h, .int .i64 o3.t.y, .int .i64 o3.t.p, .int .i64 o3.a] 30)))
        have B4 : Hid (Below w.heap.size w w4) := (B3.out.alloc z3 _).trans (b4.mono (by simp only [World.size_alloc]; omega))
        have O4 := Lib.hid o4
        clear b4 o4 c4 B3 lt3
        go_wp2_with fail
        refine (c5.out w3.heap.size _ N4.out).mono ?_
        rintro e w5 ⟨rfl, b5⟩
        have B5 : Hid (Below w.heap.size w w5) := B4.out.trans (b5.mono B4.out.size)
        have R5 := (O4.out.below b5 fun j e => (O4.out.lt j e).2).rd
        obtain ⟨ac, cc, rfl, hc⟩ := R5
        obtain ⟨gb, go, rfl, hc2⟩ := hc.resolve_left (by simp [gapsM])
        have d1 := hc2 k x HK.out.2.1
        rw [show (gapsM o3).length = 4 from rfl]
        clear b5 hc hc2 c5 B4 O4 N4 HK
        go_wp2
        go_returns
        exact ⟨rfl, B5.out⟩

set_option maxHeartbeats 4000000 in
theorem specLook_any (m : Mc) (key x : Int) (v : Bool) (hx : (v = true ↔ OkM m ∧ lookV m key) ∧ (v = true → LeastOf (gapsM (lookM m key)) x) ∧ (v = false → x = 0)) (w : World) :
    Calls Tryd.prog 22 #[(.agg #[.int .i64 m.u.s, .int .i64 m.u.h, .int .i64 m.u.y, .int .i64 m.u.p, .int .i64 m.t.s, .int .i64 m.t.h, .int .i64 m.t.y, .int .i64 m.t.p, .int .i64 m.a]), .int .i64 key] w fun e w' => e = .returned (.tuple #[.int .i64 x, .bool v]) ∧ Below w.heap.size w w' := by
  by_cases hm : OkM m
  · have c1 := Lib.hid (fun g t w hg => l04Is_any g t m true ⟨fun _ => hm, fun _ => rfl⟩ w hg)
    by_cases hk : 0 ≤ key ∧ key ≤ 15
    · have hl : LookIs m key x v := ⟨hx.1.trans ⟨fun h => h.2, fun h => ⟨hm, h⟩⟩, hx.2⟩
      have c2 := Lib.hid (fun w => in_any key 0 15 true ⟨fun _ => hk, fun _ => rfl⟩ w)
      have c3 := Lib.hid (fun g w hg => l04Outlook_any g m hm key x v hl w hg)
      clear hx hm hk hl
      go_enter Tryd.func22, Tryd.ntmps22
      go_wp2_with fail
      refine (c1.out _ _ _ (heap_alloc_new w (.cells #[.int .i64 m.u.s, .int .i64 m.u.h, .int .i64 m.u.y, .int .i64 m.u.p, .int .i64 m.t.s, .int .i64 m.t.h, .int .i64 m.t.y, .int .i64 m.t.p, .int .i64 m.a] 30))).mono ?_
      rintro e w1 ⟨rfl, b1⟩
      have B1 : Hid (Below w.heap.size w w1) := Below.trans (by show Below _ _ _; go_grown) (b1.mono (by simp))
      have N1 := Lib.hid ((b1.block w.heap.size (by simp)).trans (heap_alloc_new w (.cells #[.int .i64 m.u.s, .int .i64 m.u.h, .int .i64 m.u.y, .int .i64 m.u.p, .int .i64 m.t.s, .int .i64 m.t.h, .int .i64 m.t.y, .int .i64 m.t.p, .int .i64 m.a] 30)))
      clear b1 c1
      go_wp2_with fail
      refine (c2.out _).mono ?_
      rintro e w' ⟨rfl, rfl⟩
      go_wp2_with fail
      refine (c3.out _ _ N1.out).mono ?_
      rintro e w2 ⟨rfl, b2⟩
      have B2 := Lib.hid (B1.out.trans (b2.mono B1.out.size))
      clear b2 c3 c2 N1 B1
      go_wp2
      go_returns
      exact ⟨rfl, B2.out⟩
    · obtain rfl : v = false := b_false hx.1 fun h => hk h.2.1.2
      obtain rfl : x = 0 := hx.2.2 rfl
      have c2 := Lib.hid (fun w => in_any key 0 15 false ⟨fun e => (by cases e), fun e => absurd e hk⟩ w)
      clear hx hm hk
      go_enter Tryd.func22, Tryd.ntmps22
      go_wp2_with fail
      refine (c1.out _ _ _ (heap_alloc_new w (.cells #[.int .i64 m.u.s, .int .i64 m.u.h, .int .i64 m.u.y, .int .i64 m.u.p, .int .i64 m.t.s, .int .i64 m.t.h, .int .i64 m.t.y, .int .i64 m.t.p, .int .i64 m.a] 30))).mono ?_
      rintro e w1 ⟨rfl, b1⟩
      have B1 : Hid (Below w.heap.size w w1) := Below.trans (by show Below _ _ _; go_grown) (b1.mono (by simp))
      clear b1 c1
      go_wp2_with fail
      refine (c2.out _).mono ?_
      rintro e w' ⟨rfl, rfl⟩
      go_wp2
      go_returns
      exact ⟨rfl, B1.out⟩
  · obtain rfl : v = false := b_false hx.1 fun h => hm h.1
    obtain rfl : x = 0 := hx.2.2 rfl
    have c1 := Lib.hid (fun g t w hg => l04Is_any g t m false ⟨fun e => (by cases e), fun e => absurd e hm⟩ w hg)
    clear hx hm
    go_enter Tryd.func22, Tryd.ntmps22
    go_wp2_with fail
    refine (c1.out _ _ _ (heap_alloc_new w (.cells #[.int .i64 m.u.s, .int .i64 m.u.h, .int .i64 m.u.y, .int .i64 m.u.p, .int .i64 m.t.s, .int .i64 m.t.h, .int .i64 m.t.y, .int .i64 m.t.p, .int .i64 m.a] 30))).mono ?_
    rintro e w1 ⟨rfl, b1⟩
    have B1 : Hid (Below w.heap.size w w1) := Below.trans (by show Below _ _ _; go_grown) (b1.mono (by simp))
    clear b1 c1
    go_wp2
    go_returns
    exact ⟨rfl, B1.out⟩
end Go.Proofs.YtjapgbeecabkfabDoor
