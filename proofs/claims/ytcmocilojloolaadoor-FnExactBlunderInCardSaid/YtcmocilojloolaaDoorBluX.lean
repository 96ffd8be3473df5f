/- A single wrong sight: both sides. (Written by tools/mkblu.py.) -/
import Derived.Test.YtcmocilojloolaaDoorAdjU
import Derived.Test.YtcmocilojloolaaDoorDropM
namespace Go.Proofs.YtcmocilojloolaaDoor
open Go.ChangeShapes Go.WideShapes Go.ChangeAt Go.RowKit
set_option linter.unusedVariables false
set_option linter.unusedSimpArgs false

/-- The determinant of a survey's normal matrix. -/
def unitOf (g : Sv) : Int := det g.p.toNat (rowsP (g.p.toNat - 1) g.x)
theorem unitOf_same {g k : Sv} (h : g.same k) : unitOf g = unitOf k := by unfold unitOf; rw [h.1, h.2]
theorem unitOf_pos {g : Sv} (hc : Con g) : 0 < unitOf g ∧ unitOf g ≤ 207360000 := by
  have p0 := hc.1.p0
  have ok := hc.1.sts
  have l8 := hc.1.n0
  have hb := hc.2
  unfold trOf at hb
  unfold unitOf
  obtain ⟨n, hn⟩ : ∃ n, g.p.toNat = n + 1 := ⟨g.p.toNat - 1, by omega⟩
  rw [hn] at ok hb ⊢
  have h2 := unit_bd (n := n) (by omega) ok l8
  unfold Bd at h2
  exact ⟨unit_pos (by omega) (by omega) ok hb, by simpa using h2.2⟩

def adjZ (g : Sv) : List Int := solL g.p.toNat (rowsP (g.p.toNat - 1) g.x) (rightTo g.p.toNat g.x g.x.length)
def resZ (g : Sv) : List Int := errL (unitOf g) (adjZ g) g.x
theorem adjZ_same {g k : Sv} (h : g.same k) : adjZ g = adjZ k := by unfold adjZ; rw [h.1, h.2]
theorem resZ_same {g k : Sv} (h : g.same k) : resZ g = resZ k := by unfold resZ; rw [unitOf_same h, adjZ_same h, h.2]
theorem Con.bd {g : Sv} (hc : Con g) : (1 ≤ g.p.toNat ∧ g.p.toNat ≤ 5) ∧ g.x.length ≤ 8 ∧ (∀ x ∈ g.x, OkSt g.p.toNat x) ∧ (g.p.toNat : Int) = g.p := by
  have := hc.1.p0
  exact ⟨by omega, hc.1.n0, hc.1.sts, by omega⟩
theorem adjZ_bd {g : Sv} (hc : Con g) : (adjZ g).length ≤ 100 ∧ ∀ z ∈ adjZ g, Bd 81000000000000 z := by
  obtain ⟨h1, h2, h3, -⟩ := hc.bd
  exact ⟨by unfold adjZ; rw [solL_len]; omega, solL_bd h1 h3 h2 (rightTo_len _ _ _) (right_bd h3 h2)⟩
theorem resZ_bd {g : Sv} (hc : Con g) : (resZ g).length ≤ 100 ∧ ∀ z ∈ resZ g, Bd 1000000000000000000 z := by
  obtain ⟨h1, h2, h3, -⟩ := hc.bd
  refine ⟨by unfold resZ; rw [errL_len]; omega, fun z hz => ?_⟩
  simp only [resZ, errL, List.mem_map] at hz
  obtain ⟨x, hx, rfl⟩ := hz
  have ox := h3 x hx
  have b1 : Bd 100 x.r := by have := ox.r0; have := ox.r1; unfold Bd; omega
  have b2 : Bd 207360000 (unitOf g) := by have := unitOf_pos hc; unfold Bd; omega
  have b3 := getD_bd (by omega) (adjZ_bd hc).2 x.t.toNat
  have b4 := getD_bd (by omega) (adjZ_bd hc).2 x.f.toNat
  have b5 := b2.mul b1
  unfold errOf
  unfold Bd at *
  omega
theorem Con.svb {w : World} {G m n0 xc : Nat} {ty : TypeId} {xa : Option Addr} {xs : List St} (hc : Con ⟨(m : Int), xa, xc, xs⟩) (hG : w.heap[G]? = some (.cells #[.int .i64 m, .slice xa n0 xc] ty (0, 0))) (hr : RdS 4 encSt w (.slice xa n0 xc) xs) : SvB w G ty m (m - 1) n0 xc xa xs := by
  obtain ⟨hm, l8, ok, ht⟩ := hc.facts (n0 := n0)
  have e0 : n0 = xs.length := RdSv.len (g := ⟨(m : Int), xa, xc, xs⟩) ⟨hr⟩
  exact ⟨by omega, hG, hr, e0, by omega, ok, ht, by omega⟩
theorem unitOf_m (m : Nat) (xa : Option Addr) (xc : Nat) (xs : List St) : unitOf ⟨(m : Int), xa, xc, xs⟩ = det m (rowsP (m - 1) xs) := by simp [unitOf]
theorem adjZ_m (m : Nat) (xa : Option Addr) (xc : Nat) (xs : List St) : adjZ ⟨(m : Int), xa, xc, xs⟩ = solL m (rowsP (m - 1) xs) (rightTo m xs xs.length) := by simp [adjZ]
theorem resZ_m (m : Nat) (xa : Option Addr) (xc : Nat) (xs : List St) : resZ ⟨(m : Int), xa, xc, xs⟩ = errL (det m (rowsP (m - 1) xs)) (solL m (rowsP (m - 1) xs) (rightTo m xs xs.length)) xs := by unfold resZ; rw [unitOf_m, adjZ_m]

/-- A survey without one of its sights. -/
def dropB (g : Sv) (K : Nat) : Sv := ⟨g.p, none, 0, dropL g.x K⟩
theorem dropB_same {g k : Sv} (e : g.same k) (K : Nat) : (dropB g K).same (dropB k K) := by
  obtain ⟨e0, e1⟩ := e
  refine ⟨e0, ?_⟩
  show dropL g.x K = dropL k.x K
  rw [e1]
/-- A connected survey without residuals. -/
def Agr (g : Sv) : Prop := Con g ∧ ∀ z ∈ resZ g, z = 0
theorem agr_same {g k : Sv} (e : g.same k) : Agr g ↔ Agr k := by unfold Agr; rw [con_same e, resZ_same e]
theorem tdiv_zero {U : Int} {zs : List Int} (hU : 0 < U) {z : Int} (hz : z ∈ zs) : z.tdiv (gcdL U zs) = 0 ↔ z = 0 := by
  have hg := gcdL_pos zs U hU
  obtain ⟨k, hk⟩ := (gcdL_dvd zs U).2 z hz
  rw [tdiv_of hg hk]
  constructor
  · intro h; rw [hk, h, Int.mul_zero]
  · intro h
    rw [h] at hk
    rcases Int.mul_eq_zero.1 hk.symm with h1 | h1
    · omega
    · exact h1
theorem low_zero {U : Int} {zs : List Int} (hU : 0 < U) : (∀ y ∈ lowL U zs, y = 0) ↔ ∀ z ∈ zs, z = 0 := by
  constructor
  · intro h z hz
    exact (tdiv_zero hU hz).mp (h _ (List.mem_map.2 ⟨z, hz, rfl⟩))
  · intro h y hy
    obtain ⟨z, hz, rfl⟩ := List.mem_map.1 hy
    exact (tdiv_zero hU hz).mpr (h z hz)
theorem least_ex (P : Nat → Bool) (n : Nat) : (∀ k, k < n → P k = false) ∨ ∃ k0, k0 < n ∧ P k0 = true ∧ ∀ j, j < k0 → P j = false := by
  induction n with
  | zero => exact .inl fun k h => by omega
  | succ n ih =>
    rcases ih with h | ⟨k0, h1, h2, h3⟩
    · cases e : P n with
      | false =>
        refine .inl fun k hk => ?_
        by_cases e' : k = n
        · rw [e']; exact e
        · exact h k (by omega)
      | true => exact .inr ⟨n, by omega, e, h⟩
    · exact .inr ⟨k0, by omega, h2, h3⟩

set_option maxRecDepth 100000 in
set_option maxHeartbeats 4000000 in
theorem l10Agrees_any (G : Nat) (ty : TypeId) (g : Sv) (n0 : Nat) (w : World) (hG : w.heap[G]? = some (.cells #[.int .i64 g.p, .slice g.xa n0 g.xc] ty (0, 0))) (hr : RdSv w n0 g) (l0 : n0 ≤ 1048576) (b : Bool) (hb : b = true ↔ Agr g) :
    Calls Tryd.prog 71 #[.pointer (some ⟨G, 0, none⟩)] w fun e w' => e = .returned (.bool b) ∧ Below w.heap.size w w' := by
  by_cases hc : Con g
  · obtain ⟨-, -, -, hp⟩ := hc.bd
    have hU := unitOf_pos hc
    obtain ⟨lZ, bZ⟩ := resZ_bd hc
    obtain ⟨p, xa, xc, xs⟩ := g
    simp only at hp
    obtain ⟨m, rfl⟩ : ∃ m : Nat, p = m := ⟨p.toNat, hp.symm⟩
    have C1 := Lib.hid (l10Whole_any G ty ⟨(m : Int), xa, xc, xs⟩ n0 w hG hr l0 true (by simp [hc]))
    have SB := Lib.hid (hc.svb hG hr.r0)
    have e0 : n0 = xs.length := hr.len
    obtain ⟨D, hD⟩ : ∃ D, D = unitOf ⟨(m : Int), xa, xc, xs⟩ := ⟨_, rfl⟩
    obtain ⟨Z, hZ⟩ : ∃ Z, Z = resZ ⟨(m : Int), xa, xc, xs⟩ := ⟨_, rfl⟩
    have hb2 : b = true ↔ ∀ y ∈ lowL D Z, y = 0 := by
      rw [low_zero (by rw [hD]; exact hU.1), hb, hZ]
      exact ⟨fun h => h.2, fun h => ⟨hc, h⟩⟩
    rw [← hD] at hU
    rw [← hZ] at lZ
    have C2 := Lib.hid (fun wq (hq : SvB wq G ty m (m - 1) n0 xc xa xs) => l10Residuals_any G ty m (m - 1) n0 xc xa xs D Z wq hq (by rw [hD, unitOf_m]) hU (by rw [hZ, resZ_m, e0, hD, unitOf_m]))
    have HB := Lib.hid hb2
    have LN := lowL_len D Z
    clear hG hr hb hc e0 hZ bZ hD hb2
    obtain ⟨L, hL⟩ : ∃ L, L = lowL D Z := ⟨_, rfl⟩
    rw [← hL] at HB LN C2
    have lL : L.length ≤ 100 := by omega
    clear hL LN
    go_enter Tryd.func71, Tryd.ntmps71
    go_wp2_with fail
    refine C1.out.mono ?_
    rintro e w1 ⟨rfl, b1⟩
    have CC := Lib.hid (C2.out w1 (SB.out.later b1))
    have B1 := Lib.hid b1
    clear b1 C1 C2 SB
    go_wp2_with fail
    refine CC.out.mono ?_
    rintro e w2 ⟨u, rfl, o2, b2⟩
    have B2 : Hid (Below w.heap.size w w2) := B1.out.trans (b2.mono B1.out.size)
    have RU := Lib.hid o2.rd
    obtain ⟨a, cap, hu⟩ := o2.fitS
    subst hu
    obtain ⟨n, hn⟩ : ∃ n, n = L.length := ⟨_, rfl⟩
    rw [← hn] at RU ⊢
    have HN := Lib.hid hn
    rw [← hn] at lL
    clear b2 o2 CC B1 hn
    go_wp2
    go_loop [5] (fun iv => ∃ k : Nat, k ≤ n ∧ iv = .int .i64 k ∧ Hid (∀ y ∈ L.take k, y = 0)) (fun iv => n - (intOf iv).toNat)
    case atStart => exact ⟨0, by omega, rfl, fun y hy => by simp at hy⟩
    case round =>
      obtain ⟨k, hk, rfl, ha⟩ := hrel
      by_cases hlt : k < n
      · obtain ⟨z, hz⟩ : ∃ z, L[k]? = some z := ⟨_, List.getElem?_eq_getElem (by have := HN.out; omega)⟩
        obtain ⟨bb, off, rfl, c1⟩ := RU.out.atV k z hz
        have HZ := Lib.hid hz
        clear hz
        by_cases z0 : z = 0
        · subst z0
          have ha2 : Hid (∀ y ∈ L.take (k + 1), y = 0) := take_allV ha.out HZ.out rfl
          clear ha HZ
          go_wp2
          exact ⟨⟨k + 1, by omega, by go_num, ha2⟩, by simp only [intOf]; omega⟩
        · have zn : (z != 0) = true := by simpa using z0
          obtain rfl : b = false := b_false HB.out (fun h => z0 (h z (List.mem_of_getElem? HZ.out)))
          clear ha HZ HB
          go_wp2
          go_ret
          exact ⟨rfl, B2.out⟩
      · obtain rfl : k = n := by omega
        obtain rfl : b = true := HB.out.mpr (by have := ha.out; rwa [List.take_of_length_le (by have := HN.out; omega)] at this)
        clear ha HB
        go_wp2
        go_ret
        exact ⟨rfl, B2.out⟩
  · have C1 := Lib.hid (l10Whole_any G ty g n0 w hG hr l0 false (by simp [hc]))
    obtain rfl : b = false := b_false hb (fun h => hc h.1)
    clear hG hr hc hb
    go_enter Tryd.func71, Tryd.ntmps71
    go_wp2_with fail
    refine C1.out.mono ?_
    rintro e w1 ⟨rfl, b1⟩
    have B1 := Lib.hid b1
    clear b1 C1
    go_wp2
    go_ret
    exact ⟨rfl, B1.out⟩

theorem isZ_any (x : Int) (w : World) (b : Bool) (hb : b = true ↔ x = 0) : Calls Tryd.prog 103 #[.int .i64 x] w fun e w' => e = .returned (.bool b) ∧ w = w' := by
  have e : (x == 0) = b := by rw [Bool.eq_iff_iff, hb]; simp
  clear hb
  go_enter Tryd.func103, Tryd.ntmps103
  go_wp2
  go_ret
  exact ⟨rfl, rfl⟩
set_option maxRecDepth 100000 in
set_option maxHeartbeats 2000000 in
theorem everyZ_any (v : Value) (zs : List Int) (w : World) (h : RdI w v zs) (lz : zs.length ≤ 1000) (b : Bool) (hb : b = true ↔ ∀ z ∈ zs, z = 0) :
    Calls Tryd.prog 102 #[v, .func (Fn.func 103) #[] #[]] w fun e w' => e = .returned (.bool b) ∧ w = w' := by
  obtain ⟨a, cap, rfl, ra⟩ := id h
  obtain ⟨n, hn⟩ : ∃ n, n = zs.length := ⟨_, rfl⟩
  have H := Lib.hid h
  rw [← hn] at lz H
  rw [← hn]
  have HN := Lib.hid hn
  have HB := Lib.hid hb
  clear h ra hn hb
  go_enter Tryd.func102, Tryd.ntmps102
  go_wp2
  go_loop [6, 9] (fun _ i => ∃ k : Nat, k ≤ n ∧ i = .int .i64 k ∧ Hid (∀ z ∈ zs.take k, z = 0)) (fun _ i => n - (intOf i).toNat)
  case atStart => exact ⟨0, by omega, rfl, fun x hx => by simp at hx⟩
  case round =>
    obtain ⟨k, hk, rfl, ha⟩ := hrel
    by_cases hlt : k < n
    · obtain ⟨x, hx⟩ : ∃ x, zs[k]? = some x := ⟨_, List.getElem?_eq_getElem (by have := HN.out; omega)⟩
      obtain ⟨ba, oa, rfl, c1⟩ := H.out.atV k x hx
      have HX := Lib.hid hx
      clear hx
      by_cases hv : x = 0
      · have ha2 : Hid (∀ z ∈ zs.take (k + 1), z = 0) := take_allV ha.out HX.out hv
        go_wp2_with (go_at_call 103; refine (isZ_any _ _ true (by first | exact iff_of_true rfl hv | simp [hv])).mono ?_; rintro e w' ⟨rfl, rfl⟩)
        exact ⟨⟨k + 1, by omega, by go_num, ha2⟩, by simp only [intOf]; omega⟩
      · obtain rfl : b = false := b_false HB.out (fun hA => hv (hA x (List.mem_of_getElem? HX.out)))
        go_wp2_with (go_at_call 103; refine (isZ_any _ _ false (by simp; omega)).mono ?_; rintro e w' ⟨rfl, rfl⟩)
        go_ret
        exact ⟨rfl, rfl⟩
    · obtain rfl : k = n := by omega
      obtain rfl : b = true := HB.out.mpr (by have := ha.out; rwa [List.take_of_length_le (by have := HN.out; omega)] at this)
      go_wp2
      go_ret
      exact ⟨rfl, rfl⟩

set_option maxRecDepth 100000 in
set_option maxHeartbeats 4000000 in
theorem agrees_any (B rb m n0 xc : Nat) (xa : Option Addr) (bs : List Nat) (xs : List St) (D : Int) (w : World) (hM : Mx w B rb bs m (rowsP (m - 1) xs)) (hbl : bs.length = m) (hr : RdS 4 encSt w (.slice xa n0 xc) xs) (hc : Con ⟨(m : Int), xa, xc, xs⟩) (hD : D = det m (rowsP (m - 1) xs)) (b : Bool) (hb : b = true ↔ Agr ⟨(m : Int), xa, xc, xs⟩) :
    Calls Tryd.prog 74 #[.agg #[.int .i64 m, .slice xa n0 xc, .slice (some ⟨rb, 0, none⟩) m m, .int .i64 D]] w fun e w' => e = .returned (.bool b) ∧ Below w.heap.size w w' := by
  obtain ⟨hm, l8, ok, -⟩ := hc.facts (n0 := n0)
  have e0 : n0 = xs.length := RdSv.len (g := ⟨(m : Int), xa, xc, xs⟩) ⟨hr⟩
  have hU := unitOf_pos hc
  rw [unitOf_m, ← hD] at hU
  have BW : Below w.heap.size w (w.alloc (.cells #[.int .i64 m, .slice xa n0 xc, .slice (some ⟨rb, 0, none⟩) m m, .int .i64 D] 63)) := by go_grown
  have C1 := netResiduals_any B rb m n0 xc xa D bs xs (w.alloc (.cells #[.int .i64 m, .slice xa n0 xc, .slice (some ⟨rb, 0, none⟩) m m, .int .i64 D] 63)) (hM.later BW) hbl (hr.later BW) e0 (by omega) ok (by omega) (by unfold Bd; omega)
  have hb2 : b = true ↔ ∀ z ∈ errL D (solL m (rowsP (m - 1) xs) (rightTo m xs n0)) xs, z = 0 := by
    rw [hb]
    unfold Agr
    rw [resZ_m, ← hD, ← e0]
    exact ⟨fun h => h.2, fun h => ⟨hc, h⟩⟩
  have lz : (errL D (solL m (rowsP (m - 1) xs) (rightTo m xs n0)) xs).length ≤ 1000 := by rw [errL_len]; omega
  obtain ⟨Z, hZ⟩ : ∃ Z, Z = errL D (solL m (rowsP (m - 1) xs) (rightTo m xs n0)) xs := ⟨_, rfl⟩
  rw [← hZ] at C1 hb2 lz
  have C2 := Lib.hid (fun v w h => everyZ_any v Z w h lz b hb2)
  have CH := Lib.hid C1
  clear hM hbl hr hc hD hb ok e0 C1 BW hZ hb2
  go_enter Tryd.func74, Tryd.ntmps74
  go_wp2_with fail
  refine CH.out.mono ?_
  rintro e w1 ⟨u, rfl, o1, b1⟩
  have B1 : Hid (Below w.heap.size w w1) := Below.trans (by go_grown) (b1.mono (by simp only [World.size_alloc]; omega))
  have CC := Lib.hid (C2.out u w1 o1.rd)
  clear o1 b1 CH C2
  go_wp2_with fail
  refine CC.out.mono ?_
  rintro e w2 ⟨rfl, rfl⟩
  clear CC
  go_wp2
  go_ret
  exact ⟨rfl, B1.out⟩

set_option maxRecDepth 100000 in
set_option maxHeartbeats 4000000 in
theorem specBlu_no (g : Sv) (n0 : Nat) (w : World) (h : RdSv w n0 g) (l0 : n0 ≤ 1048576) (hno : ¬ (Con g ∧ ¬ Agr g)) :
    Calls Tryd.prog 40 #[(.agg #[.int .i64 g.p, .slice g.xa n0 g.xc])] w fun e w' => e = .returned (.tuple #[.int .i64 0, .bool false]) ∧ Below w.heap.size w w' := by
  have W2 : Hid (Below w.heap.size w (w.alloc (.cells #[.int .i64 g.p, .slice g.xa n0 g.xc] 26))) := by show Below _ _ _; go_grown
  obtain ⟨b1, h1⟩ := bool_ofV (Con g)
  have C1 := Lib.hid (l10Whole_any w.heap.size 26 g n0 (w.alloc (.cells #[.int .i64 g.p, .slice g.xa n0 g.xc] 26)) (heap_alloc_new w _) (h.later W2.out) l0 b1 h1)
  have C2 : Hid (∀ wq, b1 = true → Below w.heap.size w wq → wq.heap[w.heap.size]? = some (.cells #[.int .i64 g.p, .slice g.xa n0 g.xc] 26 (0, 0)) → Calls Tryd.prog 71 #[.pointer (some ⟨w.heap.size, 0, none⟩)] wq fun e w' => e = .returned (.bool true) ∧ Below wq.heap.size wq w') :=
    fun wq hb bl hG => l10Agrees_any w.heap.size 26 g n0 wq hG (h.later bl) l0 true (by
      have hc := h1.mp hb
      simp only [true_iff]
      exact Classical.byContradiction fun hA => hno ⟨hc, hA⟩)
  clear h hno h1
  go_enter Tryd.func40, Tryd.ntmps40
  go_wp2_with fail
  refine C1.out.mono ?_
  rintro e w2 ⟨rfl, bb2⟩
  have B2 : Hid (Below w.heap.size w w2) := W2.out.trans (bb2.mono (by simp only [World.size_alloc]; omega))
  have V2 := Lib.hid ((bb2.block w.heap.size (by simp)).trans (heap_alloc_new w (.cells #[.int .i64 g.p, .slice g.xa n0 g.xc] 26)))
  clear bb2 C1 W2
  cases b1 with
  | false =>
    clear C2 V2
    go_wp2
    go_ret2
    exact ⟨rfl, B2.out⟩
  | true =>
    have CC := Lib.hid (C2.out w2 rfl B2.out V2.out)
    clear C2 V2
    go_wp2_with fail
    refine CC.out.mono ?_
    rintro e w3 ⟨rfl, bb3⟩
    have B3 : Hid (Below w.heap.size w w3) := B2.out.trans (bb3.mono B2.out.size)
    clear bb3 CC
    go_wp2
    go_ret2
    exact ⟨rfl, B3.out⟩

set_option maxRecDepth 100000 in
set_option maxHeartbeats 8000000 in
theorem specBlu_yes (g : Sv) (n0 : Nat) (w : World) (h : RdSv w n0 g) (hc : Con g) (hA : ¬ Agr g) (P : Nat → Bool) (hP : ∀ k, P k = true ↔ Agr (dropB g k)) (K : Nat) (f : Bool) (hK : K ≤ n0) (hlow : ∀ j, j < K → P j = false) (hf : f = true → K < n0 ∧ P K = true) (hf2 : f = false → K = n0) :
    Calls Tryd.prog 40 #[(.agg #[.int .i64 g.p, .slice g.xa n0 g.xc])] w fun e w' => e = .returned (.tuple #[.int .i64 (if f = true then (K : Int) else 0), .bool f]) ∧ Below w.heap.size w w' := by
  have l8 : n0 ≤ 8 := by have := hc.1.n0; have := h.len; omega
  have W2 : Hid (Below w.heap.size w (w.alloc (.cells #[.int .i64 g.p, .slice g.xa n0 g.xc] 26))) := by show Below _ _ _; go_grown
  have C1 := Lib.hid (l10Whole_any w.heap.size 26 g n0 (w.alloc (.cells #[.int .i64 g.p, .slice g.xa n0 g.xc] 26)) (heap_alloc_new w _) (h.later W2.out) (by omega) true (by simp [hc]))
  have C2 : Hid (∀ wq, Below w.heap.size w wq → wq.heap[w.heap.size]? = some (.cells #[.int .i64 g.p, .slice g.xa n0 g.xc] 26 (0, 0)) → Calls Tryd.prog 71 #[.pointer (some ⟨w.heap.size, 0, none⟩)] wq fun e w' => e = .returned (.bool false) ∧ Below wq.heap.size wq w') :=
    fun wq bl hG => l10Agrees_any w.heap.size 26 g n0 wq hG (h.later bl) (by omega) false (by simp [hA])
  have C3 : Hid (∀ (k : Nat) (wx : World), k < n0 → Below w.heap.size w wx → wx.heap[w.heap.size]? = some (.cells #[.int .i64 g.p, .slice g.xa n0 g.xc] 26 (0, 0)) → Calls Tryd.prog 72 #[.pointer (some ⟨w.heap.size, 0, none⟩), .int .i64 k] wx fun e w' => ∃ u : Sv, u.same (dropB g k) ∧ e = .returned (.agg #[.int .i64 u.p, .slice u.xa (n0 - 1) u.xc]) ∧ OwnSv w' wx.heap.size w'.heap.size (n0 - 1) u ∧ Below wx.heap.size wx w') :=
    fun k wx hk bl hG => l10Drop_any w.heap.size 26 g n0 wx hG (h.later bl) l8 k hk
  have C4 : Hid (∀ (k : Nat) (u : Sv) (wx : World) (G : Nat), u.same (dropB g k) → RdSv wx (n0 - 1) u → wx.heap[G]? = some (.cells #[.int .i64 u.p, .slice u.xa (n0 - 1) u.xc] 26 (0, 0)) → Calls Tryd.prog 71 #[.pointer (some ⟨G, 0, none⟩)] wx fun e w' => e = .returned (.bool (P k)) ∧ Below wx.heap.size wx w') :=
    fun k u wx G hs hu hG => l10Agrees_any G 26 u (n0 - 1) wx hG hu (by omega) (P k) ((hP k).trans (agr_same hs).symm)
  have HL := Lib.hid hlow
  have HF := Lib.hid hf
  have HF2 := Lib.hid hf2
  obtain ⟨R, hR⟩ : ∃ R : Int, R = if f = true then (K : Int) else 0 := ⟨_, rfl⟩
  have HR := Lib.hid hR
  rw [← hR]
  clear h hc hA hP hlow hf hf2 hR
  go_enter Tryd.func40, Tryd.ntmps40
  go_wp2_with fail
  refine C1.out.mono ?_
  rintro e w2 ⟨rfl, bb2⟩
  have B2 : Hid (Below w.heap.size w w2) := W2.out.trans (bb2.mono (by simp only [World.size_alloc]; omega))
  have V2 := Lib.hid ((bb2.block w.heap.size (by simp)).trans (heap_alloc_new w (.cells #[.int .i64 g.p, .slice g.xa n0 g.xc] 26)))
  have CC := Lib.hid (C2.out w2 B2.out V2.out)
  clear bb2 C1 C2 W2
  go_wp2_with fail
  refine CC.out.mono ?_
  rintro e w3 ⟨rfl, bb3⟩
  have B3 : Hid (Below w.heap.size w w3) := B2.out.trans (bb3.mono B2.out.size)
  have lw2 : w.heap.size < w2.heap.size := (Array.getElem?_eq_some_iff.1 V2.out).1
  have V3 := Lib.hid ((bb3.block w.heap.size lw2).trans V2.out)
  clear bb3 CC V2 B2 lw2
  go_wp2
  go_loopw [4, 5] (fun iv _ wr => ∃ k : Nat, k ≤ K ∧ iv = .int .i64 k ∧ Hid (wr.heap[w.heap.size]? = some (.cells #[.int .i64 g.p, .slice g.xa n0 g.xc] 26 (0, 0))) ∧ Hid (Below w.heap.size w wr)) (fun iv _ _ => K - (intOf iv).toNat)
  case atStart => exact ⟨0, by omega, rfl, V3, B3⟩
  case round =>
    obtain ⟨k, hk, rfl, VK, BK⟩ := hrel
    clear V3 B3
    obtain ⟨⟨p0, p1⟩, -, lw⟩ := boxedSv_at VK.out
    by_cases hlt : k < n0
    · have CD := Lib.hid (C3.out k wr hlt BK.out VK.out)
      go_wp2_with fail
      refine CD.out.mono ?_
      rintro e w4 ⟨u, hs, rfl, ou, b4⟩
      have z4 := b4.size
      have B4 : Hid (Below w.heap.size w w4) := BK.out.trans (b4.mono BK.out.size)
      have V4 := Lib.hid ((b4.block w.heap.size lw).trans VK.out)
      have AB : Below w4.heap.size w4 (w4.alloc (.cells #[.int .i64 u.p, .slice u.xa (n0 - 1) u.xc] 26)) := by go_grown
      have B5 : Hid (Below w.heap.size w (w4.alloc (.cells #[.int .i64 u.p, .slice u.xa (n0 - 1) u.xc] 26))) := B4.out.trans (AB.mono B4.out.size)
      have V5 : Hid ((w4.alloc (.cells #[.int .i64 u.p, .slice u.xa (n0 - 1) u.xc] 26)).heap[w.heap.size]? = some (.cells #[.int .i64 g.p, .slice g.xa n0 g.xc] 26 (0, 0))) := (AB.block _ (by omega)).trans V4.out
      have CE := Lib.hid (C4.out k u (w4.alloc (.cells #[.int .i64 u.p, .slice u.xa (n0 - 1) u.xc] 26)) w4.heap.size hs (ou.rd.later AB) (heap_alloc_new w4 _))
      have lw5 : w.heap.size < (w4.alloc (.cells #[.int .i64 u.p, .slice u.xa (n0 - 1) u.xc] 26)).heap.size := by simp; omega
      clear b4 CD VK BK p0 p1 hs ou AB V4 B4
      go_upto_region 7 with (fail)
      generalize w4.alloc (.cells #[.int .i64 u.p, .slice u.xa (n0 - 1) u.xc] 26) = w5 at *
      by_cases hkK : k = K
      · subst hkK
        have ft : f = true := by
          cases f with
          | true => rfl
          | false => have := HF2.out rfl; omega
        subst ft
        have pk := (HF.out rfl).2
        rw [pk] at CE
        obtain rfl : R = (k : Int) := by rw [HR.out]; simp
        clear HF HF2 HL HR pk C3 C4
        go_wp2_with fail
        refine CE.out.mono ?_
        rintro e w6 ⟨rfl, b6⟩
        have B6 : Hid (Below w.heap.size w w6) := B5.out.trans (b6.mono B5.out.size)
        clear b6 CE
        go_wp2
        go_ret2
        exact ⟨rfl, B6.out⟩
      · have pk := HL.out k (by omega)
        rw [pk] at CE
        clear pk
        go_wp2_with fail
        refine CE.out.mono ?_
        rintro e w6 ⟨rfl, b6⟩
        have B6 : Hid (Below w.heap.size w w6) := B5.out.trans (b6.mono B5.out.size)
        have V6 := Lib.hid ((b6.block w.heap.size lw5).trans V5.out)
        clear b6 CE B5 V5
        go_wp2
        exact ⟨⟨k + 1, by omega, by go_num, V6, B6⟩, by simp only [intOf]; omega⟩
    · have ff : f = false := by
        cases f with
        | false => rfl
        | true => have := (HF.out rfl).1; omega
      subst ff
      obtain rfl : R = 0 := by rw [HR.out]; simp
      clear HF HF2 HL HR C3 C4
      go_wp2
      go_ret2
      exact ⟨rfl, BK.out⟩

set_option maxRecDepth 100000 in
set_option maxHeartbeats 8000000 in
theorem implBlu_bad (g : Sv) (n0 : Nat) (w : World) (hr : RdSv w n0 g) (l0 : n0 ≤ 1048576) (hT : TSv w) (hc : ¬ Con g) :
    Calls Tryd.prog 41 #[(.agg #[.int .i64 g.p, .slice g.xa n0 g.xc])] w fun e w' => e = .returned (.tuple #[.int .i64 0, .bool false]) ∧ Below w.heap.size w w' := by
  have BW : Below w.heap.size w (w.alloc (.cells #[.int .i64 g.p, .slice g.xa n0 g.xc] 26)) := by go_grown
  have C := Lib.hid (netOf_bad g n0 (w.alloc (.cells #[.int .i64 g.p, .slice g.xa n0 g.xc] 26)) (hr.later BW) l0 (hT.later BW) hc)
  clear hr hT hc BW
  go_enter Tryd.func41, Tryd.ntmps41
  go_wp2_with fail
  refine C.out.mono ?_
  rintro e w2 ⟨⟨a, rfl⟩, b2⟩
  have B2 : Hid (Below w.heap.size w w2) := Below.trans (by go_grown) (b2.mono (by simp only [World.size_alloc]; omega))
  have BE : Hid (Below w.heap.size w (w2.alloc (.cells #[.int .i64 0, .slice none 0 0, .slice none 0 0, .int .i64 0] 63))) := B2.out.alloc B2.out.size _
  clear b2 C
  go_wp2
  go_ret2
  exact ⟨rfl, BE.out⟩

set_option maxRecDepth 100000 in
set_option maxHeartbeats 16000000 in
theorem implBlu_con (m n0 xc : Nat) (xa : Option Addr) (xs : List St) (w : World) (hr : RdS 4 encSt w (.slice xa n0 xc) xs) (cp : n0 ≤ xc) (hT : TSv w) (hc : Con ⟨(m : Int), xa, xc, xs⟩) (ag : Bool) (hag : ag = true ↔ Agr ⟨(m : Int), xa, xc, xs⟩) (P : Nat → Bool) (hP : ∀ k, P k = true ↔ Agr (dropB ⟨(m : Int), xa, xc, xs⟩ k)) (K : Nat) (f : Bool) (hK : K ≤ n0) (hlow : ∀ j, j < K → P j = false) (hf : f = true → K < n0 ∧ P K = true) (hf2 : f = false → K = n0) (R : Int) (F : Bool) (hR : R = if ag = true then 0 else if f = true then (K : Int) else 0) (hF : F = if ag = true then false else f) :
    Calls Tryd.prog 41 #[.agg #[.int .i64 m, .slice xa n0 xc]] w fun e w' => e = .returned (.tuple #[.int .i64 R, .bool F]) ∧ Below w.heap.size w w' := by
  have e0 : n0 = xs.length := RdSv.len (g := ⟨(m : Int), xa, xc, xs⟩) ⟨hr⟩
  have l8 : n0 ≤ 8 := by have := hc.1.n0; simp only at this; omega
  have BW : Below w.heap.size w (w.alloc (.cells #[.int .i64 m, .slice xa n0 xc] 26)) := by go_grown
  have C := Lib.hid (netOf_ok m n0 xc xa xs (w.alloc (.cells #[.int .i64 m, .slice xa n0 xc] 26)) (hr.later BW) (hT.later BW) hc)
  have W1 : Hid ((w.alloc (.cells #[.int .i64 m, .slice xa n0 xc] 26)).heap[w.heap.size]? = some (.cells #[.int .i64 m, .slice xa n0 xc] 26 (0, 0))) := heap_alloc_new w _
  have W3 : (w.alloc (.cells #[.int .i64 m, .slice xa n0 xc] 26)).heap.size = w.heap.size + 1 := by simp
  have CA : Hid (∀ wq B rb bs D, Below w.heap.size w wq → Mx wq B rb bs m (rowsP (m - 1) xs) → bs.length = m → D = det m (rowsP (m - 1) xs) → Calls Tryd.prog 74 #[.agg #[.int .i64 m, .slice xa n0 xc, .slice (some ⟨rb, 0, none⟩) m m, .int .i64 D]] wq fun e w' => e = .returned (.bool ag) ∧ Below wq.heap.size wq w') :=
    fun wq B rb bs D bl mx hbl hD => agrees_any B rb m n0 xc xa bs xs D wq mx hbl (hr.later bl) hc hD ag hag
  have CW : Hid (∀ (k : Nat) (wx : World), k < n0 → Below w.heap.size w wx → Calls Tryd.prog 75 #[.agg #[.int .i64 m, .slice xa n0 xc], .int .i64 k] wx fun e w' => ∃ u : Sv, u.same (dropB ⟨(m : Int), xa, xc, xs⟩ k) ∧ e = .returned (.agg #[.int .i64 u.p, .slice u.xa (n0 - 1) u.xc]) ∧ OwnSv w' wx.heap.size w'.heap.size (n0 - 1) u ∧ Below wx.heap.size wx w') :=
    fun k wx hk bl => without_any ⟨(m : Int), xa, xc, xs⟩ n0 wx ⟨hr.later bl⟩ cp l8 k hk
  have CN : Hid (∀ (k : Nat) (u : Sv) (wx : World), u.same (dropB ⟨(m : Int), xa, xc, xs⟩ k) → Below w.heap.size w wx → RdSv wx (n0 - 1) u → Calls Tryd.prog 73 #[.agg #[.int .i64 u.p, .slice u.xa (n0 - 1) u.xc]] wx fun e w' => Below wx.heap.size wx w' ∧
      ((P k = false ∧ ∃ a, e = .returned (.tuple #[.agg #[.int .i64 0, .slice none 0 0, .slice none 0 0, .int .i64 0], .iface 136 (.pointer (some a))])) ∨
       (∃ (rb : Nat) (D : Int), e = .returned (.tuple #[.agg #[.int .i64 m, .slice u.xa (n0 - 1) u.xc, .slice (some ⟨rb, 0, none⟩) m m, .int .i64 D], .nilIface]) ∧ ∀ wq, Below w'.heap.size w' wq → Calls Tryd.prog 74 #[.agg #[.int .i64 m, .slice u.xa (n0 - 1) u.xc, .slice (some ⟨rb, 0, none⟩) m m, .int .i64 D]] wq fun e w' => e = .returned (.bool (P k)) ∧ Below wq.heap.size wq w'))) := by
    intro k u wx hs bl hu
    obtain ⟨p, ua, uc, us⟩ := u
    have hp : p = (m : Int) := hs.1
    subst hp
    by_cases hcd : Con ⟨(m : Int), ua, uc, us⟩
    · refine (netOf_ok m (n0 - 1) uc ua us wx hu.r0 (hT.later bl) hcd).mono ?_
      rintro e w' ⟨rb, bs, rfl, hbl, mx, b⟩
      refine ⟨b, .inr ⟨rb, _, rfl, fun wq bq => ?_⟩⟩
      exact agrees_any _ rb m (n0 - 1) uc ua bs us _ wq (mx.later bq) hbl ((hu.r0.later b).later bq) hcd rfl (P k) ((hP k).trans (agr_same hs).symm)
    · refine (netOf_bad ⟨(m : Int), ua, uc, us⟩ (n0 - 1) wx hu (by omega) (hT.later bl) hcd).mono ?_
      rintro e w' ⟨⟨a, rfl⟩, b⟩
      refine ⟨b, .inl ⟨?_, a, rfl⟩⟩
      cases h : P k with
      | false => rfl
      | true => exact absurd ((agr_same hs).mpr ((hP k).mp h)).1 hcd
  have HL := Lib.hid hlow
  have HF := Lib.hid hf
  have HF2 := Lib.hid hf2
  have HR := Lib.hid hR
  have HFF := Lib.hid hF
  obtain ⟨D, hD⟩ : ∃ D, D = det m (rowsP (m - 1) xs) := ⟨_, rfl⟩
  rw [← hD] at C
  have HD := Lib.hid hD
  clear hr hT hc hag hP hlow hf hf2 hR hF hD e0 BW
  go_enter Tryd.func41, Tryd.ntmps41
  go_wp2_with fail
  refine C.out.mono ?_
  rintro e w2 ⟨rb, bs, rfl, hbl, mx, b2⟩
  have B2 : Hid (Below w.heap.size w w2) := Below.trans (by go_grown) (b2.mono (by omega))
  have V2 := Lib.hid ((b2.block w.heap.size (by omega)).trans W1.out)
  have z2 := b2.size
  have AB : Below w2.heap.size w2 (w2.alloc (.cells #[.int .i64 m, .slice xa n0 xc, .slice (some ⟨rb, 0, none⟩) m m, .int .i64 D] 63)) := by go_grown
  have B3 : Hid (Below w.heap.size w (w2.alloc (.cells #[.int .i64 m, .slice xa n0 xc, .slice (some ⟨rb, 0, none⟩) m m, .int .i64 D] 63))) := B2.out.trans (AB.mono B2.out.size)
  have V3 : Hid ((w2.alloc (.cells #[.int .i64 m, .slice xa n0 xc, .slice (some ⟨rb, 0, none⟩) m m, .int .i64 D] 63)).heap[w.heap.size]? = some (.cells #[.int .i64 m, .slice xa n0 xc] 26 (0, 0))) := (AB.block _ (by omega)).trans V2.out
  have CG := Lib.hid (CA.out (w2.alloc (.cells #[.int .i64 m, .slice xa n0 xc, .slice (some ⟨rb, 0, none⟩) m m, .int .i64 D] 63)) _ rb bs D B3.out (mx.later AB) hbl HD.out)
  have z3 : (w2.alloc (.cells #[.int .i64 m, .slice xa n0 xc, .slice (some ⟨rb, 0, none⟩) m m, .int .i64 D] 63)).heap.size = w2.heap.size + 1 := by simp
  clear b2 C mx CA AB B2 V2 W1
  go_wp2_with fail
  refine CG.out.mono ?_
  rintro e w4 ⟨rfl, b4⟩
  have B4 : Hid (Below w.heap.size w w4) := B3.out.trans (b4.mono B3.out.size)
  have V4 := Lib.hid ((b4.block w.heap.size (by omega)).trans V3.out)
  clear b4 CG B3 V3 z3 W3
  cases ag with
  | true =>
    obtain rfl : R = 0 := by rw [HR.out]; simp
    obtain rfl : F = false := by rw [HFF.out]; simp
    clear HL HF HF2 HR HFF CW CN
    go_wp2
    go_ret2
    exact ⟨rfl, B4.out⟩
  | false =>
    obtain ⟨⟨p0, p1⟩, -, -⟩ := boxedSv_at V4.out
    go_wp2
    go_loopw [6, 7, 8, 23] (fun _ _ _ iv wr => ∃ k : Nat, k ≤ K ∧ iv = .int .i64 k ∧ Hid (wr.heap[w.heap.size]? = some (.cells #[.int .i64 m, .slice xa n0 xc] 26 (0, 0))) ∧ Hid (Below w.heap.size w wr)) (fun _ _ _ iv _ => K - (intOf iv).toNat)
    case atStart => exact ⟨0, by omega, rfl, V4, B4⟩
    case round =>
      obtain ⟨k, hk, rfl, VK, BK⟩ := hrel
      clear V4 B4 p0 p1
      obtain ⟨⟨p0, p1⟩, -, lw⟩ := boxedSv_at VK.out
      by_cases hlt : k < n0
      · have CD := Lib.hid (CW.out k wr hlt BK.out)
        go_wp2_with fail
        refine CD.out.mono ?_
        rintro e w5 ⟨u, hs, rfl, ou, b5⟩
        have B5 : Hid (Below w.heap.size w w5) := BK.out.trans (b5.mono BK.out.size)
        have V5 := Lib.hid ((b5.block w.heap.size lw).trans VK.out)
        have lw5 : w.heap.size < w5.heap.size := (Array.getElem?_eq_some_iff.1 V5.out).1
        have CE := Lib.hid (CN.out k u w5 hs B5.out ou.rd)
        clear b5 CD VK BK p0 p1 hs ou
        go_wp2_with fail
        refine CE.out.mono ?_
        rintro e w6 ⟨b6, h6⟩
        have B6 : Hid (Below w.heap.size w w6) := B5.out.trans (b6.mono B5.out.size)
        have V6 := Lib.hid ((b6.block w.heap.size lw5).trans V5.out)
        have lw6 : w.heap.size < w6.heap.size := (Array.getElem?_eq_some_iff.1 V6.out).1
        clear b6 CE B5 V5
        rcases h6 with ⟨pk, a, rfl⟩ | ⟨rb2, D2, rfl, hA⟩
        · have kK : k ≠ K := by
            rintro rfl
            cases f with
            | true => have := (HF.out rfl).2; rw [pk] at this; cases this
            | false => have := HF2.out rfl; omega
          have AB : Below w6.heap.size w6 (w6.alloc (.cells #[.int .i64 0, .slice none 0 0, .slice none 0 0, .int .i64 0] 63)) := by go_grown
          have B7 : Hid (Below w.heap.size w (w6.alloc (.cells #[.int .i64 0, .slice none 0 0, .slice none 0 0, .int .i64 0] 63))) := B6.out.trans (AB.mono B6.out.size)
          have V7 : Hid ((w6.alloc (.cells #[.int .i64 0, .slice none 0 0, .slice none 0 0, .int .i64 0] 63)).heap[w.heap.size]? = some (.cells #[.int .i64 m, .slice xa n0 xc] 26 (0, 0))) := (AB.block _ lw6).trans V6.out
          clear AB B6 V6 pk
          go_wp2
          exact ⟨⟨k + 1, by omega, by go_num, V7, B7⟩, by simp only [intOf]; omega⟩
        · have AB : Below w6.heap.size w6 (w6.alloc (.cells #[.int .i64 m, .slice u.xa (n0 - 1) u.xc, .slice (some ⟨rb2, 0, none⟩) m m, .int .i64 D2] 63)) := by go_grown
          have B7 : Hid (Below w.heap.size w (w6.alloc (.cells #[.int .i64 m, .slice u.xa (n0 - 1) u.xc, .slice (some ⟨rb2, 0, none⟩) m m, .int .i64 D2] 63))) := B6.out.trans (AB.mono B6.out.size)
          have V7 : Hid ((w6.alloc (.cells #[.int .i64 m, .slice u.xa (n0 - 1) u.xc, .slice (some ⟨rb2, 0, none⟩) m m, .int .i64 D2] 63)).heap[w.heap.size]? = some (.cells #[.int .i64 m, .slice xa n0 xc] 26 (0, 0))) := (AB.block _ lw6).trans V6.out
          have lw7 : w.heap.size < (w6.alloc (.cells #[.int .i64 m, .slice u.xa (n0 - 1) u.xc, .slice (some ⟨rb2, 0, none⟩) m m, .int .i64 D2] 63)).heap.size := by simp; omega
          have CF := Lib.hid (hA _ AB)
          clear AB B6 V6 hA
          by_cases hkK : k = K
          · subst hkK
            have ft : f = true := by
              cases f with
              | true => rfl
              | false => have := HF2.out rfl; omega
            subst ft
            have pk := (HF.out rfl).2
            rw [pk] at CF
            obtain rfl : R = (k : Int) := by rw [HR.out]; simp
            obtain rfl : F = true := by rw [HFF.out]; simp
            clear HF HF2 HL HR HFF pk CW CN
            go_wp2_with fail
            refine CF.out.mono ?_
            rintro e w8 ⟨rfl, b8⟩
            have B8 : Hid (Below w.heap.size w w8) := B7.out.trans (b8.mono B7.out.size)
            clear b8 CF B7
            go_wp2
            go_ret2
            exact ⟨rfl, B8.out⟩
          · have pk := HL.out k (by omega)
            rw [pk] at CF
            clear pk
            go_wp2_with fail
            refine CF.out.mono ?_
            rintro e w8 ⟨rfl, b8⟩
            have B8 : Hid (Below w.heap.size w w8) := B7.out.trans (b8.mono B7.out.size)
            have V8 := Lib.hid ((b8.block w.heap.size lw7).trans V7.out)
            clear b8 CF B7 V7
            go_wp2
            exact ⟨⟨k + 1, by omega, by go_num, V8, B8⟩, by simp only [intOf]; omega⟩
      · have ff : f = false := by
          cases f with
          | false => rfl
          | true => have := (HF.out rfl).1; omega
        subst ff
        obtain rfl : R = 0 := by rw [HR.out]; simp
        obtain rfl : F = false := by rw [HFF.out]; simp
        clear HF HF2 HL HR HFF CW CN
        go_wp2
        go_ret2
        exact ⟨rfl, BK.out⟩
theorem exBlunderIn (g0 : Sv) (n0 : Nat) (e0 : n0 = g0.x.length) (lt : (n0 : Int) ≤ 1048576) : ∃ (r0 : Int) (r1 : Bool),
    Hid (∀ (w : World) (k0 : Sv), TSv w → k0.same g0 → k0.caps n0 → RdSv w n0 k0 → Calls Tryd.prog 40 #[(.agg #[.int .i64 k0.p, .slice k0.xa n0 k0.xc])] w fun e w' => e = .returned (.tuple #[.int .i64 r0, .bool r1]) ∧ Below w.heap.size w w') ∧
    Hid (∀ (w : World) (k0 : Sv), TSv w → k0.same g0 → k0.caps n0 → RdSv w n0 k0 → Calls Tryd.prog 41 #[(.agg #[.int .i64 k0.p, .slice k0.xa n0 k0.xc])] w fun e w' => e = .returned (.tuple #[.int .i64 r0, .bool r1]) ∧ Below w.heap.size w w') := by
  have l0 : n0 ≤ 1048576 := by omega
  by_cases hc : Con g0
  · obtain ⟨b1, b2, b3, hp⟩ := hc.bd
    obtain ⟨ag, hag⟩ := bool_ofV (Agr g0)
    obtain ⟨P, hP⟩ : ∃ P : Nat → Bool, ∀ k, P k = true ↔ Agr (dropB g0 k) := by
      classical
      exact ⟨fun k => decide (Agr (dropB g0 k)), fun k => by simp⟩
    obtain ⟨K, f, hK, hlow, hf, hf2⟩ : ∃ (K : Nat) (f : Bool), K ≤ n0 ∧ (∀ j, j < K → P j = false) ∧ (f = true → K < n0 ∧ P K = true) ∧ (f = false → K = n0) := by
      rcases least_ex P n0 with h | ⟨k0, h1, h2, h3⟩
      · exact ⟨n0, false, Nat.le_refl _, h, (fun h => (by cases h)), fun _ => rfl⟩
      · exact ⟨k0, true, by omega, h3, (fun _ => ⟨h1, h2⟩), (fun h => (by cases h))⟩
    obtain ⟨R, hR⟩ : ∃ R : Int, R = if ag = true then 0 else if f = true then (K : Int) else 0 := ⟨_, rfl⟩
    obtain ⟨F, hF⟩ : ∃ F : Bool, F = if ag = true then false else f := ⟨_, rfl⟩
    refine ⟨R, F, fun w k0 hT s cp h => ?_, fun w k0 hT s cp h => ?_⟩
    · have hc' := (con_same s).mpr hc
      cases ag with
      | true =>
        have hA : Agr k0 := (agr_same s).mpr (hag.mp rfl)
        obtain rfl : R = 0 := by rw [hR]; simp
        obtain rfl : F = false := by rw [hF]; simp
        exact specBlu_no k0 n0 w h l0 (fun q => q.2 hA)
      | false =>
        have hA : ¬ Agr k0 := fun q => by have := hag.mpr ((agr_same s).mp q); cases this
        obtain rfl : R = if f = true then (K : Int) else 0 := by rw [hR]; simp
        obtain rfl : F = f := by rw [hF]; simp
        exact specBlu_yes k0 n0 w h hc' hA P (fun k => (hP k).trans (agr_same (dropB_same s k)).symm) K F hK hlow hf hf2
    · obtain ⟨p, xa, xc, xs⟩ := k0
      have s1 : p = g0.p := s.1
      rw [← hp] at s1
      subst s1
      exact implBlu_con g0.p.toNat n0 xc xa xs w h.r0 cp hT ((con_same s).mpr hc) ag (hag.trans (agr_same s).symm) P (fun k => (hP k).trans (agr_same (dropB_same s k)).symm) K f hK hlow hf hf2 R F hR hF
  · exact ⟨0, false, fun w k0 hT s cp h => specBlu_no k0 n0 w h l0 (fun q => hc ((con_same s).mp q.1)), fun w k0 hT s cp h => implBlu_bad k0 n0 w h l0 hT (fun q => hc ((con_same s).mp q))⟩
end Go.Proofs.YtcmocilojloolaaDoor
