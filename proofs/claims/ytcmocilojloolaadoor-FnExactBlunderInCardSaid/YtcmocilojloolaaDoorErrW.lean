/- By how much sights differ from heights: of the program. -/
import Derived.Test.YtcmocilojloolaaDoorSurvM
import Derived.Test.YtcmocilojloolaaDoorPart
import Derived.BigRegion
import Derived.Deep.DeepCutAuto
namespace Go.Proofs.YtcmocilojloolaaDoor
open Go.ChangeShapes Go.WideShapes Go.ChangeAt Go.RowKit
set_option linter.unusedVariables false
set_option linter.unusedSimpArgs false

/-- By how much the Rise of a sight is greater than with some heights, all of them multiples of 1 / unit. -/
def errOf (unit : Int) (hs : List Int) (x : St) : Int := unit * x.r - hs.getD x.t.toNat 0 + hs.getD x.f.toNat 0
def errL (unit : Int) (hs : List Int) (xs : List St) : List Int := xs.map (errOf unit hs)
theorem errL_len (unit : Int) (hs : List Int) (xs : List St) : (errL unit hs xs).length = xs.length := by simp [errL]
theorem errL_get {unit : Int} {hs : List Int} {xs : List St} {k : Nat} {x : St} (h : xs[k]? = some x) : (errL unit hs xs)[k]? = some (errOf unit hs x) := by simp [errL, h]

theorem mul_bnd {a b A B : Int} (h1 : -A ≤ a) (h2 : a ≤ A) (h3 : -B ≤ b) (h4 : b ≤ B) : -(A * B) ≤ a * b ∧ a * b ≤ A * B := by
  have hA : 0 ≤ A := by omega
  have hB : 0 ≤ B := by omega
  have e1 : 0 ≤ (A - a) * (B + b) := Int.mul_nonneg (by omega) (by omega)
  have e2 : 0 ≤ (A + a) * (B - b) := Int.mul_nonneg (by omega) (by omega)
  have e3 : 0 ≤ (A - a) * (B - b) := Int.mul_nonneg (by omega) (by omega)
  have e4 : 0 ≤ (A + a) * (B + b) := Int.mul_nonneg (by omega) (by omega)
  constructor <;> grind

theorem RdI.atV {w : World} {a : Option Addr} {n cap : Nat} {zs : List Int} (h : RdI w (.slice a n cap) zs) (i : Nat) (x : Int) (hx : zs[i]? = some x) :
    ∃ b off, a = some ⟨b, off, none⟩ ∧ w.cell? ⟨b, off + i, none⟩ = some (.int .i64 x) := by
  obtain ⟨a', c', hv, h2⟩ := h
  simp only [Value.slice.injEq] at hv
  obtain ⟨rfl, -, -⟩ := hv
  obtain ⟨b, off, rfl, hc⟩ := h2.resolve_left (by intro e; rw [e] at hx; simp at hx)
  exact ⟨b, off, rfl, hc i x hx⟩

set_option maxRecDepth 100000 in
set_option maxHeartbeats 8000000 in
theorem errorsWith_any (n n0 : Nat) (xa : Option Addr) (xc : Nat) (xs : List St) (v : Value) (hs : List Int) (unit : Int) (w : World) (hr : RdS 4 encSt w (.slice xa n0 xc) xs) (e0 : n0 = xs.length) (l8 : n0 ≤ 8) (ok : ∀ x ∈ xs, OkSt n x) (hv : RdI w v hs) (hl : hs.length = n) (hn : n ≤ 8)
    (hu : -10000000000000 ≤ unit ∧ unit ≤ 10000000000000) (hh : ∀ h ∈ hs, -1000000000000000 ≤ h ∧ h ≤ 1000000000000000) :
    Calls Tryd.prog 50 #[.agg #[.int .i64 n, .slice xa n0 xc], v, .int .i64 unit] w fun e w' => ∃ u, e = .returned u ∧ OwnI w' w.heap.size u (errL unit hs xs) ∧ Below w.heap.size w w' := by
  obtain ⟨i0, hi, hz0, hz1, hz2⟩ := info_parts info_i64
  obtain ⟨va, vc, rfl, -⟩ := id hv
  rw [hl] at hv ⊢
  have H := Lib.hid hr
  have HV := Lib.hid hv
  have E0 := Lib.hid e0
  have HL := Lib.hid hl
  have OK := Lib.hid ok
  have HH := Lib.hid hh
  have LE : Hid ((errL unit hs xs).length = n0) := by show _ = _; rw [errL_len]; exact e0.symm
  have W1 : Hid ((w.alloc (.cells #[.int .i64 n, .slice xa n0 xc] 26)).heap[w.heap.size]? = some (.cells #[.int .i64 n, .slice xa n0 xc] 26 (0, 0))) := heap_alloc_new w _
  have W2 : Hid (Below w.heap.size w (w.alloc (.cells #[.int .i64 n, .slice xa n0 xc] 26))) := by show Below _ _ _; go_grown
  have W3 : (w.alloc (.cells #[.int .i64 n, .slice xa n0 xc] 26)).heap.size = w.heap.size + 1 := by simp
  clear hr hv e0 hl ok hh
  go_enter Tryd.func50, Tryd.ntmps50
  go_upto_region 1 with (fail)
  generalize w.alloc (.cells #[.int .i64 n, .slice xa n0 xc] 26) = w0 at *
  obtain ⟨⟨p0, p1⟩, -, -⟩ := boxedSv_at W1.out
  go_wp2_with (first | (at_make; refine wpList_make_full _ rfl _ _ _ rfl w0.heap.size 2 i0 (.int .i64 0) 1 Tryd.underlying28 hi hz0 hz1 .i64 .i64 _ _ n0 rfl rfl rfl rfl ?b2 ?b3 (Nat.le_refl _) ?_) | go_in)
  case b2 => rw [hz2]; omega
  case b3 => unfold maxLen; omega
  intro w1 hown hg
  rw [toList_madeCells_one] at hown
  obtain ⟨rb, hrb⟩ : ∃ rb, rb = w.heap.size + 1 := ⟨_, rfl⟩
  rw [← hrb] at hown ⊢
  have O1 : Hid (OwnI w1 rb (.slice (some ⟨rb, 0, none⟩) n0 n0) (part (errL unit hs xs) n0 0)) := part_made hown
  have B1 : Hid (Below w0.heap.size w0 w1) := (Below.refl _ _).grown hg (Nat.le_refl _) (fun k h => by cases h)
  have V1 := Lib.hid ((B1.out.block w.heap.size (by omega)).trans W1.out)
  have V2 : Hid (Below w.heap.size w w1) := W2.out.trans (B1.out.mono (by omega))
  have rl : w.heap.size < rb := by omega
  clear hown hg B1 W1 W2 W3 hrb p0 p1
  obtain ⟨⟨p0, p1⟩, -, -⟩ := boxedSv_at V1.out
  go_wp2
  go_loopw [17] (fun i wr => ∃ k : Nat, k ≤ n0 ∧ i = .int .i64 k ∧ Hid (OwnI wr rb (.slice (some ⟨rb, 0, none⟩) n0 n0) (part (errL unit hs xs) n0 k)) ∧ Hid (Below w.heap.size w wr)) (fun i _ => n0 - (intOf i).toNat)
  case atStart => exact ⟨0, by omega, rfl, O1.out, V2.out⟩
  case round =>
    obtain ⟨k, hk, rfl, ho, B⟩ := hrel
    clear O1 V1 V2 p0 p1
    by_cases hlt : k < n0
    · obtain ⟨x, hx⟩ : ∃ x, xs[k]? = some x := ⟨_, List.getElem?_eq_getElem (by have := E0.out; omega)⟩
      have okx := OK.out x (List.mem_of_getElem? hx)
      obtain ⟨ba, oa, ea, u0, u1, u2, u3⟩ := (H.out.later B.out).at4g k x hx _ _ _ _ rfl
      have EG := Lib.hid (errL_get (unit := unit) (hs := hs) hx)
      obtain ⟨f, t, r, v⟩ := x
      obtain ⟨F, hf⟩ : ∃ F : Nat, f = F := ⟨f.toNat, by have := okx.f0; simp only at this; omega⟩
      obtain ⟨T, ht⟩ : ∃ T : Nat, t = T := ⟨t.toNat, by have := okx.t0; simp only at this; omega⟩
      subst hf
      subst ht
      have Fn : F < n := by have := okx.f1; simp only at this; omega
      have Tn : T < n := by have := okx.t1; simp only at this; omega
      have r0 : -100 ≤ r := okx.r0
      have r1 : r ≤ 100 := okx.r1
      simp only at u0 u1 u2 u3
      obtain ⟨y, hy⟩ : ∃ y, hs[T]? = some y := ⟨_, List.getElem?_eq_getElem (by have := HL.out; omega)⟩
      obtain ⟨z, hz⟩ : ∃ z, hs[F]? = some z := ⟨_, List.getElem?_eq_getElem (by have := HL.out; omega)⟩
      obtain ⟨bh, oh, eh, c0⟩ := (HV.out.later B.out).atV T y hy
      obtain ⟨bh', oh', eh', c1⟩ := (HV.out.later B.out).atV F z hz
      rw [eh] at eh'
      simp only [Option.some.injEq, Addr.mk.injEq, and_true] at eh'
      obtain ⟨rfl, rfl⟩ := eh'
      have ey := HH.out y (List.mem_of_getElem? hy)
      have ez := HH.out z (List.mem_of_getElem? hz)
      obtain ⟨m1, m2⟩ := mul_bnd hu.1 hu.2 r0 r1
      have q1 : IntKind.i64.wrap (unit * r) = unit * r := IntWalk.i64_in _ (by omega)
      have q2 : IntKind.i64.wrap (unit * r - y) = unit * r - y := IntWalk.i64_in _ (by omega)
      have q3 : IntKind.i64.wrap (unit * r - y + z) = unit * r - y + z := IntWalk.i64_in _ (by omega)
      have EV : Hid ((errL unit hs xs)[k]? = some (unit * r - y + z)) := by
        show _ = _
        rw [EG.out]
        simp [errOf, hy, hz]
      have lo := (ho.out.lt rb rfl).2
      have OA : Hid (OwnI (wr.alloc (.cells #[.int .i64 F, .int .i64 T, .int .i64 r, .int .i64 v] 32)) rb (.slice (some ⟨rb, 0, none⟩) n0 n0) (part (errL unit hs xs) n0 k)) := World.ownsRow.alloc ho.out _
      obtain ⟨d0, z0⟩ := part_cell LE.out hlt OA.out
      obtain ⟨d1, z1⟩ := part_cell LE.out hlt ho.out
      have hsz := B.out.size
      have lb : bh < wr.heap.size := World.block_lt_of_cell? wr _ c0
      have AB : Below wr.heap.size wr (wr.alloc (.cells #[.int .i64 F, .int .i64 T, .int .i64 r, .int .i64 v] 32)) := by go_grown
      have k0 : (wr.alloc (.cells #[.int .i64 F, .int .i64 T, .int .i64 r, .int .i64 v] 32)).cell? ⟨bh, oh + T, none⟩ = some (.int .i64 y) := (AB.cell (p := ⟨bh, oh + T, none⟩) lb).trans c0
      have k1 : (wr.alloc (.cells #[.int .i64 F, .int .i64 T, .int .i64 r, .int .i64 v] 32)).cell? ⟨bh, oh + F, none⟩ = some (.int .i64 z) := (AB.cell (p := ⟨bh, oh + F, none⟩) lb).trans c1
      have nb : ¬ bh = wr.heap.size := by omega
      clear AB
      have EA := Lib.hid ea
      clear hx hy hz okx m1 m2 ey ez EG
      subst ea
      subst eh
      go_wp2_with fail
      have OE : Hid (OwnI ((wr.setCell ⟨rb, k, none⟩ (.int .i64 (unit * r - y + z))).alloc (.cells #[.int .i64 F, .int .i64 T, .int .i64 r, .int .i64 v] 32)).drew rb (.slice (some ⟨rb, 0, none⟩) n0 n0) (part (errL unit hs xs) n0 (k + 1))) :=
        (World.ownsRow.alloc (part_store LE.out EV.out ho.out) (.cells #[.int .i64 F, .int .i64 T, .int .i64 r, .int .i64 v] 32) : OwnI _ _ _ _)
      have BE : Hid (Below w.heap.size w ((wr.setCell ⟨rb, k, none⟩ (.int .i64 (unit * r - y + z))).alloc (.cells #[.int .i64 F, .int .i64 T, .int .i64 r, .int .i64 v] 32)).drew) :=
        ((B.out.setCell (p := ⟨rb, k, none⟩) (by show w.heap.size ≤ rb; omega) _).alloc (by simp; omega) _).drew
      go_region
      all_goals
        clear ho OA B d0 d1 z0 z1 k0 k1 c0 c1 u0 u1 u2 u3 EV
        go_wp2
        exact ⟨⟨k + 1, by omega, by go_num, OE.out, BE.out⟩, by simp only [intOf]; omega⟩
    · obtain rfl : k = n0 := by omega
      have O5 := ho.out
      rw [part_all LE.out] at O5
      have O6 := Lib.hid O5
      clear O5 ho
      go_wp2
      go_ret
      exact ⟨_, rfl, OwnI.mono O6.out (by omega), B.out⟩
end Go.Proofs.YtcmocilojloolaaDoor
