/- (As Src, with names that go beside those of poses.) The source of drawn choices: what 'next' and 'pick' leave, whatever the bytes are. -/
import Derived.Test.YtmdddjhlfpmgdaaBase
import Derived.Test.YtmdddjhlfpmgdaaRecs
import Derived.Deep.QuietTactic
import Derived.BigQuiet
import Derived.WalkSmall
namespace Go.Proofs.Ytmdddjhlfpmgdaa
open Go.ChangeShapes Go.WideShapes Go.ChangeAt Go.RowKit
set_option linter.unusedVariables false
set_option linter.unusedSimpArgs false

/-- v is a slice whose elements are the bytes zs, in w. -/
def RdB (w : World) (v : Value) (zs : List Int) : Prop :=
  ∃ (a : Option Addr) (cap : Nat), v = .slice a zs.length cap ∧ (zs = [] ∨ ∃ b off : Nat, a = some ⟨b, off, none⟩ ∧ ∀ i x, zs[i]? = some x → w.cell? ⟨b, off + i, none⟩ = some (.int .u8 x)) ∧ ∀ x ∈ zs, 0 ≤ x ∧ x ≤ 255

theorem RdB.of_cells {w w' : World} {v : Value} {zs : List Int} (h : RdB w v zs) (hc : zs ≠ [] → ∀ b o u, v.ownBlock = some b → w.cell? ⟨b, o, none⟩ = some u → w'.cell? ⟨b, o, none⟩ = some u) : RdB w' v zs := by
  obtain ⟨a, cap, rfl, h | ⟨b, off, rfl, h⟩, h2⟩ := h
  · exact ⟨a, cap, rfl, .inl h, h2⟩
  · exact ⟨_, cap, rfl, .inr ⟨b, off, rfl, fun i x hx => hc (by intro e; rw [e] at hx; simp at hx) b _ _ rfl (h i x hx)⟩, h2⟩

theorem RdB.later {w w' : World} {v : Value} {zs : List Int} (h : RdB w v zs) (hb : Below w.heap.size w w') : RdB w' v zs := by
  refine h.of_cells fun _ b o u _ c => (hb.cell (p := ⟨b, o, none⟩) ?_).trans c
  by_cases hc : b < w.heap.size
  · exact hc
  · simp [World.cell?, Array.getElem?_eq_none (show w.heap.size ≤ b by omega)] at c

theorem IsRow.rdB {w : World} {a : Option Addr} {len cap : Nat} {zs : List Int} (h : IsRow .u8 w a len cap zs) : RdB w (.slice a len cap) (zs.take len) ∧ (zs.take len).length = len := by
  rcases h with ⟨rfl, rfl, rfl, rfl⟩ | ⟨x, rfl, hl, hm, hz, hc, hw⟩
  · exact ⟨⟨none, 0, rfl, .inl rfl, by simp⟩, rfl⟩
  · have e : (zs.take len).length = len := by rw [List.length_take]; omega
    refine ⟨⟨some x, cap, by rw [e], ?_, ?_⟩, e⟩
    · by_cases h0 : len = 0
      · subst h0; exact .inl rfl
      · right
        obtain ⟨b, off, rfl, hc'⟩ := ints_at hc (by omega)
        refine ⟨b, off, rfl, fun i y hy => ?_⟩
        have hi : i < len := by have := (List.getElem?_eq_some_iff.1 hy).1; omega
        rw [hc' i (by omega)]
        rw [List.getElem?_take, if_pos hi] at hy
        simp [List.getD, hy]
    · intro y hy
      exact bounds_u8 (hw y (List.mem_of_mem_take hy))

/-- Block g holds a source over the bytes zs (the slice v), which has been asked at times. -/
structure SrcAt (w : World) (g : Nat) (v : Value) (zs : List Int) (at' : Nat) : Prop where
  code : w.cell? ⟨g, 0, none⟩ = some v
  pos : w.cell? ⟨g, 1, none⟩ = some (.int .i64 at')
  seed : ∃ s : Int, w.cell? ⟨g, 2, none⟩ = some (.int .u64 s) ∧ 0 ≤ s ∧ s ≤ 18446744073709551615
  free1 : w.frozen? ⟨g, 1, none⟩ = false
  free2 : w.frozen? ⟨g, 2, none⟩ = false
  bytes : RdB w v zs
  apart : zs ≠ [] → ∀ b, v.ownBlock = some b → b ≠ g

theorem u64_bd (x : Int) : 0 ≤ IntKind.u64.wrap x ∧ IntKind.u64.wrap x ≤ 18446744073709551615 := by rw [IntKind.wrap_u64]; omega

theorem byte_bd (X : Int) (h0 : 0 ≤ X) (h1 : X ≤ 18446744073709551615) : 0 ≤ wrap64 (bits BinOp.and IntKind.u64 (X / 1099511627776) 255) ∧ wrap64 (bits BinOp.and IntKind.u64 (X / 1099511627776) 255) ≤ 255 := by
  have e : X / 1099511627776 = (((X / 1099511627776).toNat : Nat) : Int) := by omega
  have h := bits_and_u64_nat (X / 1099511627776).toNat 255 (by omega) (by omega)
  have hle := Nat.and_le_right (n := (X / 1099511627776).toNat) (m := 255)
  rw [e]
  rw [show ((255 : Int)) = ((255 : Nat) : Int) from rfl, h]
  unfold wrap64
  omega

theorem SrcAt.later {w w' : World} {g : Nat} {v : Value} {zs : List Int} {n : Nat} (h : SrcAt w g v zs n) (hb : Below w.heap.size w w') (hg : g < w.heap.size) : SrcAt w' g v zs n := by
  obtain ⟨a, b, ⟨s, c, c0, c1⟩, d, e, f, k⟩ := h
  refine ⟨(hb.cell (p := ⟨g, 0, none⟩) hg).trans a, (hb.cell (p := ⟨g, 1, none⟩) hg).trans b, ⟨s, (hb.cell (p := ⟨g, 2, none⟩) hg).trans c, c0, c1⟩, (hb.frozen (p := ⟨g, 1, none⟩) hg).trans d, (hb.frozen (p := ⟨g, 2, none⟩) hg).trans e, f.later hb, k⟩

theorem SrcAt.lt {w : World} {g : Nat} {v : Value} {zs : List Int} {n : Nat} (h : SrcAt w g v zs n) : g < w.heap.size := World.block_lt_of_cell? w ⟨g, 0, none⟩ h.code

theorem src_step {w : World} {g : Nat} {v : Value} {zs : List Int} {n : Nat} (h : SrcAt w g v zs n) (i j : Nat) (s : Int) (p : Int) (hp : p = ((n + 1 : Nat) : Int)) (h0 : 0 ≤ s) (h1 : s ≤ 18446744073709551615) :
    SrcAt ((((w.drewN i).setCell ⟨g, 1, none⟩ (.int .i64 p)).setCell ⟨g, 2, none⟩ (.int .u64 s)).drewN j) g v zs (n + 1) ∧
    w.grownBy ((((w.drewN i).setCell ⟨g, 1, none⟩ (.int .i64 p)).setCell ⟨g, 2, none⟩ (.int .u64 s)).drewN j) (some g) := by
  subst hp
  refine ⟨⟨?_, ?_, ⟨s, ?_, h0, h1⟩, ?_, ?_, ?_, h.apart⟩, ⟨rfl, rfl, rfl, by simp [World.setCell, World.drewN], fun k _ hk => ?_⟩⟩
  · rw [World.cell?_drewN, World.cell?_setCell_other _ _ _ _ (by simp), World.cell?_setCell_other _ _ _ _ (by simp), World.cell?_drewN]; exact h.code
  · rw [World.cell?_drewN, World.cell?_setCell_other _ _ _ _ (by simp)]
    exact World.cell?_setCell_same _ _ _ (u := .int .i64 n) (by rw [World.cell?_drewN]; exact h.pos)
  · obtain ⟨s0, hs, _⟩ := h.seed
    rw [World.cell?_drewN]
    exact World.cell?_setCell_same _ _ _ (u := .int .u64 s0) (by rw [World.cell?_setCell_other _ _ _ _ (by simp), World.cell?_drewN]; exact hs)
  · exact (World.frozen?_setCell ..).trans ((World.frozen?_setCell ..).trans h.free1)
  · exact (World.frozen?_setCell ..).trans ((World.frozen?_setCell ..).trans h.free2)
  · refine h.bytes.of_cells fun hz b o u hb hc => ?_
    have hne := h.apart hz b hb
    rw [World.cell?_drewN, World.cell?_setCell_other _ _ _ _ (by intro e; cases e; exact hne rfl), World.cell?_setCell_other _ _ _ _ (by intro e; cases e; exact hne rfl), World.cell?_drewN]; exact hc
  · have : k ≠ g := fun e => hk (by rw [e])
    show (((w.drewN i).setCell _ _).setCell _ _).heap[k]? = _
    rw [Below.heap_setCell _ _ _ _ this, Below.heap_setCell _ _ _ _ this]
    rfl

set_option maxHeartbeats 1000000 in
theorem srcNext_any (w : World) (g : Nat) (v : Value) (zs : List Int) (n : Nat) (h : SrcAt w g v zs n) (hn : n ≤ 1099511627776) (lz : zs.length ≤ 1099511627776) :
    Calls Try.prog 60 #[.pointer (some ⟨g, 0, none⟩)] w fun e w' => ∃ x : Int, e = .returned (.int .i64 x) ∧ 0 ≤ x ∧ x ≤ 255 ∧ SrcAt w' g v zs (n + 1) ∧ w.grownBy w' (some g) := by
  obtain ⟨hcode, hpos, ⟨s, hseed, s0, s1⟩, f1, f2, hb, hap⟩ := h
  obtain ⟨a, cap, rfl, hr, hby⟩ := id hb
  obtain ⟨m, hm⟩ : ∃ m, m = zs.length := ⟨_, rfl⟩
  have HB := Lib.hid hb
  have HAP := Lib.hid hap
  have HM := Lib.hid hm
  have H : Hid (SrcAt w g (.slice a m cap) zs n) := by rw [hm]; exact ⟨hcode, hpos, ⟨s, hseed, s0, s1⟩, f1, f2, hb, hap⟩
  rw [← hm] at lz hcode
  rw [← hm] at HB HAP
  rw [← hm]
  by_cases hlt : n < zs.length
  · obtain ⟨x, hx⟩ : ∃ x, zs[n]? = some x := ⟨_, List.getElem?_eq_getElem hlt⟩
    obtain ⟨ba, oa, rfl, ca'⟩ := hr.resolve_left (by intro h; rw [h] at hlt; simp at hlt)
    have c1 := ca' n x hx
    obtain ⟨x0, x1⟩ := hby x (List.mem_of_getElem? hx)
    have hlt' : n < m := by omega
    clear hb hr hby hap ca' hx hm hlt
    go_enter Try.func60, Try.ntmps60
    go_wp2
    go_quiet (fail)
    go_wp2
    go_quiet (fail)
    go_wp2
    go_quiet (fail)
    go_wp2
    go_ret
    obtain ⟨u0, u1⟩ := u64_bd (IntKind.u64.wrap (IntKind.u64.wrap (s * 6364136223846793005) + x) + 1442695040888963407)
    obtain ⟨r1, r2⟩ := src_step H.out _ _ _ (↑n + 1) (by omega) u0 u1
    exact ⟨x, rfl, x0, x1, r1, r2⟩
  · have hge : ¬ (n : Int) < (m : Int) := by omega
    clear hb hr hby hap hm hlt
    go_enter Try.func60, Try.ntmps60
    go_wp2
    go_quiet (fail)
    go_wp2
    go_quiet (fail)
    go_wp2
    · go_ret
      obtain ⟨u0, u1⟩ := u64_bd (IntKind.u64.wrap (IntKind.u64.wrap (s * 6364136223846793005)) + 1442695040888963407)
      obtain ⟨y0, y1⟩ := byte_bd _ u0 u1
      obtain ⟨r1, r2⟩ := src_step H.out _ _ _ (↑n + 1) (by omega) u0 u1
      exact ⟨_, rfl, y0, y1, r1, r2⟩

/-- What 'pick' leaves. -/
def Picked (w : World) (g : Nat) (v : Value) (zs : List Int) (n : Nat) (k : Int) (e : Ending) (w' : World) : Prop :=
  ∃ (x : Int) (m : Nat), e = .returned (.int .i64 x) ∧ 0 ≤ x ∧ (1 ≤ k → x < k) ∧ (k < 1 → x = 0) ∧ n ≤ m ∧ m ≤ n + 2 ∧ SrcAt w' g v zs m ∧ w.grownBy w' (some g)

set_option maxHeartbeats 1000000 in
theorem pick_any (w : World) (g : Nat) (v : Value) (zs : List Int) (n : Nat) (k : Int) (h : SrcAt w g v zs n) (hn : n ≤ 1099511627000) (lz : zs.length ≤ 1099511627776) (hk : -9223372036854775808 ≤ k) (hk2 : k ≤ 9223372036854775807) :
    Calls Try.prog 58 #[.pointer (some ⟨g, 0, none⟩), .int .i64 k] w (Picked w g v zs n k) := by
  have H := Lib.hid h
  clear h
  by_cases h1 : k ≤ 1
  · go_enter Try.func58, Try.ntmps58
    go_wp2
    go_ret
    exact ⟨0, n, rfl, by omega, by omega, by omega, by omega, by omega, H.out, ⟨rfl, rfl, rfl, Nat.le_refl _, fun _ _ _ => rfl⟩⟩
  · have h1' : 1 < k := by omega
    clear h1
    by_cases h2 : k ≤ 200
    · go_enter Try.func58, Try.ntmps58
      go_wp2_with fail
      refine (srcNext_any w g v zs n H.out (by omega) lz).mono ?_
      rintro e w1 ⟨x, rfl, x0, x1, s1, g1⟩
      have S1 := Lib.hid s1
      have G1 := Lib.hid g1
      clear s1 g1
      go_wp2
      go_ret
      have m0 := Int.emod_nonneg x (show k ≠ 0 by omega)
      have m1 := Int.emod_lt_of_pos x (show 0 < k by omega)
      exact ⟨_, n + 1, rfl, m0, fun _ => m1, fun h => absurd h (by omega), by omega, by omega, S1.out, G1.out⟩
    · have h2' : 200 < k := by omega
      clear h2
      go_enter Try.func58, Try.ntmps58
      go_wp2_with fail
      refine (srcNext_any w g v zs n H.out (by omega) lz).mono ?_
      rintro e w1 ⟨x, rfl, x0, x1, s1, g1⟩
      have S1 := Lib.hid s1
      have G1 := Lib.hid g1
      clear s1 g1
      go_wp2_with fail
      refine (srcNext_any w1 g v zs (n + 1) S1.out (by omega) lz).mono ?_
      rintro e w2 ⟨y, rfl, y0, y1, s2, g2⟩
      have S2 := Lib.hid s2
      have G2 := Lib.hid g2
      clear s2 g2
      go_wp2
      go_ret
      have m0 := Int.emod_nonneg (x * 256 + y) (show k ≠ 0 by omega)
      have m1 := Int.emod_lt_of_pos (x * 256 + y) (show 0 < k by omega)
      exact ⟨_, n + 2, rfl, m0, fun _ => m1, fun h => absurd h (by omega), by omega, by omega, S2.out, grownBy_trans' G1.out G2.out⟩

theorem from_any (w : World) (v : Value) (zs : List Int) (h : RdB w v zs) :
    Calls Try.prog 57 #[v] w fun e w' => e = .returned (.pointer (some ⟨w.heap.size, 0, none⟩)) ∧ SrcAt w' w.heap.size v zs 0 ∧ Below w.heap.size w w' := by
  obtain ⟨a, cap, rfl, h2⟩ := id h
  obtain ⟨n, hn⟩ : ∃ n, n = zs.length := ⟨_, rfl⟩
  have H := Lib.hid h
  have H2 := Lib.hid h2
  rw [← hn] at H
  rw [← hn]
  clear h h2 hn
  go_enter Try.func57, Try.ntmps57
  go_wp2
  go_ret
  have nb := fun j => cell_of_row (w.alloc (Obj.cells #[Value.slice a n cap, Value.int IntKind.i64 0, Value.int IntKind.u64 0] 85)) w.heap.size j _ 85 (0, 0) (heap_alloc_new w _)
  have nf := fun j => frozen_of_row (w.alloc (Obj.cells #[Value.slice a n cap, Value.int IntKind.i64 0, Value.int IntKind.u64 0] 85)) w.heap.size j _ 85 (heap_alloc_new w _)
  have B : Below w.heap.size w (w.alloc (Obj.cells #[Value.slice a n cap, Value.int IntKind.i64 0, Value.int IntKind.u64 0] 85)) := (Below.refl _ _).alloc (Nat.le_refl _) _
  refine ⟨rfl, ⟨nb 0, nb 1, ⟨0, nb 2, by omega, by omega⟩, nf 1, nf 2, H.out.later B, fun hz b hb => ?_⟩, B⟩
  obtain ⟨b', off, rfl, h⟩ := H2.out.1.resolve_left hz
  obtain ⟨x, zs, rfl⟩ := List.exists_cons_of_ne_nil hz
  have hlt := World.block_lt_of_cell? w _ (h 0 x rfl)
  simp only [Value.ownBlock, Option.some.injEq] at hb
  subst hb
  exact Nat.ne_of_lt hlt
end Go.Proofs.Ytmdddjhlfpmgdaa
