/- The tree of a survey: of the specification. -/
import Derived.Test.YtcmocilojloolaaDoorSurvM
import Derived.Test.YtcmocilojloolaaDoorPart
import Derived.Deep.AppendLies
import Derived.Deep.DeepCutAuto
import Derived.BigQuiet
namespace Go.Proofs.YtcmocilojloolaaDoor
open Go.ChangeShapes Go.WideShapes Go.ChangeAt Go.RowKit
set_option linter.unusedVariables false
set_option linter.unusedSimpArgs false

theorem maxV_any (x y : Int) (w : World) : Calls Tryd.prog 69 #[.int .i64 x, .int .i64 y] w fun e w' => e = .returned (.int .i64 (max x y)) ∧ w = w' := by
  by_cases h : y < x
  · rw [show max x y = x by omega]
    go_enter Tryd.func69, Tryd.ntmps69
    go_wp2
    go_ret
    exact ⟨rfl, rfl⟩
  · rw [show max x y = y by omega]
    go_enter Tryd.func69, Tryd.ntmps69
    go_wp2
    go_ret
    exact ⟨rfl, rfl⟩
theorem minV_any (x y : Int) (w : World) : Calls Tryd.prog 107 #[.int .i64 x, .int .i64 y] w fun e w' => e = .returned (.int .i64 (min x y)) ∧ w = w' := by
  by_cases h : x < y
  · rw [show min x y = x by omega]
    go_enter Tryd.func107, Tryd.ntmps107
    go_wp2
    go_ret
    exact ⟨rfl, rfl⟩
  · rw [show min x y = y by omega]
    go_enter Tryd.func107, Tryd.ntmps107
    go_wp2
    go_ret
    exact ⟨rfl, rfl⟩

/-- Of two rows of the same length, the first k numbers of the one and the other ones of the other. -/
def mixL (L M : List Int) (k : Nat) : List Int := L.take k ++ M.drop k
theorem mixL_zero (L M : List Int) : mixL L M 0 = M := by simp [mixL]
theorem mixL_all {L M : List Int} {n : Nat} (h : L.length = n) (h' : M.length = n) : mixL L M n = L := by unfold mixL; rw [List.take_of_length_le (by omega), List.drop_eq_nil_of_le (by omega), List.append_nil]
theorem mixL_len {L M : List Int} {n k : Nat} (h : L.length = n) (h' : M.length = n) (hk : k ≤ n) : (mixL L M k).length = n := by
  unfold mixL; rw [List.length_append, List.length_take, List.length_drop]; omega
theorem mixL_get {L M : List Int} {n k : Nat} (h : L.length = n) (h' : M.length = n) (hk : k < n) : (mixL L M k)[k]? = M[k]? := by
  unfold mixL
  have e : (L.take k).length = k := by rw [List.length_take]; omega
  rw [List.getElem?_append_right (by omega), e, Nat.sub_self, List.getElem?_drop, Nat.add_zero]
theorem mixL_set {L M : List Int} {n k : Nat} {x : Int} (h : L.length = n) (h' : M.length = n) (hx : L[k]? = some x) : (mixL L M k).set k x = mixL L M (k + 1) := by
  have hk : k < n := by have := (List.getElem?_eq_some_iff.1 hx).1; omega
  have e : (L.take k).length = k := by rw [List.length_take]; omega
  unfold mixL
  rw [List.set_append_right _ _ (by omega), e, Nat.sub_self, List.drop_eq_getElem_cons (by omega), List.set_cons_zero, List.take_add_one, hx]
  simp
theorem mixL_same {L M : List Int} {n k : Nat} (h : L.length = n) (h' : M.length = n) (hk : k < n) (he : L[k]? = M[k]?) : mixL L M (k + 1) = mixL L M k := by
  have e : (L.take k).length = k := by rw [List.length_take]; omega
  unfold mixL
  rw [List.take_add_one, he, List.append_assoc]
  congr 1
  have : M[k]? = some M[k] := List.getElem?_eq_getElem (by omega)
  rw [this, List.drop_eq_getElem_cons (show k < M.length by omega)]
  rfl

theorem own_cell {w : World} {B b n c : Nat} {zs : List Int} (h : OwnI w B (.slice (some ⟨b, 0, none⟩) n c) zs) (hn : zs.length = n) {k : Nat} {x : Int} (hx : zs[k]? = some x) :
    w.cell? ⟨b, k, none⟩ = some (.int .i64 x) ∧ w.frozen? ⟨b, k, none⟩ = false := by
  have own := h
  unfold OwnI at own
  rw [hn] at own
  have hk := (List.getElem?_eq_some_iff.1 hx).1
  have c := own.cellAt k (by omega)
  rw [List.getElem?_map, hx] at c
  exact ⟨c, own.frozenAt k⟩

theorem boxSt_fourS {w : World} {g : Nat} {f t r v : Int} (h : w.heap[g]? = some (.cells #[.int .i64 f, .int .i64 t, .int .i64 r, .int .i64 v] 32 (0, 0))) : w.cell? ⟨g, 0, none⟩ = some (.int .i64 f) ∧ w.cell? ⟨g, 1, none⟩ = some (.int .i64 t) ∧ w.cell? ⟨g, 2, none⟩ = some (.int .i64 r) ∧ w.cell? ⟨g, 3, none⟩ = some (.int .i64 v) :=
  ⟨cell_of_row w g 0 _ _ _ h, cell_of_row w g 1 _ _ _ h, cell_of_row w g 2 _ _ _ h, cell_of_row w g 3 _ _ _ h⟩
theorem tb_le8 {k : Nat} (h : k ≤ 8) : tb k ≤ 328000 := by
  have : k = 0 ∨ k = 1 ∨ k = 2 ∨ k = 3 ∨ k = 4 ∨ k = 5 ∨ k = 6 ∨ k = 7 ∨ k = 8 := by omega
  rcases this with rfl | rfl | rfl | rfl | rfl | rfl | rfl | rfl | rfl <;> decide

/-- Three rows of the call's own: the chosen sights, the parts and the heights. -/
structure TreeSt (N : Nat) (w wr : World) (m n ob c1 pb cp hb ch : Nat) (o p h : List Int) : Prop where
  oo : OwnI wr N (.slice (some ⟨ob, 0, none⟩) m c1) o
  op : OwnI wr N (.slice (some ⟨pb, 0, none⟩) n cp) p
  oh : OwnI wr N (.slice (some ⟨hb, 0, none⟩) n ch) h
  n1 : ob ≠ pb
  n2 : ob ≠ hb
  n3 : pb ≠ hb
  lo : m = o.length
  lp : n = p.length
  lh : n = h.length
  b : Below N w wr
theorem own_grownT {w w' : World} {B b n c a : Nat} {zs : List Int} (h : OwnI w B (.slice (some ⟨b, 0, none⟩) n c) zs) (hg : w.grownBy w' (some a)) (hne : b ≠ a) : OwnI w' B (.slice (some ⟨b, 0, none⟩) n c) zs :=
  h.kept hg (Or.inr (fun e => hne (by simpa [Value.ownBlock] using e)))
theorem own_setT {w : World} {B b n c a k : Nat} {u : Value} {zs : List Int} (h : OwnI w B (.slice (some ⟨b, 0, none⟩) n c) zs) (hne : b ≠ a) : OwnI (w.setCell ⟨a, k, none⟩ u) B (.slice (some ⟨b, 0, none⟩) n c) zs :=
  h.of_block fun j hj => Below.heap_setCell _ _ _ _ (by have : b = j := by simpa [Value.ownBlock] using hj
                                                        show j ≠ a
                                                        omega)
theorem own_rowT {w : World} {B b n c : Nat} {zs : List Int} (h : OwnI w B (.slice (some ⟨b, 0, none⟩) n c) zs) (hn : n = zs.length) : w.ownsRow B 2 1 (.slice (some ⟨b, 0, none⟩) n c) n (zs.map (Value.int .i64)) := by
  unfold OwnI at h
  rw [← hn] at h
  exact h

set_option maxRecDepth 100000 in
set_option maxHeartbeats 16000000 in
theorem l10Tree_any (G : Nat) (ty : TypeId) (n n0 : Nat) (xa : Option Addr) (xc : Nat) (xs : List St) (w : World) (hG : w.heap[G]? = some (.cells #[.int .i64 n, .slice xa n0 xc] ty (0, 0))) (hr : RdS 4 encSt w (.slice xa n0 xc) xs) (e0 : n0 = xs.length) (l8 : n0 ≤ 8) (hn : 2 ≤ n ∧ n ≤ 5) (ok : ∀ x ∈ xs, OkSt n x) :
    Calls Tryd.prog 80 #[.pointer (some ⟨G, 0, none⟩)] w fun e w' => Below w.heap.size w w' ∧
      ((trAll (trTo n xs n0) = false ∧ e = .returned (.tuple #[.slice none 0 0, .slice none 0 0, .bool false])) ∨
       (trAll (trTo n xs n0) = true ∧ ∃ u v, e = .returned (.tuple #[u, v, .bool true]) ∧ OwnI w' w.heap.size u (trTo n xs n0).o ∧ OwnI w' w.heap.size v (trTo n xs n0).h)) := by
  obtain ⟨i0, hi, hz0, hz1, hz2⟩ := info_parts info_i64
  obtain ⟨⟨p0, p1⟩, -, lG⟩ := boxedSv_at hG
  have HG := Lib.hid hG
  have H := Lib.hid hr
  have E0 := Lib.hid e0
  have OK := Lib.hid ok
  clear hG hr e0 ok
  go_enter Tryd.func80, Tryd.ntmps80
  go_upto_region 4 with (fail)
  have S0 : Hid (TreeSt w.heap.size w (((w.alloc (.cells #[] 2)).alloc (.cells #[] 2)).alloc (.cells #[] 2)) 0 0 w.heap.size 0 (w.heap.size + 1) 0 (w.heap.size + 1 + 1) 0 [] ((List.range n).map Int.ofNat |>.take 0) ((List.replicate n 0).take 0)) := by
    have M : ∀ (w0 : World) (N : Nat), N = w0.heap.size → w.heap.size ≤ N → OwnI (w0.alloc (.cells #[] 2)) w.heap.size (.slice (some ⟨N, 0, none⟩) 0 0) [] := fun w0 N hN hle => by
      subst hN
      exact (World.ownsRow_lit (e := 2) (size := 1) w0 #[] 0 hle (by decide) rfl)
    refine ⟨World.ownsRow.alloc (World.ownsRow.alloc (M w w.heap.size rfl (Nat.le_refl _)) _) _, World.ownsRow.alloc (M (w.alloc _) (w.heap.size + 1) (by simp) (by omega)) _, M ((w.alloc _).alloc _) (w.heap.size + 1 + 1) (by simp) (by omega), by omega, by omega, by omega, rfl, rfl, rfl, by go_grown⟩
  generalize ((w.alloc (.cells #[] 2)).alloc (.cells #[] 2)).alloc (.cells #[] 2) = w0 at *
  obtain ⟨PL, hPL⟩ : ∃ PL : List Int, PL = (List.range n).map Int.ofNat := ⟨_, rfl⟩
  obtain ⟨HL, hHL⟩ : ∃ HL : List Int, HL = List.replicate n 0 := ⟨_, rfl⟩
  rw [← hPL, ← hHL] at S0
  have PG : Hid (∀ k, k < n → PL[k]? = some (k : Int)) := fun k hk => by rw [hPL]; simp [hk]
  have QG : Hid (∀ k, k < n → HL[k]? = some 0) := fun k hk => by rw [hHL]; simp [hk]
  have LP : Hid (PL.length = n) := by show _ = _; rw [hPL]; simp
  have LH : Hid (HL.length = n) := by show _ = _; rw [hHL]; simp
  have IN : Hid (trInit n = ⟨PL, HL, []⟩) := by show _ = _; rw [hPL, hHL]; rfl
  clear hPL hHL
  go_wp2
  go_loopw [6, 7, 8] (fun pv hv kv wr => ∃ (k cp ch pb hb : Nat), k ≤ n ∧ kv = .int .i64 k ∧ pv = .slice (some ⟨pb, 0, none⟩) k cp ∧ hv = .slice (some ⟨hb, 0, none⟩) k ch ∧ Hid (TreeSt w.heap.size w wr 0 k w.heap.size 0 pb cp hb ch [] (PL.take k) (HL.take k))) (fun _ _ kv _ => n - (intOf kv).toNat)
  case atStart => exact ⟨0, 0, 0, _, _, by omega, rfl, rfl, rfl, S0.out⟩
  case round =>
    obtain ⟨k, cp, ch, pb, hb, hk, rfl, rfl, rfl, hs⟩ := hrel
    clear S0 p0 p1
    have hsz := hs.out.b.size
    obtain ⟨⟨p0, p1⟩, -, -⟩ := boxedSv_at ((hs.out.b.block G lG).trans HG.out)
    by_cases hlt : k < n
    · have own := Lib.hid (own_rowT hs.out.op hs.out.lp)
      have lgz := own.out.lt
      have gp := PG.out k hlt
      have gq := QG.out k hlt
      have GP := Lib.hid gp
      have GQ := Lib.hid gq
      clear gp gq
      go_wp2_with (at_builtin; refine wpList_append_lies _ rfl _ _ _ rfl w.heap.size 2 i0 _ 1 8 Tryd.underlying28 hi hz0 hz1 hz2 rfl (by omega) _ _ _ rfl (own.out.alloc _) ⟨wr.heap.size, 0, none⟩ 1 1 [.int .i64 k] rfl rfl (World.news_of_block (cs := #[.int .i64 k]) (t := 2) (fr := (0, 0)) (heap_alloc_new wr _)) (by simp [Value.oneCell']) (by omega) (by unfold maxLen; omega) (by omega) (by simp only [World.size_alloc]; omega) _ rfl ?_)
      intro g1 cap1 w5 hown1 hgrow hat hlt'
      have gr : wr.grownBy w5 (some pb) := grownBy_trans' (World.grownBy_alloc wr _ _) hgrow
      have nn := hs.out.n3
      have lw := (hs.out.oo.lt w.heap.size rfl).2
      have lh := (hs.out.oh.lt hb rfl).2
      have ne1 : g1 ≠ w.heap.size ∧ g1 ≠ hb := by
        rcases hat with hat | hat
        · have : pb = g1 := by simpa [Value.ownBlock] using hat
          have := hs.out.n1
          omega
        · omega
      have S1 : Hid (OwnI w5 w.heap.size (.slice (some ⟨w.heap.size, 0, none⟩) 0 0) [] ∧ OwnI w5 w.heap.size (.slice (some ⟨g1, 0, none⟩) (k + 1) cap1) (PL.take (k + 1)) ∧ OwnI w5 w.heap.size (.slice (some ⟨hb, 0, none⟩) k ch) (HL.take k) ∧ Below w.heap.size w w5) := by
        refine ⟨own_grownT hs.out.oo gr hs.out.n1, ?_, own_grownT hs.out.oh gr (by omega), hs.out.b.grown gr hsz (fun j e => by obtain rfl := Option.some.inj e; exact (lgz _ rfl).1)⟩
        unfold OwnI
        rw [List.take_add_one, GP.out, List.length_append, ← hs.out.lp, List.map_append, List.map_take]
        exact hown1
      have z5 := gr.size
      have lhk := Lib.hid hs.out.lh
      have own2 := Lib.hid (own_rowT S1.out.2.2.1 lhk.out)
      have lg2 := own2.out.lt
      have N2 := Lib.hid hs.out.n2
      clear hown1 hgrow hat hlt' own lgz gr hs
      go_wp2_with (at_builtin; refine wpList_append_lies _ rfl _ _ _ rfl w.heap.size 2 i0 _ 1 8 Tryd.underlying28 hi hz0 hz1 hz2 rfl (by omega) _ _ _ rfl (own2.out.alloc _) ⟨w5.heap.size, 0, none⟩ 1 1 [.int .i64 0] rfl rfl (World.news_of_block (cs := #[.int .i64 0]) (t := 2) (fr := (0, 0)) (heap_alloc_new w5 _)) (by simp [Value.oneCell']) (by omega) (by unfold maxLen; omega) (by omega) (by simp only [World.size_alloc]; omega) _ rfl ?_)
      intro g2 cap2 w6 hown1 hgrow hat hlt'
      have gr : w5.grownBy w6 (some hb) := grownBy_trans' (World.grownBy_alloc w5 _ _) hgrow
      have lg1 := (S1.out.2.1.lt g1 rfl).2
      have ne2 : g2 ≠ w.heap.size ∧ g2 ≠ g1 := by
        rcases hat with hat | hat
        · have : hb = g2 := by simpa [Value.ownBlock] using hat
          have := N2.out
          omega
        · omega
      have S2 : Hid (TreeSt w.heap.size w w6 0 (k + 1) w.heap.size 0 g1 cap1 g2 cap2 [] (PL.take (k + 1)) (HL.take (k + 1))) := by
        refine ⟨own_grownT S1.out.1 gr N2.out, own_grownT S1.out.2.1 gr (by omega), ?_, by omega, by omega, by omega, rfl, ?_, ?_, S1.out.2.2.2.grown gr (by omega) (fun j e => by obtain rfl := Option.some.inj e; exact (lg2 _ rfl).1)⟩
        · unfold OwnI
          rw [List.take_add_one, GQ.out, List.length_append, ← lhk.out, List.map_append, List.map_take]
          exact hown1
        · rw [List.length_take, LP.out]; omega
        · rw [List.length_take, LH.out]; omega
      clear hown1 hgrow hat hlt' own2 lg2 gr S1 lhk N2 GP GQ p0 p1
      go_wp2
      exact ⟨⟨k + 1, cap1, cap2, g1, g2, by omega, by go_num, rfl, rfl, S2.out⟩, by simp only [intOf]; omega⟩
    · obtain rfl : k = n := by omega
      have S1 : Hid (TreeSt w.heap.size w wr 0 k w.heap.size 0 pb cp hb ch (trTo k xs 0).o (trTo k xs 0).p (trTo k xs 0).h) := by
        have h := hs.out
        rw [List.take_of_length_le (by rw [LP.out]; omega), List.take_of_length_le (by rw [LH.out]; omega)] at h
        show TreeSt _ _ _ _ _ _ _ _ _ _ _ (trInit k).o (trInit k).p (trInit k).h
        rw [IN.out]
        exact h
      clear hs PG QG LP LH IN hlt hk
      go_wp2
      go_loopw [5, 9] (fun ov iv wr => ∃ (i m ob c1 : Nat), i ≤ n0 ∧ iv = .int .i64 i ∧ ov = .slice (some ⟨ob, 0, none⟩) m c1 ∧ m ≤ i ∧ Hid (TreeSt w.heap.size w wr m k ob c1 pb cp hb ch (trTo k xs i).o (trTo k xs i).p (trTo k xs i).h)) (fun _ iv _ => n0 - (intOf iv).toNat)
      case atStart => exact ⟨0, 0, _, 0, by omega, rfl, rfl, by omega, S1.out⟩
      case round =>
        obtain ⟨i, m, ob, c1, hi', rfl, rfl, mi, hs⟩ := hrel
        clear S1 p0 p1
        have hsz := hs.out.b.size
        obtain ⟨⟨p0, p1⟩, -, -⟩ := boxedSv_at ((hs.out.b.block G lG).trans HG.out)
        by_cases hlt : i < n0
        · obtain ⟨x, hx⟩ : ∃ x, xs[i]? = some x := ⟨_, List.getElem?_eq_getElem (by have := E0.out; omega)⟩
          have okx := OK.out x (List.mem_of_getElem? hx)
          obtain ⟨ba, oa, ea, u0, u1, u2, u3⟩ := (H.out.later hs.out.b).at4g i x hx _ _ _ _ rfl
          have TS := Lib.hid (trTo_succ (n := k) hx)
          have TO := Lib.hid (trTo_ok OK.out (n := k) i)
          obtain ⟨s, hsd⟩ : ∃ s, s = trTo k xs i := ⟨_, rfl⟩
          rw [← hsd] at TS TO hs
          clear hsd
          obtain ⟨f, t, r, v⟩ := x
          obtain ⟨F, hf⟩ : ∃ F : Nat, f = F := ⟨f.toNat, by have := okx.f0; simp only at this; omega⟩
          obtain ⟨T, ht⟩ : ∃ T : Nat, t = T := ⟨t.toNat, by have := okx.t0; simp only at this; omega⟩
          subst hf
          subst ht
          have Fn : F < k := by have := okx.f1; simp only at this; omega
          have Tn : T < k := by have := okx.t1; simp only at this; omega
          have rr : -100 ≤ r ∧ r ≤ 100 := ⟨okx.r0, okx.r1⟩
          simp only at u0 u1 u2 u3
          obtain ⟨a, pa⟩ : ∃ a, s.p[F]? = some a := ⟨_, List.getElem?_eq_getElem (by have := hs.out.lp; omega)⟩
          obtain ⟨b, pb'⟩ : ∃ b, s.p[T]? = some b := ⟨_, List.getElem?_eq_getElem (by have := hs.out.lp; omega)⟩
          obtain ⟨c, pc⟩ : ∃ c, s.h[F]? = some c := ⟨_, List.getElem?_eq_getElem (by have := hs.out.lh; omega)⟩
          obtain ⟨d, pd⟩ : ∃ d, s.h[T]? = some d := ⟨_, List.getElem?_eq_getElem (by have := hs.out.lh; omega)⟩
          have dA : trA s ⟨F, T, r, v⟩ = a := by simp [trA, pa]
          have dB : trB s ⟨F, T, r, v⟩ = b := by simp [trB, pb']
          have dC : s.h.getD F 0 = c := by simp [pc]
          have dD : s.h.getD T 0 = d := by simp [pd]
          have WA : Hid (Below wr.heap.size wr (wr.alloc (.cells #[.int .i64 F, .int .i64 T, .int .i64 r, .int .i64 v] 32))) := by show Below _ _ _; go_grown
          have op1 := Lib.hid (World.ownsRow.alloc hs.out.op (.cells #[.int .i64 F, .int .i64 T, .int .i64 r, .int .i64 v] 32))
          have oh1 := Lib.hid (World.ownsRow.alloc hs.out.oh (.cells #[.int .i64 F, .int .i64 T, .int .i64 r, .int .i64 v] 32))
          have oo1 := Lib.hid (World.ownsRow.alloc hs.out.oo (.cells #[.int .i64 F, .int .i64 T, .int .i64 r, .int .i64 v] 32))
          have SA : Hid (TreeSt w.heap.size w (wr.alloc (.cells #[.int .i64 F, .int .i64 T, .int .i64 r, .int .i64 v] 32)) m k ob c1 pb cp hb ch s.o s.p s.h) :=
            ⟨oo1.out, op1.out, oh1.out, hs.out.n1, hs.out.n2, hs.out.n3, hs.out.lo, hs.out.lp, hs.out.lh, hs.out.b.alloc hsz _⟩
          have XB : Hid ((wr.alloc (.cells #[.int .i64 F, .int .i64 T, .int .i64 r, .int .i64 v] 32)).heap[wr.heap.size]? = some (.cells #[.int .i64 F, .int .i64 T, .int .i64 r, .int .i64 v] 32 (0, 0))) := heap_alloc_new _ _
          have lob := (hs.out.oo.lt ob rfl).2
          have lpb := (hs.out.op.lt pb rfl).2
          have lhb := (hs.out.oh.lt hb rfl).2
          obtain ⟨xb, hxb⟩ : ∃ xb, xb = wr.heap.size := ⟨_, rfl⟩
          rw [← hxb] at XB lob lpb lhb
          clear hx okx WA op1 oh1 oo1 hs
          subst ea
          go_upto_region 13 with (fail)
          rw [← hxb]
          have xsz : xb < (wr.alloc (.cells #[.int .i64 F, .int .i64 T, .int .i64 r, .int .i64 v] 32)).heap.size := by simp; omega
          clear hxb p0 p1 u0 u1 u2 u3 hsz
          generalize wr.alloc (.cells #[.int .i64 F, .int .i64 T, .int .i64 r, .int .i64 v] 32) = w1 at *
          obtain ⟨x0, x1, x2, x3⟩ := boxSt_fourS XB.out
          have c0 := (own_cell SA.out.op SA.out.lp.symm pa).1
          have c1' := (own_cell SA.out.op SA.out.lp.symm pb').1
          by_cases hab : a = b
          · subst hab
            have e1 : ((a : Int) == a) = true := by simp
            have S2 : Hid (TreeSt w.heap.size w w1 m k ob c1 pb cp hb ch (trTo k xs (i + 1)).o (trTo k xs (i + 1)).p (trTo k xs (i + 1)).h) := by
              show TreeSt _ _ _ _ _ _ _ _ _ _ _ _ _ _
              rw [TS.out]
              unfold trStep
              rw [dA, dB, if_pos rfl]
              exact SA.out
            clear SA TS TO dA dB dC dD pa pb' pc pd
            go_wp2
            exact ⟨⟨i + 1, m, ob, c1, by omega, by go_num, rfl, by omega, S2.out⟩, by simp only [intOf]; omega⟩
          · have e1 : ((a : Int) == b) = false := by simpa using hab
            have own := Lib.hid (own_rowT SA.out.oo SA.out.lo)
            have lgz := own.out.lt
            have sz1 := SA.out.b.size
            go_wp2_with (at_builtin; refine wpList_append_lies _ rfl _ _ _ rfl w.heap.size 2 i0 _ 1 8 Tryd.underlying28 hi hz0 hz1 hz2 rfl (by omega) _ _ _ rfl (own.out.alloc _) ⟨w1.heap.size, 0, none⟩ 1 1 [.int .i64 i] rfl rfl (World.news_of_block (cs := #[.int .i64 i]) (t := 2) (fr := (0, 0)) (heap_alloc_new w1 _)) (by simp [Value.oneCell']) (by omega) (by unfold maxLen; omega) (by omega) (by simp only [World.size_alloc]; omega) _ rfl ?_)
            intro g1 cap1 w5 hown1 hgrow hat hlt'
            have gr : w1.grownBy w5 (some ob) := grownBy_trans' (World.grownBy_alloc w1 _ _) hgrow
            have lp1 := (SA.out.op.lt pb rfl).2
            have lh1 := (SA.out.oh.lt hb rfl).2
            have ne1 : g1 ≠ pb ∧ g1 ≠ hb := by
              rcases hat with hat | hat
              · have : ob = g1 := by simpa [Value.ownBlock] using hat
                have := SA.out.n1
                have := SA.out.n2
                omega
              · omega
            have SB : Hid (TreeSt w.heap.size w w5 (m + 1) k g1 cap1 pb cp hb ch (s.o ++ [(i : Int)]) s.p s.h) := by
              refine ⟨?_, own_grownT SA.out.op gr (Ne.symm SA.out.n1), own_grownT SA.out.oh gr (Ne.symm SA.out.n2), ne1.1, ne1.2, SA.out.n3, ?_, SA.out.lp, SA.out.lh, SA.out.b.grown gr sz1 (fun j e => by obtain rfl := Option.some.inj e; exact (lgz _ rfl).1)⟩
              · unfold OwnI
                rw [List.length_append, ← SA.out.lo, List.map_append]
                exact hown1
              · rw [List.length_append, ← SA.out.lo]; rfl
            have XB5 : Hid (w5.heap[xb]? = _) := (gr.block xb xsz (fun e => by obtain rfl := Option.some.inj e; omega)).trans XB.out
            have G5 : Hid (w5.heap[G]? = _) := (SB.out.b.block G lG).trans HG.out
            clear hown1 hgrow hat hlt' own lgz gr SA XB x0 x1 x2 x3 c0 c1' lp1 lh1 xsz
            go_upto_region 17 with (fail)
            obtain ⟨x0, x1, x2, x3⟩ := boxSt_fourS XB5.out
            have c0 := (own_cell SB.out.oh SB.out.lh.symm pc).1
            have c1' := (own_cell SB.out.oh SB.out.lh.symm pd).1
            have bc0 := TO.out.b0 F Fn
            have bc1 := TO.out.b1 F Fn
            have bd0 := TO.out.b0 T Tn
            have bd1 := TO.out.b1 T Tn
            rw [dC] at bc0 bc1
            rw [dD] at bd0 bd1
            have tbi := tb_le8 (k := i) (by omega)
            have q1 : IntKind.i64.wrap (c + r) = c + r := IntWalk.i64_in _ (by omega)
            have q2 : IntKind.i64.wrap (c + r - d) = c + r - d := IntWalk.i64_in _ (by omega)
            have q3 : IntKind.i64.wrap (-(c + r - d)) = -(c + r - d) := IntWalk.i64_in _ (by omega)
            go_wp2_with fail
            go_quiet (fail)
            have SZ : Hid (TreeSt w.heap.size w (w5.drewN nq) (m + 1) k g1 cap1 pb cp hb ch (s.o ++ [(i : Int)]) s.p s.h) :=
              ⟨SB.out.oo, SB.out.op, SB.out.oh, SB.out.n1, SB.out.n2, SB.out.n3, SB.out.lo, SB.out.lp, SB.out.lh, below_drewN SB.out.b _⟩
            have G6 : Hid ((w5.drewN nq).heap[G]? = _) := G5.out
            clear SB XB5 G5 x0 x1 x2 x3 c0 c1' q1 q2
            generalize w5.drewN nq = wz at *
            obtain ⟨L, hL⟩ : ∃ L, L = if b < a then -(c + r - d) else c + r - d := ⟨_, rfl⟩
            have TL : Hid (trL s ⟨F, T, r, v⟩ = L) := by
              show _ = _
              unfold trL
              rw [dA, dB, hL]
              simp only [Int.toNat_natCast, dC, dD]
            have bL : -(656100 : Int) ≤ L ∧ L ≤ 656100 := by rw [hL]; split <;> omega
            go_upto_if 83 with (fail)
            go_cut [13] (fun lv wx => lv = .int .i64 L ∧ wz = wx)
            case first =>
              by_cases hba : b < a
              · have hL' : L = -(c + r - d) := by rw [hL, if_pos hba]
                have HL' := Lib.hid hL'
                clear hL hL' TL SZ TS TO bL
                go_wp2_with fail
                go_meet
                exact ⟨by rw [HL'.out], rfl⟩
              · have hL' : L = c + r - d := by rw [hL, if_neg hba]
                have hba' : decide (b < a) = false := decide_eq_false hba
                have HL' := Lib.hid hL'
                clear hL hL' TL SZ TS TO bL
                go_wp2_with fail
                go_meet
                exact ⟨by rw [HL'.out], rfl⟩
            case rest =>
            obtain ⟨rfl, rfl⟩ := hcut
            obtain ⟨mx, hmx⟩ : ∃ mx, mx = max a b := ⟨_, rfl⟩
            obtain ⟨mn, hmn⟩ : ∃ mn, mn = min a b := ⟨_, rfl⟩
            have CX := Lib.hid (fun w => maxV_any a b w)
            have CN := Lib.hid (fun w => minV_any a b w)
            rw [← hmx] at CX
            rw [← hmn] at CN
            obtain ⟨PU, hPU⟩ : ∃ PU, PU = pUp mx mn s.p := ⟨_, rfl⟩
            obtain ⟨HU, hHU⟩ : ∃ HU, HU = hUp mx L s.p s.h := ⟨_, rfl⟩
            have TN : Hid (trTo k xs (i + 1) = ⟨PU, HU, s.o ++ [(i : Int)]⟩) := by
              show _ = _
              rw [TS.out]
              unfold trStep
              rw [dA, dB, if_neg hab, TL.out, ← hmx, ← hmn, ← hPU, ← hHU]
            have PUL : Hid (PU.length = k) := by show _ = _; rw [hPU, pUp_len]; exact SZ.out.lp.symm
            have HUL : Hid (HU.length = k) := by show _ = _; rw [hHU, hUp_len _ _ _ _ (by rw [← SZ.out.lp, SZ.out.lh])]; exact SZ.out.lp.symm
            have SPL : Hid (s.p.length = k) := SZ.out.lp.symm
            have SHL : Hid (s.h.length = k) := SZ.out.lh.symm
            have PUG : Hid (∀ (q : Nat) x, s.p[q]? = some x → PU[q]? = some (if x = mx then mn else x)) := fun q x hx => by
              rw [hPU]; unfold pUp; rw [List.getElem?_map, hx]; rfl
            have HUG : Hid (∀ (q : Nat) x y, s.p[q]? = some x → s.h[q]? = some y → HU[q]? = some (if x = mx then y + L else y)) := fun q x y hx hy => by
              rw [hHU]; unfold hUp; rw [List.getElem?_zipWith, hx, hy]
            have S6 : Hid (TreeSt w.heap.size w wz (m + 1) k g1 cap1 pb cp hb ch (s.o ++ [(i : Int)]) (mixL PU s.p 0) (mixL HU s.h 0)) := by rw [mixL_zero, mixL_zero]; exact SZ.out
            clear hL TL dA dB dC dD TS hmx hmn hPU hHU SZ bc0 bc1 bd0 bd1 pa pb' pc pd
            obtain ⟨⟨p0, p1⟩, -, -⟩ := boxedSv_at G6.out
            go_wp2
            go_loopw [14] (fun qv wr => ∃ q : Nat, q ≤ k ∧ qv = .int .i64 q ∧ Hid (TreeSt w.heap.size w wr (m + 1) k g1 cap1 pb cp hb ch (s.o ++ [(i : Int)]) (mixL PU s.p q) (mixL HU s.h q))) (fun qv _ => k - (intOf qv).toNat)
            case atStart => exact ⟨0, by omega, rfl, S6.out⟩
            case round =>
              obtain ⟨q, hq, rfl, hs⟩ := hrel
              clear S6 p0 p1 G6
              obtain ⟨⟨p0, p1⟩, -, -⟩ := boxedSv_at ((hs.out.b.block G lG).trans HG.out)
              by_cases hlq : q < k
              · obtain ⟨y, hy⟩ : ∃ y, s.p[q]? = some y := ⟨_, List.getElem?_eq_getElem (by have := SPL.out; omega)⟩
                obtain ⟨z, hz⟩ : ∃ z, s.h[q]? = some z := ⟨_, List.getElem?_eq_getElem (by have := SHL.out; omega)⟩
                obtain ⟨cy, fy⟩ := own_cell hs.out.op hs.out.lp.symm ((mixL_get PUL.out SPL.out hlq).trans hy)
                obtain ⟨cz, fz⟩ := own_cell hs.out.oh hs.out.lh.symm ((mixL_get HUL.out SHL.out hlq).trans hz)
                have gy := PUG.out q y hy
                have gz := HUG.out q y z hy hz
                have bz0 := TO.out.b0 q hlq
                have bz1 := TO.out.b1 q hlq
                rw [show s.h.getD q 0 = z by simp [hz]] at bz0 bz1
                have q5 : IntKind.i64.wrap (z + L) = z + L := IntWalk.i64_in _ (by omega)
                by_cases hyx : y = mx
                · have e2 : ((y : Int) == mx) = true := by simpa using hyx
                  rw [if_pos hyx] at gy gz
                  have GY := Lib.hid gy
                  have GZ := Lib.hid gz
                  clear gy gz hyx hy hz bz0 bz1 PUG HUG
                  go_wp2
                  go_quiet ((first | (go_at_call 69; (with_reducible refine (CX.out _).mono ?_); exact fun _ _ h => ⟨h.1, ⟨_, h.2.symm⟩⟩)))
                  have S7 : Hid (TreeSt w.heap.size w (wr.drewN nq) (m + 1) k g1 cap1 pb cp hb ch (s.o ++ [(i : Int)]) (mixL PU s.p q) (mixL HU s.h q)) :=
                    ⟨hs.out.oo, hs.out.op, hs.out.oh, hs.out.n1, hs.out.n2, hs.out.n3, hs.out.lo, hs.out.lp, hs.out.lh, below_drewN hs.out.b _⟩
                  have k0 : (wr.drewN nq).cell? ⟨pb, q, none⟩ = some (.int .i64 y) := cy
                  have k1 : (wr.drewN nq).frozen? ⟨pb, q, none⟩ = false := fy
                  have k2 : (wr.drewN nq).cell? ⟨hb, q, none⟩ = some (.int .i64 z) := cz
                  have k3 : (wr.drewN nq).frozen? ⟨hb, q, none⟩ = false := fz
                  clear hs cy fy cz fz p0 p1
                  generalize wr.drewN nq = w7 at *
                  have nph := S7.out.n3
                  have nhp : ¬ hb = pb := Ne.symm nph
                  have S8 : Hid (TreeSt w.heap.size w ((w7.setCell ⟨pb, q, none⟩ (.int .i64 mn)).setCell ⟨hb, q, none⟩ (.int .i64 (z + L))) (m + 1) k g1 cap1 pb cp hb ch (s.o ++ [(i : Int)]) (mixL PU s.p (q + 1)) (mixL HU s.h (q + 1))) := by
                    have h := S7.out
                    have o1 := h.op.stored h.lp q mn (by rw [← h.lp]; exact hlq)
                    rw [mixL_set PUL.out SPL.out GY.out] at o1
                    have o2 := (own_setT h.oh nhp : OwnI (w7.setCell ⟨pb, q, none⟩ (.int .i64 mn)) _ _ _).stored h.lh q (z + L) (by rw [← h.lh]; exact hlq)
                    rw [mixL_set HUL.out SHL.out GZ.out] at o2
                    refine ⟨own_setT (own_setT h.oo h.n1) h.n2, own_setT o1 nph, o2, h.n1, h.n2, h.n3, h.lo, ?_, ?_, ?_⟩
                    · rw [mixL_len PUL.out SPL.out (by omega)]
                    · rw [mixL_len HUL.out SHL.out (by omega)]
                    · exact (h.b.setCell (p := ⟨pb, q, none⟩) (h.op.lt pb rfl).1 _).setCell (p := ⟨hb, q, none⟩) (h.oh.lt hb rfl).1 _
                  clear S7 GY GZ
                  go_wp2_with fail
                  refine (CN.out _).mono ?_
                  rintro e w8 ⟨rfl, rfl⟩
                  go_wp2
                  exact ⟨⟨q + 1, by omega, by go_num, S8.out⟩, by simp only [intOf]; omega⟩
                · have e2 : ((y : Int) == mx) = false := by simpa using hyx
                  rw [if_neg hyx] at gy gz
                  have S7 : Hid (TreeSt w.heap.size w wr (m + 1) k g1 cap1 pb cp hb ch (s.o ++ [(i : Int)]) (mixL PU s.p (q + 1)) (mixL HU s.h (q + 1))) := by
                    show TreeSt _ _ _ _ _ _ _ _ _ _ _ _ _ _
                    rw [mixL_same PUL.out SPL.out hlq (gy.trans hy.symm), mixL_same HUL.out SHL.out hlq (gz.trans hz.symm)]
                    exact hs.out
                  clear gy gz hyx hy hz bz0 bz1 PUG HUG hs
                  go_wp2
                  go_quiet ((first | (go_at_call 69; (with_reducible refine (CX.out _).mono ?_); exact fun _ _ h => ⟨h.1, ⟨_, h.2.symm⟩⟩)))
                  have S8 : Hid (TreeSt w.heap.size w (wr.drewN nq) (m + 1) k g1 cap1 pb cp hb ch (s.o ++ [(i : Int)]) (mixL PU s.p (q + 1)) (mixL HU s.h (q + 1))) :=
                    ⟨S7.out.oo, S7.out.op, S7.out.oh, S7.out.n1, S7.out.n2, S7.out.n3, S7.out.lo, S7.out.lp, S7.out.lh, below_drewN S7.out.b _⟩
                  clear S7 cy fy cz fz p0 p1
                  generalize wr.drewN nq = w7 at *
                  go_wp2
                  exact ⟨⟨q + 1, by omega, by go_num, S8.out⟩, by simp only [intOf]; omega⟩
              · obtain rfl : q = k := by omega
                have S7 : Hid (TreeSt w.heap.size w wr (m + 1) q g1 cap1 pb cp hb ch (trTo q xs (i + 1)).o (trTo q xs (i + 1)).p (trTo q xs (i + 1)).h) := by
                  have h := hs.out
                  rw [mixL_all PUL.out SPL.out, mixL_all HUL.out SHL.out] at h
                  show TreeSt _ _ _ _ _ _ _ _ _ _ _ _ _ _
                  rw [TN.out]
                  exact h
                clear hs PUG HUG TN
                go_wp2
                exact ⟨⟨i + 1, m + 1, g1, cap1, by omega, by go_num, rfl, by omega, S7.out⟩, by simp only [intOf]; omega⟩
        · obtain rfl : i = n0 := by omega
          have AL : Hid (trAll (trTo k xs i) = true ↔ ∀ q, q < k → (trTo k xs i).p[q]? = some 0) := by
            show _ ↔ _
            unfold trAll
            rw [getD_all, ← hs.out.lp]
            constructor
            · intro h q hq
              have := h q hq
              rw [List.getD_eq_getElem?_getD, List.getElem?_eq_getElem (by rw [← hs.out.lp]; exact hq)] at this
              rw [List.getElem?_eq_getElem (by rw [← hs.out.lp]; exact hq)]
              simpa using this
            · intro h q hq
              rw [List.getD_eq_getElem?_getD, h q hq]; rfl
          obtain ⟨sp, hsp⟩ : ∃ sp, sp = (trTo k xs i).p := ⟨_, rfl⟩
          have SPL : Hid (sp.length = k) := by show _ = _; rw [hsp]; exact hs.out.lp.symm
          rw [← hsp] at AL hs
          clear hsp
          go_wp2
          go_loopw [15] (fun qv wr' => ∃ q : Nat, q ≤ k ∧ qv = .int .i64 q ∧ Hid (∀ j, j < q → sp[j]? = some 0) ∧ wr = wr') (fun qv _ => k - (intOf qv).toNat)
          case atStart => exact ⟨0, by omega, rfl, fun j hj => by omega, rfl⟩
          case round =>
            obtain ⟨q, hq, rfl, hz, rfl⟩ := hrel
            by_cases hlq : q < k
            · obtain ⟨y, hy⟩ : ∃ y, sp[q]? = some y := ⟨_, List.getElem?_eq_getElem (by have := SPL.out; omega)⟩
              obtain ⟨cy, fy⟩ := own_cell hs.out.op hs.out.lp.symm hy
              by_cases h0 : y = 0
              · have e2 : ((y : Int) != 0) = false := by simpa using h0
                have hz' : Hid (∀ j, j < q + 1 → sp[j]? = some 0) := fun j hj => by
                  by_cases e : j < q
                  · exact hz.out j e
                  · obtain rfl : j = q := by omega
                    rw [hy, h0]
                subst h0
                clear hz hy
                go_wp2
                exact ⟨⟨q + 1, by omega, by go_num, hz', by trivial⟩, by simp only [intOf]; omega⟩
              · have e2 : ((y : Int) != 0) = true := by simpa using h0
                have hf : trAll (trTo k xs i) = false := by
                  cases h : trAll (trTo k xs i)
                  · rfl
                  · have := AL.out.mp h q hlq
                    rw [hy] at this
                    exact absurd (Option.some.inj this) h0
                have HFF := Lib.hid hf
                have BB := Lib.hid hs.out.b
                clear hz hy hf AL hs h0
                go_wp2
                go_returns
                exact ⟨BB.out, .inl ⟨HFF.out, rfl⟩⟩
            · obtain rfl : q = k := by omega
              have hf : trAll (trTo q xs i) = true := AL.out.mpr hz.out
              have HFF := Lib.hid hf
              have h := hs.out
              have OO := Lib.hid h.oo
              have OH := Lib.hid h.oh
              have BB := Lib.hid h.b
              clear hz hf AL hs h
              go_wp2
              go_returns
              exact ⟨BB.out, .inr ⟨HFF.out, _, _, rfl, OO.out, OH.out⟩⟩
end Go.Proofs.YtcmocilojloolaaDoor
