/- The greatest excess: the program. -/
import Derived.Test.YtobfephcmiolbaaMuckB
import Derived.Test.YtobfephcmiolbaaStoreWn
namespace Go.Proofs.Ytobfephcmiolbaa
open Go.ChangeShapes Go.WideShapes Go.ChangeAt Go.RowKit
set_option linter.unusedVariables false
set_option linter.unusedSimpArgs false

set_option maxHeartbeats 2000000 in
theorem nextWin_any (f l s x : Int) (f' s' : Int) (h0 : 0 ≤ l) (h1 : l ≤ 1000) (h2 : -1000000000 ≤ s) (h3 : s ≤ 1000000000) (h4 : -10000000 ≤ x) (h5 : x ≤ 10000000)
    (hn : (s < 0 ∧ f' = l + 1 ∧ s' = x) ∨ (0 ≤ s ∧ f' = f ∧ s' = s + x)) (w : World) :
    Calls Try.prog 62 #[.agg #[.int .i64 f, .int .i64 l, .int .i64 s], .int .i64 x] w fun e w' => e = .returned (.agg #[.int .i64 f', .int .i64 (l + 1), .int .i64 s']) ∧ Below w.heap.size w w' := by
  have q1 : IntKind.i64.wrap (l + 1) = l + 1 := IntWalk.i64_in _ (by omega)
  rcases hn with ⟨g, rfl, rfl⟩ | ⟨g, rfl, rfl⟩
  · go_enter Try.func62, Try.ntmps62
    go_wp2
    refine bodyPost_ret (v := .agg #[.int .i64 (l + 1), .int .i64 (l + 1), .int .i64 s']) (by simp [results, Try.results62, go_sem]; try rfl) rfl ⟨rfl, ?_⟩
    go_grown
  · have q2 : IntKind.i64.wrap (s + x) = s + x := IntWalk.i64_in _ (by omega)
    go_enter Try.func62, Try.ntmps62
    go_wp2
    refine bodyPost_ret (v := .agg #[.int .i64 f', .int .i64 (l + 1), .int .i64 (s + x)]) (by simp [results, Try.results62, go_sem]; try rfl) rfl ⟨rfl, ?_⟩
    go_grown

theorem wins_bd {zs : List Int} {al : Int} {k hf f u : Nat} {hs m : Int} (h : Wins zs al k hf hs f u m) (hb : Bal zs) (ha : Bnd al) (hk : k < zs.length) : -1000000000 ≤ hs ∧ hs ≤ 1000000000 ∧ -1000000000 ≤ m ∧ m ≤ 1000000000 ∧ hf ≤ k ∧ f ≤ u ∧ u ≤ k := by
  have h1 := pre_bd hb.2 ha (k + 1) (by omega)
  have h2 := pre_bd hb.2 ha hf (by have := h.hle; omega)
  have h3 := pre_bd hb.2 ha (u + 1) (by have := h.best.lt; omega)
  have h4 := pre_bd hb.2 ha f (by have := h.best.lt; have := h.best.le; omega)
  have := hb.1
  have := h.heq; have := h.best.eq; have := h.best.le; have := h.best.lt; have := h.hle
  omega

/-- What greatestWindow's loop keeps. -/
structure WinSt (zs : List Int) (al : Int) (w wr : World) (s0 s1 s2 k hf : Nat) (hs : Int) (bf bu : Nat) (bm : Int) : Prop where
  wins : Wins zs al k hf hs bf bu bm
  n2 : wr.heap[s0]? = some (.cells #[.int .i64 (⟨0, 0, 0⟩ : Wn).f, .int .i64 (⟨0, 0, 0⟩ : Wn).l, .int .i64 (⟨0, 0, 0⟩ : Wn).s] 57 (0, 0))
  n3 : wr.heap[s1]? = some (.cells #[.int .i64 (⟨hf, k, hs⟩ : Wn).f, .int .i64 (⟨hf, k, hs⟩ : Wn).l, .int .i64 (⟨hf, k, hs⟩ : Wn).s] 57 (0, 0))
  n4 : wr.heap[s2]? = some (.cells #[.int .i64 (⟨bf, bu, bm⟩ : Wn).f, .int .i64 (⟨bf, bu, bm⟩ : Wn).l, .int .i64 (⟨bf, bu, bm⟩ : Wn).s] 57 (0, 0))
  below : Below w.heap.size w wr

set_option maxRecDepth 100000 in
set_option maxHeartbeats 8000000 in
theorem greatestWin_any (B : Nat) (v : Value) (zs : List Int) (al : Int) (w : World) (h : OwnI w B v (exL zs al)) (hb : Bal zs) (ha : Bnd al) (h0 : 0 < zs.length) (f u : Nat) (m : Int) (hB : IsBest zs al zs.length f u m) :
    Calls Try.prog 50 #[v] w fun e w' => e = .returned (.agg #[.int .i64 f, .int .i64 u, .int .i64 m]) ∧ Below w.heap.size w w' := by
  obtain ⟨n, hn⟩ : ∃ n, n = zs.length := ⟨_, rfl⟩
  have LE : (exL zs al).length = n := by rw [exL_len]; exact hn.symm
  have ln : n ≤ 60 := by have := hb.1; omega
  have n1 : 1 ≤ n := by omega
  have h' := h
  obtain ⟨-, ⟨-, h2⟩ | ⟨g, cap, cur, rfl, hg, hcur, hcap, hmax, hsz, -⟩⟩ := h'
  · omega
  have lg : g < w.heap.size := (Array.getElem?_eq_some_iff.1 hcur).1
  have G : Hid (∀ (i : Nat) x, zs[i]? = some x → w.cell? ⟨g, i, none⟩ = some (.int .i64 (x - al))) := by
    intro i x hx
    obtain ⟨a', c', hv, h2⟩ := h.rd
    simp only [Value.slice.injEq] at hv
    obtain ⟨rfl, -, -⟩ := hv
    obtain ⟨b', o', hb', hc⟩ := h2.resolve_left (by intro h; rw [h] at LE; simp at LE; omega)
    simp only [Option.some.injEq, Addr.mk.injEq, and_true] at hb'
    obtain ⟨rfl, rfl⟩ := hb'
    have := hc i _ (exL_get (al := al) hx)
    rwa [Nat.zero_add] at this
  rw [LE]
  rw [LE] at hcap
  have HN := Lib.hid hn
  have HW := Lib.hid (fun k hf hs bf bu bm (W : Wins zs al k hf hs bf bu bm) hk => wins_bd W hb ha hk)
  have HX := Lib.hid (fun (k : Nat) x (hx : zs[k]? = some x) => hb.2.at hx)
  have HBE := Lib.hid hB
  obtain ⟨a0, a1⟩ := ha
  clear hcur hsz h hn LE hb hB
  obtain ⟨x0, hx0⟩ : ∃ x, zs[0]? = some x := ⟨_, List.getElem?_eq_getElem h0⟩
  have c0 := G.out 0 x0 hx0
  have W0 := Lib.hid (wins_zero zs al x0 hx0)
  have ng0 : ¬ g = w.heap.size := by omega
  have ng1 : ¬ g = w.heap.size + 1 := by omega
  have ng2 : ¬ g = w.heap.size + 1 + 1 := by omega
  have b0 := Lib.hid (box3_0 w (.cells #[.int .i64 0, .int .i64 0, .int .i64 0] 57) (.cells #[.int .i64 0, .int .i64 0, .int .i64 (x0 - al)] 57) (.cells #[.int .i64 0, .int .i64 0, .int .i64 (x0 - al)] 57))
  have b1 := Lib.hid (box3_1 w (.cells #[.int .i64 0, .int .i64 0, .int .i64 0] 57) (.cells #[.int .i64 0, .int .i64 0, .int .i64 (x0 - al)] 57) (.cells #[.int .i64 0, .int .i64 0, .int .i64 (x0 - al)] 57))
  have b2 := Lib.hid (box3_2 w (.cells #[.int .i64 0, .int .i64 0, .int .i64 0] 57) (.cells #[.int .i64 0, .int .i64 0, .int .i64 (x0 - al)] 57) (.cells #[.int .i64 0, .int .i64 0, .int .i64 (x0 - al)] 57))
  clear hx0
  have ex : ∃ c o : Nat, (cap = 1 ∧ n = 1) ∨ (¬ cap = 1) := ⟨0, 0, by omega⟩
  obtain ⟨-, -, ex⟩ := ex
  rcases ex with ⟨rfl, rfl⟩ | hc1
  · go_enter Try.func50, Try.ntmps50
    go_wp2
    refine wp_loop_rounds 1 ?_
    rw [rounds_succ]
    go_wp2
    have e := HBE.out.uniq (by rw [← HN.out]; exact W0.out.best)
    obtain ⟨rfl, rfl, rfl⟩ := e
    refine bodyPost_ret (v := .agg #[.int .i64 0, .int .i64 0, .int .i64 (x0 - al)]) (by simp [results, Try.results50, go_sem]; try rfl) rfl ⟨rfl, ?_⟩
    go_grown
  · go_enter Try.func50, Try.ntmps50
    go_wp2
    obtain ⟨s0, hs0⟩ : ∃ s, s = w.heap.size := ⟨_, rfl⟩
    obtain ⟨s1, hs1⟩ : ∃ s, s = w.heap.size + 1 := ⟨_, rfl⟩
    obtain ⟨s2, hs2⟩ : ∃ s, s = w.heap.size + 1 + 1 := ⟨_, rfl⟩
    rw [← hs0] at b0
    rw [← hs1] at b1
    rw [← hs2] at b2
    rw [← hs2, ← hs1, ← hs0]
    have t0 : w.heap.size ≤ s0 := by omega
    have t1 : s0 < s1 := by omega
    have t2 : s1 < s2 := by omega
    have ng3 : ¬ g = s0 := by omega
    clear ng0 ng1 ng2
    have S0 : Hid (WinSt zs al w _ s0 s1 s2 0 0 (x0 - al) 0 0 (x0 - al)) := ⟨W0.out, b0.out, b1.out, b2.out, by go_grown⟩
    clear hs0 hs1 hs2
    go_loopw [15] (fun iv wr => ∃ (k hf : Nat) (hs : Int) (bf bu : Nat) (bm : Int), k + 1 ≤ n ∧ iv = .int .i64 k ∧ Hid (WinSt zs al w wr s0 s1 s2 k hf hs bf bu bm)) (fun iv _ => n - (intOf iv).toNat)
    case atStart => exact ⟨0, 0, _, 0, 0, _, by omega, rfl, S0⟩
    case round =>
      obtain ⟨k, hf, hs, bf, bu, bm, hk, rfl, ST⟩ := hrel
      clear S0 b0 b1 b2 W0
      obtain ⟨ww, n2, n3, n4, bl⟩ := ST.out
      have N2 := Lib.hid n2
      have N4 := Lib.hid n4
      have BL := Lib.hid bl
      have WW := Lib.hid ww
      obtain ⟨d0, d1, d2, d3, d4, d5, d6⟩ := HW.out k hf hs bf bu bm ww (by have := HN.out; omega)
      have sz := bl.size
      have l2 := (Array.getElem?_eq_some_iff.1 n4).1
      by_cases hlt : k + 1 < n
      · obtain ⟨x, hx⟩ : ∃ x, zs[k + 1]? = some x := ⟨_, List.getElem?_eq_getElem (by have := HN.out; omega)⟩
        obtain ⟨x0', x1'⟩ := HX.out _ x hx
        have gx := G.out _ x hx
        rw [Nat.add_comm k 1] at gx
        have c1 := (bl.cell (p := ⟨g, 1 + k, none⟩) lg).trans gx
        clear gx
        obtain ⟨⟨k0, k1, k2⟩, -, -⟩ := boxWn_at (q := (⟨hf, k, hs⟩ : Wn)) n3
        have lt1 : (k : Int) < ((n - 1 : Nat) : Int) := by omega
        have sx : Hid (∀ (hf' : Nat) (hs' : Int), ((hs < 0 ∧ hf' = k + 1 ∧ hs' = x - al) ∨ (0 ≤ hs ∧ hf' = hf ∧ hs' = hs + (x - al))) → ∀ (f1 u1 : Nat) (m1 : Int), ((bm < hs' ∧ f1 = hf' ∧ u1 = k + 1 ∧ m1 = hs') ∨ (hs' ≤ bm ∧ f1 = bf ∧ u1 = bu ∧ m1 = bm)) → Wins zs al (k + 1) hf' hs' f1 u1 m1) :=
          fun hf' hs' hn f1 u1 m1 hb => wins_step ww hx hf' hs' hn f1 u1 m1 hb
        obtain ⟨hf', hs', hn'⟩ : ∃ (hf' : Nat) (hs' : Int), (hs < 0 ∧ hf' = k + 1 ∧ hs' = x - al) ∨ (0 ≤ hs ∧ hf' = hf ∧ hs' = hs + (x - al)) := by
          by_cases g : hs < 0
          · exact ⟨k + 1, _, .inl ⟨g, rfl, rfl⟩⟩
          · exact ⟨hf, _, .inr ⟨by omega, rfl, rfl⟩⟩
        have NW := Lib.hid (fun w => nextWin_any hf k hs (x - al) hf' hs' (by omega) (by omega) (by omega) (by omega) (by omega) (by omega) (by omega) w)
        have SX := Lib.hid (sx.out hf' hs' hn')
        have N3 := Lib.hid n3
        have l0 := (Array.getElem?_eq_some_iff.1 n2).1
        have l1 := (Array.getElem?_eq_some_iff.1 n3).1
        clear sx hn' hx ww ST bl n2 n3 n4
        go_wp2_with fail
        refine (NW.out _).mono ?_
        rintro e w2 ⟨rfl, b2⟩
        have M2 := Lib.hid ((b2.block s0 l0).trans N2.out)
        have M3 := Lib.hid ((b2.block s1 l1).trans N3.out)
        have M4 := Lib.hid ((b2.block s2 l2).trans N4.out)
        have BM : Hid (Below w.heap.size w w2) := BL.out.trans (b2.mono sz)
        clear b2 N2 N3 N4 BL k0 k1 k2 NW c1
        by_cases g : bm < hs'
        · have W1 := SX.out hf' (k + 1) hs' (.inl ⟨g, rfl, rfl, rfl⟩)
          have WH := Lib.hid W1
          have d : decide (bm < hs') = true := by simpa using g
          clear W1 g
          go_wp2_with (first | (refine wpList_store_Wn rfl _ _ rfl s1 (⟨hf, k, hs⟩ : Wn) (⟨hf', (k : Int) + 1, hs'⟩ : Wn) _ rfl rfl M3.out ?_; intro w3 h3 o3 b3; have P2 := Lib.hid ((o3 s0 (by omega)).trans M2.out); have P4 := Lib.hid ((o3 s2 (by omega)).trans M4.out); have P3 := Lib.hid h3; have BP : Hid (Below w.heap.size w w3) := BM.out.trans (b3.mono (by omega)); obtain ⟨⟨p0, p1, p2⟩, -, -⟩ := boxWn_at (q := (⟨hf', (k : Int) + 1, hs'⟩ : Wn)) h3; obtain ⟨⟨r0, r1, r2⟩, -, -⟩ := boxWn_at (q := (⟨bf, bu, bm⟩ : Wn)) P4.out; dsimp only at p0 p1 p2 r0 r1 r2; clear h3 o3 b3) | (refine wpList_store_Wn rfl _ _ rfl s2 (⟨bf, bu, bm⟩ : Wn) (⟨hf', (k : Int) + 1, hs'⟩ : Wn) _ rfl rfl P4.out ?_; intro w4 h4 o4 b4; have Q2 := Lib.hid ((o4 s0 (by omega)).trans P2.out); have Q3 := Lib.hid ((o4 s1 (by omega)).trans P3.out); have Q4 := Lib.hid h4; have BQ : Hid (Below w.heap.size w w4) := BP.out.trans (b4.mono (by omega)); clear h4 o4 b4 p0 p1 p2 r0 r1 r2) | fail)
          have STn : Hid (WinSt zs al w w4 s0 s1 s2 (k + 1) hf' hs' hf' (k + 1) hs') := ⟨WH.out, Q2.out, by have := Q3.out; simpa using this, by have := Q4.out; simpa using this, BQ.out⟩
          exact ⟨⟨k + 1, hf', hs', hf', k + 1, hs', by omega, by go_num, STn⟩, by simp only [intOf]; omega⟩
        · have W1 := SX.out bf bu bm (.inr ⟨by omega, rfl, rfl, rfl⟩)
          have WH := Lib.hid W1
          have d : decide (bm < hs') = false := by simpa using g
          clear W1 g
          go_wp2_with (first | (refine wpList_store_Wn rfl _ _ rfl s1 (⟨hf, k, hs⟩ : Wn) (⟨hf', (k : Int) + 1, hs'⟩ : Wn) _ rfl rfl M3.out ?_; intro w3 h3 o3 b3; have P2 := Lib.hid ((o3 s0 (by omega)).trans M2.out); have P4 := Lib.hid ((o3 s2 (by omega)).trans M4.out); have P3 := Lib.hid h3; have BP : Hid (Below w.heap.size w w3) := BM.out.trans (b3.mono (by omega)); obtain ⟨⟨p0, p1, p2⟩, -, -⟩ := boxWn_at (q := (⟨hf', (k : Int) + 1, hs'⟩ : Wn)) h3; obtain ⟨⟨r0, r1, r2⟩, -, -⟩ := boxWn_at (q := (⟨bf, bu, bm⟩ : Wn)) P4.out; dsimp only at p0 p1 p2 r0 r1 r2; clear h3 o3 b3) | fail)
          have STn : Hid (WinSt zs al w w3 s0 s1 s2 (k + 1) hf' hs' bf bu bm) := ⟨WH.out, P2.out, by have := P3.out; simpa using this, P4.out, BP.out⟩
          exact ⟨⟨k + 1, hf', hs', bf, bu, bm, by omega, by go_num, STn⟩, by simp only [intOf]; omega⟩
      · have e := HBE.out.uniq (by rw [← HN.out]; have := ww.best; rwa [show k + 1 = n by omega] at this)
        obtain ⟨rfl, rfl, rfl⟩ := e
        have ge1 : ¬ (k : Int) < ((n - 1 : Nat) : Int) := by omega
        obtain ⟨⟨k0, k1, k2⟩, -, -⟩ := boxWn_at (q := (⟨f, u, m⟩ : Wn)) n4
        clear n2 n3 n4 bl ww ST
        go_wp2_with (first | (refine wpList_store_Wn rfl _ _ rfl s0 (⟨0, 0, 0⟩ : Wn) (⟨f, u, m⟩ : Wn) _ rfl rfl N2.out ?_; intro wE hE oE bE) | fail)
        have PE := Lib.hid hE
        have BE : Hid (Below w.heap.size w wE) := BL.out.trans (bE.mono (by omega))
        clear hE oE bE
        obtain ⟨⟨g0, g1, g2⟩, -, -⟩ := boxWn_at (q := (⟨f, u, m⟩ : Wn)) PE.out
        go_wp2
        refine bodyPost_ret (v := .agg #[.int .i64 f, .int .i64 u, .int .i64 m]) (by simp [results, Try.results50, go_sem, g0, g1, g2]; try rfl) rfl ⟨rfl, BE.out⟩
end Go.Proofs.Ytobfephcmiolbaa
