/- Texts that are divided at a byte, and their numbers: the program. -/
import Derived.Test.YtkdecpnbbpmooacDoorSpMath
import Derived.Test.YtkdecpnbbpmooacDoorRd
import Derived.Test.YtkdecpnbbpmooacDoorInts
import Derived.Test.YtkdecpnbbpmooacDoorRecs
import Derived.Deep.AppendLies
import Derived.Deep.DeepCutAuto
namespace Go.Proofs.YtkdecpnbbpmooacDoor
open Go.ChangeShapes Go.WideShapes Go.ChangeAt Go.RowKit
set_option linter.unusedVariables false
set_option linter.unusedSimpArgs false

theorem splitB_size (sep : ByteArray) (save : Nat) : ∀ (k : Nat) (s x : ByteArray), x ∈ Lib.splitB sep save k s → x.size ≤ s.size := by
  intro k
  induction k with
  | zero => intro s x h; simp only [Lib.splitB, List.mem_singleton] at h; rw [h]; exact Nat.le_refl _
  | succ k ih =>
    intro s x h
    unfold Lib.splitB at h
    split at h
    · rw [List.mem_singleton] at h; rw [h]; exact Nat.le_refl _
    · rw [List.mem_cons] at h
      rcases h with h | h
      · rw [h, ByteArray.size_extract]; omega
      · have := ih _ x h
        rw [ByteArray.size_extract] at this
        omega

/-- .. and what the division takes. -/
def TSp (w : World) : Prop := TErr w ∧ (∃ m, w.cell? ⟨4, 0, none⟩ = some (.int .i64 m))
theorem TSp.later {w w' : World} (h : TSp w) (b : Below w.heap.size w w') : TSp w' := by
  obtain ⟨h1, m, h2⟩ := h
  exact ⟨h1.later b, m, (b.cell (p := ⟨4, 0, none⟩) (World.block_lt_of_cell? w _ h2)).trans h2⟩
theorem TSp.ofS {W : World} {a b c : String × DataW Unit} {rest : List (String × DataW Unit)} (h : laidMet Tryd.prog (a :: b :: ("internal/strconv.uint64pow10", Rows.laid_internal_strconv_uint64pow10) :: c :: ("strconv.ErrRange", Rows.laid_strconv_ErrRange) :: ("strconv.ErrSyntax", Rows.laid_strconv_ErrSyntax) :: rest) W) (hs : W.ShapedOpen Tryd.prog) : TSp W :=
  ⟨TErr.of1 h, Tryd.laysM147.s1_3 W hs⟩

theorem info_i64s : (Tryd.prog.info? 2).map (fun i => (i.zero, i.size, i.bytes)) = some (some (.int .i64 0), 1, 8) := by kernel_rfl

set_option maxRecDepth 100000 in
set_option maxHeartbeats 8000000 in
theorem splitInts_any (s : ByteArray) (hs : s.size ≤ 1048576) (c : UInt8) (most : Nat) (hm : 1 ≤ most) (hm2 : most ≤ 1000) (xs : List Int) (b : Bool) (h : SplitRes c most s.data.toList xs b) (w : World) (hT : TSp w) :
    Calls Tryd.prog 27 #[.string s, .string ⟨#[c]⟩, .int .i64 (most : Int), .func (.func 28) #[] #[]] w fun e w' => ∃ v, e = .returned (.tuple #[v, .bool b]) ∧ OwnI w' w.heap.size v xs ∧ Below w.heap.size w w' := by
  obtain ⟨i0, hi, hz0, hz1, hz2⟩ := info_parts info_i64s
  have q0 : IntKind.i64.wrap ((most : Int) + 1) = ((most + 1 : Nat) : Int) := by push_cast; exact IntWalk.i64_in _ (by omega)
  obtain ⟨m, hmc⟩ := hT.2
  have C := Lib.hid (Tryd.strings_SplitN s ⟨#[c]⟩ (most + 1) m w (by omega) hmc (by show 1 ≤ 1; omega) (by omega) (by omega))
  have HD := Lib.hid h
  have HT := Lib.hid hT.1
  -- the words
  obtain ⟨W, hW⟩ : ∃ W, W = Lib.splitB ⟨#[c]⟩ 0 (min (most + 1) (s.size + 1) - 1) s := ⟨_, rfl⟩
  obtain ⟨N, hN⟩ : ∃ N, N = min (most + 1) (s.size + 1) := ⟨_, rfl⟩
  have SL : s.data.toList.length = s.size := by simp
  have WL : W.map (·.data.toList) = Lib.splitK [c] 0 (min (most + 1) (s.size + 1) - 1) s.data.toList := by rw [hW, Lib.splitB_data]
  have wl := wordsL_len c s.data.toList
  have WIN : Hid ((wordsL c s.data.toList).length ≤ most → W.map (·.data.toList) = wordsL c s.data.toList) := fun hk => by
    rw [WL]; exact splitK_words c _ _ (by omega)
  have WOUT : Hid (¬ (wordsL c s.data.toList).length ≤ most → most < W.length) := fun hk => by
    have e := congrArg List.length WL
    rw [List.length_map] at e
    rw [e, splitK_many c _ _ (by omega)]
    omega
  have WB : Hid (∀ x ∈ W, x.size ≤ 1048576) := fun x hx => by
    rw [hW] at hx
    exact Nat.le_trans (splitB_size _ 0 _ s x hx) hs
  have wN : W.length ≤ N := by
    have e := congrArg List.length WL
    rw [List.length_map] at e
    rw [e, hN]
    by_cases hk : (wordsL c s.data.toList).length ≤ most
    · rw [splitK_words c _ _ (by omega)]; omega
    · rw [splitK_many c _ _ (by omega)]; omega
  rw [← hW, ← hN] at C
  have nN : N ≤ 1001 := by omega
  clear hT h hW hN SL WL wl hmc
  have B0 : Hid (Below w.heap.size w (w.alloc (.cells (Lib.cellsOf W N) 9))) := by show Below _ _ _; go_grown
  have CW : Hid (∀ (k : Nat) (x : ByteArray), W[k]? = some x → (w.alloc (.cells (Lib.cellsOf W N) 9)).cell? ⟨w.heap.size, k, none⟩ = some (.string x)) := by
    intro k x hx
    have hN := heap_alloc_new w (.cells (Lib.cellsOf W N) 9)
    have hlt := (List.getElem?_eq_some_iff.1 hx).1
    have e : (Lib.cellsOf W N)[k]? = some (.string x) := by
      simp only [Lib.cellsOf, List.getElem?_toArray]
      rw [List.getElem?_append_left (by rw [List.length_map]; exact hlt), List.getElem?_map, hx]
      rfl
    rw [Lib.cell_of_heap hN]
    exact e
  go_enter Tryd.func27, Tryd.ntmps27
  go_wp2_with fail
  refine C.out.mono ?_
  rintro e u ⟨rfl, rfl⟩
  generalize hu : (w.alloc (.cells (Lib.cellsOf W N) 9)) = u at B0 CW ⊢
  have su : w.heap.size < u.heap.size := by rw [← hu]; simp
  obtain ⟨g, hg⟩ : ∃ g, g = w.heap.size := ⟨_, rfl⟩
  have HG := Lib.hid hg
  rw [← hg] at CW ⊢
  clear hu hg C
  obtain ⟨n, hn⟩ : ∃ n, n = W.length := ⟨_, rfl⟩
  rw [← hn] at wN ⊢
  rw [← hn] at WOUT
  have HN := Lib.hid hn
  clear hn
  by_cases hk : n ≤ most
  · have hkI : ¬ (most : Int) < (n : Int) := by omega
    have wk : (wordsL c s.data.toList).length ≤ most := by
      by_cases h : (wordsL c s.data.toList).length ≤ most
      · exact h
      · have := WOUT.out h; omega
    have WV := Lib.hid (WIN.out wk)
    clear WOUT WIN q0
    go_wp2_with (first | (at_make; refine wpList_make_own _ rfl _ _ _ rfl u.heap.size 2 i0 _ 1 Tryd.underlying47 hi hz0 hz1 .i64 .i64 _ n rfl rfl rfl (by rw [hz2]; omega) (by unfold maxLen; omega) (Nat.le_refl _) ?_) | fail)
    intro u2 hown hgr
    have own0 : Hid (OwnI u2 u.heap.size (.slice (some ⟨u.heap.size, 0, none⟩) 0 n) []) := hown
    have B1 : Hid (Below u.heap.size u u2) := (Below.refl _ _).grown hgr (Nat.le_refl _) (fun k h => by cases h)
    clear hown hgr
    go_wp2
    go_loopw [11, 30] (fun v i wr => ∃ (k : Nat) (ys : List Int), k ≤ n ∧ i = .int .i64 (k : Int) ∧ (∃ ag m cap, v = .slice (some ⟨ag, 0, none⟩) m cap) ∧ Hid (OwnI wr u.heap.size v ys) ∧ Hid (Below u.heap.size u wr) ∧ Hid (Reads ((wordsL c s.data.toList).take k) ys)) (fun _ i _ => n - (intOf i).toNat)
    case atStart => exact ⟨0, [], by omega, by simp, ⟨_, _, _, rfl⟩, own0, B1, Reads.nil⟩
    case round =>
      obtain ⟨k, ys, hkn, rfl, ⟨ag, L, cap0, rfl⟩, OK, BK, RD⟩ := hrel
      clear own0 B1
      have sz := BK.out.size
      have VL : Hid ((wordsL c s.data.toList).length = n) := by
        show _ = _
        rw [← WV.out, List.length_map]; exact HN.out.symm
      by_cases hlt : k < n
      · have hL : L = ys.length := by
          obtain ⟨a, c, h, _⟩ := OK.out.rd
          simp only [Value.slice.injEq] at h
          exact h.2.1
        have yL : ys.length = k := by rw [← RD.out.1, List.length_take, VL.out]; omega
        obtain rfl : k = L := by omega
        clear hL
        obtain ⟨x, hx⟩ : ∃ x, W[k]? = some x := ⟨_, List.getElem?_eq_getElem (by have := HN.out; omega)⟩
        have xw : (wordsL c s.data.toList)[k]? = some x.data.toList := by rw [← WV.out, List.getElem?_map, hx]; rfl
        have xs1 : x.size ≤ 1048576 := WB.out x (List.mem_of_getElem? hx)
        have q1 : IntKind.i64.wrap ((k : Int) + 1) = ((k + 1 : Nat) : Int) := by push_cast; exact IntWalk.i64_in _ (by omega)
        have c0 : wr.cell? ⟨g, k, none⟩ = some (.string x) := (BK.out.cell (p := ⟨g, k, none⟩) (by have := HG.out; show g < u.heap.size; omega)).trans (CW.out k x hx)
        obtain ⟨y, d, hy⟩ := decRes_of x.data.toList
        have CR := Lib.hid (fun w hT => readDecimal_any x xs1 y d hy w hT)
        have XW := Lib.hid xw
        have YL := Lib.hid yL
        have HY := Lib.hid hy
        have tk : TErr wr := (HT.out.later B0.out).later BK.out
        clear hx xw hy yL
        go_wp2_with fail
        refine (CR.out _ tk).mono ?_
        rintro e w2 ⟨rfl, b2⟩
        have z2 := b2.size
        cases d with
        | true =>
          have hyy : ValI y ∧ x.data.toList = Lib.itoa y := by
            rcases HY.out with ⟨m, h1, h2, h3, -⟩ | ⟨-, -, h3⟩
            · subst h3; exact ⟨h1, h2⟩
            · cases h3
          have RD2 : Hid (Reads ((wordsL c s.data.toList).take (k + 1)) (ys ++ [y])) := by
            show Reads _ _
            rw [List.take_add_one, XW.out]
            exact RD.out.snoc _ y hyy.1 hyy.2
          have O2 : Hid (OwnI w2 u.heap.size (.slice (some ⟨ag, 0, none⟩) k cap0) ys) := OK.out.below b2 fun j e => (OK.out.lt j e).2
          have B2 : Hid (Below u.heap.size u w2) := BK.out.trans (b2.mono sz)
          have own := O2.out
          unfold OwnI at own
          rw [YL.out] at own
          have OWN := Lib.hid own
          clear own b2 OK BK CR c0 RD tk hyy
          go_wp2_with (first | (at_builtin; refine wpList_append_lies _ rfl _ _ _ rfl u.heap.size 2 i0 _ 1 8 Tryd.underlying47 hi hz0 hz1 hz2 rfl (by omega) _ _ _ rfl (OWN.out.alloc _) ⟨w2.heap.size, 0, none⟩ 1 1 [.int .i64 y] rfl rfl (World.news_of_block (cs := #[.int .i64 y]) (t := 2) (fr := (0, 0)) (heap_alloc_new w2 _)) (by simp [Value.oneCell']) (by omega) (by unfold maxLen; omega) (by omega) (by simp only [World.size_alloc]; omega) _ rfl ?_) | fail)
          intro gg cap1 w5 hown1 hgrow hat hlt'
          have O5 : Hid (OwnI w5 u.heap.size (.slice (some ⟨gg, 0, none⟩) (k + 1) cap1) (ys ++ [y])) := by
            show OwnI _ _ _ _
            unfold OwnI
            rw [List.length_append, YL.out, List.map_append]
            exact hown1
          have gr := grownBy_trans' (World.grownBy_alloc w2 _ _) hgrow
          have B5 : Hid (Below u.heap.size u w5) := B2.out.grown gr (by omega) (fun j e => (O2.out.lt j e).1)
          clear hown1 hgrow hat hlt' OWN O2 B2 gr
          go_wp2
          exact ⟨⟨k + 1, ys ++ [y], by omega, by push_cast; rfl, ⟨_, _, _, rfl⟩, O5, B5, RD2⟩, by simp only [intOf]; omega⟩
        | false =>
          have hyy : ∀ m, ValI m → x.data.toList ≠ Lib.itoa m := by
            rcases HY.out with ⟨m, -, -, -, h3⟩ | ⟨h1, -, -⟩
            · cases h3
            · exact h1
          obtain ⟨rfl, rfl⟩ := splitRes_no HD.out (fun hh => by
            obtain ⟨-, zs, hz⟩ := hh
            exact Reads.bad XW.out hyy zs hz)
          have B2 : Hid (Below w.heap.size w w2) := B0.out.trans ((BK.out.trans (b2.mono sz)).mono (by omega))
          clear b2 OK BK CR c0 RD tk hyy
          go_wp2
          go_ret2
          exact ⟨_, rfl, World.ownsRow_nil _ _ _ _, B2.out⟩
      · obtain rfl : k = n := by omega
        have rr : Reads (wordsL c s.data.toList) ys := by
          have := RD.out
          rwa [List.take_of_length_le (by rw [VL.out]; omega)] at this
        obtain ⟨rfl, rfl⟩ := splitRes_yes HD.out wk rr
        clear rr RD
        go_wp2
        go_ret2
        exact ⟨_, rfl, OK.out.mono (by omega), B0.out.trans (BK.out.mono (by omega))⟩
  · have hkI : (most : Int) < (n : Int) := by omega
    obtain ⟨rfl, rfl⟩ := splitRes_no HD.out (fun hh => by
      have := congrArg List.length (WIN.out hh.1)
      rw [List.length_map, ← HN.out] at this
      omega)
    clear WOUT WIN q0
    go_wp2
    go_ret2
    exact ⟨_, rfl, World.ownsRow_nil _ _ _ _, B0.out⟩
end Go.Proofs.YtkdecpnbbpmooacDoor
