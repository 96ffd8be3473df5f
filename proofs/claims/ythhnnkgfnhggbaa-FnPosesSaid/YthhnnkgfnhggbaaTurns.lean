/- The walks of the specification's rings of an axis. -/
import Derived.Test.YthhnnkgfnhggbaaImplVal
import Derived.Deep.RegionHeld3
import Derived.Deep.AppendLies
import Derived.WalkSpells
namespace Go.Proofs.Ythhnnkgfnhggbaa
open Go.ChangeShapes Go.WideShapes Go.ChangeAt Go.RowKit
set_option linter.unusedVariables false
set_option linter.unusedSimpArgs false

/-- The rings of curves, each with a curve of its own. -/
def turnsC (cs : List Cv) : List Cv := cs.flatMap fun c => List.replicate c.r.toNat ⟨1, c.b, c.s⟩

theorem turnsC_append (a b : List Cv) : turnsC (a ++ b) = turnsC a ++ turnsC b := by simp [turnsC]
theorem turnsC_take_succ (cs : List Cv) (k : Nat) (c : Cv) (h : cs[k]? = some c) : turnsC (cs.take (k + 1)) = turnsC (cs.take k) ++ List.replicate c.r.toNat ⟨1, c.b, c.s⟩ := by
  rw [List.take_add_one, h, Option.toList_some, turnsC_append]; simp [turnsC]
theorem turnsC_len (cs : List Cv) (h : ∀ c ∈ cs, OkCv c) : ((turnsC cs).length : Int) = sumR cs := by
  induction cs with
  | nil => simp [turnsC, sumR]
  | cons c cs ih =>
    have h1 := (h c (by simp)).1
    have h2 := ih (fun d hd => h d (by simp [hd]))
    have e : turnsC (c :: cs) = List.replicate c.r.toNat ⟨1, c.b, c.s⟩ ++ turnsC cs := by simp [turnsC]
    rw [e, List.length_append, List.length_replicate, sumR]
    push_cast
    omega

set_option maxRecDepth 100000 in
set_option maxHeartbeats 4000000 in
theorem l02Turns_any (A : Nat) (t : TypeId) (q : Ps) (v : Value) (cs : List Cv) (w : World) (hA : w.heap[A]? = some (.cells #[.int .i64 q.s, .int .i64 q.h, .int .i64 q.y, .int .i64 q.p, v] t (0, 0)))
    (hc : RdS 3 encCv w v cs) (lz : cs.length ≤ 8) (hall : ∀ c ∈ cs, OkCv c) :
    Calls Try.prog 75 #[.pointer (some ⟨A, 0, none⟩)] w fun e w' => ∃ v', e = .returned v' ∧ OwnS 46 3 encCv w' w.heap.size v' (turnsC cs) ∧ Below w.heap.size w w' := by
  obtain ⟨i0, hi, hz0, hz1, hz2⟩ := info_parts info_Cv
  obtain ⟨⟨a0, a1, a2, a3, a4⟩, lA⟩ := boxA_at hA
  have HC := Lib.hid hc
  have HAll := Lib.hid hall
  obtain ⟨a, cap, rfl, _⟩ := hc
  obtain ⟨N, hN⟩ : ∃ N, N = cs.length := ⟨_, rfl⟩
  rw [← hN] at HC a4 lz
  have HN := Lib.hid hN
  have HA4 := Lib.hid a4
  clear hA hall hN a0 a1 a2 a3
  go_enter Try.func75, Try.ntmps75
  go_wp2
  have O0 : Hid (OwnS 46 3 encCv (w.alloc (.cells #[] 46)) w.heap.size (.slice (some ⟨w.heap.size, 0, none⟩) 0 0) (turnsC (cs.take 0))) :=
    World.ownsRow_lit (e := 46) (size := 3) w #[] 0 (Nat.le_refl _) (by decide) rfl
  have B0 : Hid (Below w.heap.size w (w.alloc (.cells #[] 46))) := (Below.refl _ _).alloc (Nat.le_refl _) _
  clear a4
  go_loopw [3, 4] (fun u i wr => ∃ k : Nat, k ≤ N ∧ i = .int .i64 k ∧ Hid (OwnS 46 3 encCv wr w.heap.size u (turnsC (cs.take k))) ∧ Hid (Below w.heap.size w wr)) (fun _ i _ => N - (intOf i).toNat)
  case atStart => exact ⟨0, by omega, rfl, O0, B0⟩
  case round =>
    obtain ⟨k, hk, rfl, ho, B⟩ := hrel
    clear O0 B0
    have a4 := (B.out.cell (p := ⟨A, 4, none⟩) lA).trans HA4.out
    by_cases hlt : k < N
    · obtain ⟨c, hx⟩ : ∃ x, cs[k]? = some x := ⟨_, List.getElem?_eq_getElem (by have := HN.out; omega)⟩
      obtain ⟨ba, oa, rfl, e0, e1, e2⟩ := HC.out.at3 k c hx
      have la := block_lt_of_cell e0
      have E := Lib.hid (And.intro e0 (And.intro e1 e2))
      have OC := Lib.hid (HAll.out c (List.mem_of_getElem? hx))
      obtain ⟨r, hr⟩ : ∃ r : Nat, c.r = r := ⟨c.r.toNat, by have := OC.out.1; omega⟩
      have r2 : r ≤ 60 := by have := OC.out.1; omega
      have hT := turnsC_take_succ cs k c hx
      rw [hr, Int.toNat_natCast] at hT
      have HT := Lib.hid hT
      have hl : ((turnsC (cs.take k)).length : Int) = sumR (cs.take k) := turnsC_len _ (fun d hd => HAll.out d (List.mem_of_mem_take hd))
      have hb := sumR_bd (cs.take k) (fun d hd => HAll.out d (List.mem_of_mem_take hd))
      have hlen : (turnsC (cs.take k)).length ≤ 480 := by rw [List.length_take] at hb; omega
      have HL := Lib.hid hlen
      rw [hr] at E
      clear hx hT hl hb hlen e0 e1 e2
      go_wp2
      obtain ⟨wo, hwo⟩ : ∃ x, x = wr := ⟨_, rfl⟩
      subst hwo
      go_loopw [3, 5] (fun u i wr => ∃ j : Nat, j ≤ r ∧ i = .int .i64 j ∧ Hid (OwnS 46 3 encCv wr w.heap.size u (turnsC (cs.take k) ++ List.replicate j ⟨1, c.b, c.s⟩)) ∧ Hid (Below w.heap.size w wr)) (fun _ i _ => r - (intOf i).toNat)
      case atStart => exact ⟨0, by omega, rfl, by simpa using ho, B⟩
      case round =>
        obtain ⟨j, hj, rfl, ho2, B2⟩ := hrel
        clear a4 ho B
        have a4 := (B2.out.cell (p := ⟨A, 4, none⟩) lA).trans HA4.out
        have e0 := (B2.out.cell (p := ⟨ba, oa + k * 3, none⟩) la).trans E.out.1
        have e1 := (B2.out.cell (p := ⟨ba, oa + k * 3 + 1, none⟩) la).trans E.out.2.1
        have e2 := (B2.out.cell (p := ⟨ba, oa + k * 3 + 2, none⟩) la).trans E.out.2.2
        by_cases hlt2 : j < r
        · have lt3 : (j : Int) < r := by omega
          have hsz := B2.out.size
          have own := ho2.out
          unfold OwnS at own
          have hle : (turnsC (cs.take k) ++ List.replicate j (⟨1, c.b, c.s⟩ : Cv)).length ≤ 560 := by rw [List.length_append, List.length_replicate]; have := HL.out; omega
          obtain ⟨n, hn⟩ : ∃ n, n = (turnsC (cs.take k) ++ List.replicate j (⟨1, c.b, c.s⟩ : Cv)).length := ⟨_, rfl⟩
          rw [← hn] at own hle
          have OWN := Lib.hid own
          have HNN := Lib.hid hn
          have KS : Hid (∀ w', Below w.heap.size w w' → (w'.cell? ⟨A, 4, none⟩ = some (.slice (some ⟨ba, oa, none⟩) N cap) ∧ w'.cell? ⟨ba, oa + k * 3 + 1, none⟩ = some (.int .i64 c.b) ∧ w'.cell? ⟨ba, oa + k * 3 + 2, none⟩ = some (.int .i64 c.s))) := by
            intro w' hb
            exact ⟨(hb.cell (p := ⟨A, 4, none⟩) lA).trans HA4.out, (hb.cell (p := ⟨ba, oa + k * 3 + 1, none⟩) la).trans E.out.2.1, (hb.cell (p := ⟨ba, oa + k * 3 + 2, none⟩) la).trans E.out.2.2⟩
          clear own hn
          go_wp2
          clear e0
          have hlt1 := OWN.out.lt
          go_region_held3 (fun w' => (w'.cell? ⟨A, 4, none⟩ = some (.slice (some ⟨ba, oa, none⟩) N cap) ∧ w'.cell? ⟨ba, oa + k * 3 + 1, none⟩ = some (.int .i64 c.b) ∧ w'.cell? ⟨ba, oa + k * 3 + 2, none⟩ = some (.int .i64 c.s)))
            (first | exact KS.out _ B2.out.drew | exact KS.out _ (Below.drew (B2.out.alloc hsz _)) | exact KS.out _ ((B2.out.drew).alloc hsz _) | exact KS.out _ BW.out)
            (first
              | (refine step_append_lies _ (by rfl) _ _ _ (by rfl) w.heap.size 46 i0 _ 3 24 Try.underlying26 hi hz0 hz1 hz2 rfl (by omega) _ _ _ (by rfl) ((OWN.out.alloc _).drew) ⟨wr.heap.size, 0, none⟩ 1 1 [.int .i64 1, .int .i64 c.b, .int .i64 c.s] (by rfl) (by rfl) (World.news_of_block (cs := #[.int .i64 1, .int .i64 c.b, .int .i64 c.s]) (t := 46) (fr := (0, 0)) (heap_alloc_new wr _)) (by simp [Value.oneCell']) (by omega) (by unfold maxLen; omega) (by omega) (by simp; omega) (wr.heap.size + 1) (by simp) ?_; intro gg cap1 w1 hown1 hgrow hat hlt'; have BW : Hid (Below w.heap.size w w1) := (((B2.out.alloc hsz _).drew).grown hgrow (by simp; omega) (fun j hj => (hlt1 j hj).1))))
          have s1 : Hid (OwnS 46 3 encCv w1 w.heap.size (.slice (some ⟨gg, 0, none⟩) (n + 1) cap1) (turnsC (cs.take k) ++ List.replicate (j + 1) ⟨1, c.b, c.s⟩)) := by
            show OwnS _ _ _ _ _ _ _
            unfold OwnS
            rw [List.replicate_succ', ← List.append_assoc, List.length_append, ← HNN.out, List.flatMap_append]
            exact hown1
          clear hown1 hgrow hat hlt' hlt1 OWN ho2 B2 KS HNN e1 e2 hle
          go_wp2
          exact ⟨⟨j + 1, by omega, by go_num, s1, BW⟩, by simp only [intOf]; omega⟩
        · obtain rfl : j = r := by omega
          have ho3 := ho2.out
          rw [← HT.out] at ho3
          have HO := Lib.hid ho3
          clear ho3 ho2 e1 e2
          go_wp2
          exact ⟨⟨k + 1, by omega, by go_num, HO, B2⟩, by simp only [intOf]; omega⟩
    · obtain rfl : k = N := by omega
      have ho' := ho.out
      rw [List.take_of_length_le (by have := HN.out; omega)] at ho'
      have HO := Lib.hid ho'
      clear ho' ho
      go_wp2
      go_ret
      exact ⟨_, rfl, HO.out, B.out⟩
end Go.Proofs.Ythhnnkgfnhggbaa
