/- Texts of axes, on both sides. (Written by tools/mkaxt.py.) -/
import Derived.Test.YthhnnkgfnhggbabDoorCurveT
import Derived.Test.YthhnnkgfnhggbabDoorJoinCv
import Derived.Test.YthhnnkgfnhggbabDoorImplVal
import Derived.Deep.RegionHeld3
namespace Go.Proofs.YthhnnkgfnhggbabDoor
open Go.ChangeShapes Go.WideShapes Go.ChangeAt Go.RowKit
set_option linter.unusedVariables false
set_option linter.unusedSimpArgs false

theorem ok_boolA (P : Prop) : ∃ b : Bool, b = true ↔ P := by
  by_cases h : P
  · exact ⟨true, by simp [h]⟩
  · exact ⟨false, by simp [h]⟩
theorem okP_i64 {x : Ps} (h : OkP x) : I64 x.s ∧ I64 x.h ∧ I64 x.y ∧ I64 x.p := by
  unfold OkP OkOff OkHead at h
  unfold I64
  omega
theorem okCv_i64 {x : Cv} (h : OkCv x) : I64 x.r ∧ I64 x.b ∧ I64 x.s := by
  unfold OkCv OkTurn at h
  unfold I64
  omega
theorem cell_boxCv {w w' : World} {c : Cv} {t : TypeId} (b : Below (w.heap.size + 1) (w.alloc (.cells #[.int .i64 c.r, .int .i64 c.b, .int .i64 c.s] t)) w') :
    w'.cell? ⟨w.heap.size, 0, none⟩ = some (.int .i64 c.r) ∧ w'.cell? ⟨w.heap.size, 1, none⟩ = some (.int .i64 c.b) ∧ w'.cell? ⟨w.heap.size, 2, none⟩ = some (.int .i64 c.s) :=
  (boxCv_at ((b.block _ (by omega)).trans (heap_alloc_new w _))).1
/-- What the specification has written behind k curves. -/
def accA (q : Ps) (cs : List Cv) : Nat → List UInt8
  | 0 => textP q
  | k + 1 => accA q cs k ++ ([59] ++ (cs.getD k ⟨0, 0, 0⟩ |> textCv))
theorem accA_len {q : Ps} {cs : List Cv} (hq : (textP q).length ≤ 90) (hc : ∀ c ∈ cs, (textCv c).length ≤ 80) : ∀ k, k ≤ cs.length → (accA q cs k).length ≤ 90 + 81 * k := by
  intro k
  induction k with
  | zero => intro _; simpa [accA] using hq
  | succ k ih =>
    intro hk
    obtain ⟨x, hx⟩ : ∃ x, cs[k]? = some x := ⟨_, List.getElem?_eq_getElem (by omega)⟩
    have e : cs.getD k ⟨0, 0, 0⟩ = x := by simp [List.getD, hx]
    have h1 := ih (by omega)
    have h2 := hc x (List.mem_of_getElem? hx)
    simp only [accA, e, List.length_append, List.length_cons, List.length_nil]
    omega
theorem accA_join (q : Ps) (cs : List Cv) : ∀ k, k + 1 ≤ cs.length → accA q cs (k + 1) = textP q ++ [59] ++ joinG [59] (cs.map textCv) (k + 1) := by
  intro k
  induction k with
  | zero =>
    intro hk
    obtain ⟨x, hx⟩ : ∃ x, cs[0]? = some x := ⟨_, List.getElem?_eq_getElem (by omega)⟩
    have e : cs.getD 0 ⟨0, 0, 0⟩ = x := by simp [List.getD, hx]
    rw [joinG_one (x := textCv x) (by rw [List.getElem?_map, hx]; rfl)]
    simp only [accA, e, List.append_assoc]
  | succ k ih =>
    intro hk
    obtain ⟨x, hx⟩ : ∃ x, cs[k + 1]? = some x := ⟨_, List.getElem?_eq_getElem (by omega)⟩
    have e : cs.getD (k + 1) ⟨0, 0, 0⟩ = x := by simp [List.getD, hx]
    rw [joinG_step (x := textCv x) (by omega) (by rw [List.getElem?_map, hx]; rfl), accA, ih (by omega), e]
    simp only [List.append_assoc]
/-- The text of an axis. -/
def textA (q : Ps) (cs : List Cv) : List UInt8 := accA q cs cs.length
theorem textCv_chain (x : Cv) : ([59] ++ textCv x : List UInt8) = [59] ++ Lib.itoa x.r ++ [58] ++ Lib.itoa x.b ++ [44] ++ Lib.itoa x.s := by
  simp only [textCv, joinTo2, List.append_assoc]
theorem curveC_eq (x : Cv) : (⟨([59] ++ textCv x).toArray⟩ : ByteArray) = (⟨#[59]⟩ : ByteArray) ++ (⟨(Lib.itoa x.r).toArray⟩ : ByteArray) ++ (⟨#[58]⟩ : ByteArray) ++ (⟨(Lib.itoa x.b).toArray⟩ : ByteArray) ++ (⟨#[44]⟩ : ByteArray) ++ (⟨(Lib.itoa x.s).toArray⟩ : ByteArray) := by
  rw [textCv_chain]
  have e0 : (⟨#[44]⟩ : ByteArray) = ⟨([44] : List UInt8).toArray⟩ := rfl
  have e1 : (⟨#[58]⟩ : ByteArray) = ⟨([58] : List UInt8).toArray⟩ := rfl
  have e2 : (⟨#[59]⟩ : ByteArray) = ⟨([59] : List UInt8).toArray⟩ := rfl
  rw [e0, e1, e2, str_app, str_app, str_app, str_app, str_app]
theorem OkA.len8 {q : Ps} {cs : List Cv} (h : OkA q cs) : OkP q ∧ 1 ≤ cs.length ∧ cs.length ≤ 8 ∧ ∀ c ∈ cs, OkCv c := by
  have hp := ((okA_iff q cs).mp h)
  have h0 := hp.1.1
  exact ⟨h.1, by omega, by omega, hp.1.2.1⟩

set_option maxRecDepth 100000 in
set_option maxHeartbeats 8000000 in
theorem l02Text_any (G : Nat) (t : TypeId) (q : Ps) (v : Value) (cs : List Cv) (w : World) (hA : w.heap[G]? = some (.cells #[.int .i64 q.s, .int .i64 q.h, .int .i64 q.y, .int .i64 q.p, v] t (0, 0))) (hc : RdS 3 encCv w v cs) (h : OkA q cs) :
    Calls Tryd.prog 79 #[.pointer (some ⟨G, 0, none⟩)] w fun e w' => e = .returned (.string ⟨(textA q cs).toArray⟩) ∧ Below w.heap.size w w' := by
  obtain ⟨hq, c1, c8, hall⟩ := h.len8
  obtain ⟨is, ih, iy, ip⟩ := okP_i64 hq
  have LP := textP_len ⟨is, ih, iy, ip⟩
  have JL := Lib.hid (accA_len LP (fun c hc => textCv_len (okCv_i64 (hall c hc))))
  have T0 : Hid ((⟨(accA q cs 0).toArray⟩ : ByteArray) = _) := textP_eq q
  have lG := (boxA_at hA).2
  have HA := Lib.hid hA
  have HC := Lib.hid hc
  have HALL := Lib.hid hall
  obtain ⟨a, cap, rfl, -⟩ := hc
  obtain ⟨n, hn⟩ : ∃ n, cs.length = n := ⟨_, rfl⟩
  unfold textA
  rw [hn] at HA c1 c8 JL ⊢
  have HN := Lib.hid hn
  have ls := Lib.itoa_length_le q.s is.1 is.2
  have CA := Lib.hid (fun w => l01Dec_any q.s is.1 is.2 w)
  have lh := Lib.itoa_length_le q.h ih.1 ih.2
  have CB := Lib.hid (fun w => l01Dec_any q.h ih.1 ih.2 w)
  have ly := Lib.itoa_length_le q.y iy.1 iy.2
  have CC := Lib.hid (fun w => l01Dec_any q.y iy.1 iy.2 w)
  have lp := Lib.itoa_length_le q.p ip.1 ip.2
  have CD := Lib.hid (fun w => l01Dec_any q.p ip.1 ip.2 w)
  obtain ⟨A, hA'⟩ : ∃ A : ByteArray, A = ⟨(Lib.itoa q.s).toArray⟩ := ⟨_, rfl⟩
  have sA : A.size ≤ 21 := by rw [hA']; exact ls
  obtain ⟨B, hB'⟩ : ∃ A : ByteArray, A = ⟨(Lib.itoa q.h).toArray⟩ := ⟨_, rfl⟩
  have sB : B.size ≤ 21 := by rw [hB']; exact lh
  obtain ⟨C, hC'⟩ : ∃ A : ByteArray, A = ⟨(Lib.itoa q.y).toArray⟩ := ⟨_, rfl⟩
  have sC : C.size ≤ 21 := by rw [hC']; exact ly
  obtain ⟨D, hD'⟩ : ∃ A : ByteArray, A = ⟨(Lib.itoa q.p).toArray⟩ := ⟨_, rfl⟩
  have sD : D.size ≤ 21 := by rw [hD']; exact lp
  rw [← hA'] at CA
  rw [← hB'] at CB
  rw [← hC'] at CC
  rw [← hD'] at CD
  rw [← hA', ← hB', ← hC', ← hD'] at T0
  have s2 : (A ++ (⟨#[44]⟩ : ByteArray)).size = A.size + 1 := by rw [ByteArray.size_append]; rfl
  have sk2 : ¬ 9223372036854775807 < A.size + 1 := by omega
  have s3 : (A ++ (⟨#[44]⟩ : ByteArray) ++ B).size = A.size + 1 + B.size := by rw [ByteArray.size_append, s2]
  have sk3 : ¬ 9223372036854775807 < A.size + 1 + B.size := by omega
  have s4 : (A ++ (⟨#[44]⟩ : ByteArray) ++ B ++ (⟨#[44]⟩ : ByteArray)).size = A.size + 1 + B.size + 1 := by rw [ByteArray.size_append, s3]; rfl
  have sk4 : ¬ 9223372036854775807 < A.size + 1 + B.size + 1 := by omega
  have s5 : (A ++ (⟨#[44]⟩ : ByteArray) ++ B ++ (⟨#[44]⟩ : ByteArray) ++ C).size = A.size + 1 + B.size + 1 + C.size := by rw [ByteArray.size_append, s4]
  have sk5 : ¬ 9223372036854775807 < A.size + 1 + B.size + 1 + C.size := by omega
  have s6 : (A ++ (⟨#[44]⟩ : ByteArray) ++ B ++ (⟨#[44]⟩ : ByteArray) ++ C ++ (⟨#[44]⟩ : ByteArray)).size = A.size + 1 + B.size + 1 + C.size + 1 := by rw [ByteArray.size_append, s5]; rfl
  have sk6 : ¬ 9223372036854775807 < A.size + 1 + B.size + 1 + C.size + 1 := by omega
  have sk7 : ¬ 9223372036854775807 < A.size + 1 + B.size + 1 + C.size + 1 + D.size := by omega
  have KS : Hid (∀ w', Below w.heap.size w w' → (w'.cell? ⟨G, 0, none⟩ = some (.int .i64 q.s) ∧ w'.cell? ⟨G, 1, none⟩ = some (.int .i64 q.h) ∧ w'.cell? ⟨G, 2, none⟩ = some (.int .i64 q.y) ∧ w'.cell? ⟨G, 3, none⟩ = some (.int .i64 q.p))) := by
    intro w' b
    obtain ⟨⟨k0, k1, k2, k3, -⟩, -⟩ := boxA_at ((b.block G lG).trans HA.out)
    exact ⟨k0, k1, k2, k3⟩
  clear hA' hB' hC' hD' hA h hq is ih iy ip LP hall hn ls lh ly lp
  go_enter Tryd.func79, Tryd.ntmps79
  go_wp2_with fail
  go_region_held3 (fun w' => (w'.cell? ⟨G, 0, none⟩ = some (.int .i64 q.s) ∧ w'.cell? ⟨G, 1, none⟩ = some (.int .i64 q.h) ∧ w'.cell? ⟨G, 2, none⟩ = some (.int .i64 q.y) ∧ w'.cell? ⟨G, 3, none⟩ = some (.int .i64 q.p)))
    (first | exact KS.out _ D4.out | exact KS.out _ D3.out | exact KS.out _ D2.out | exact KS.out _ D1.out | exact KS.out _ (Below.refl _ _).drew)
    (first
      | (go_at_call 115; (with_reducible refine (CA.out _).mono ?_); rintro e w1 ⟨rfl, b1⟩; have D1 : Hid (Below (w.heap.size) (w) w1) := (Below.refl _ _).drew.trans (b1.mono (Nat.le_refl _)))
      | (go_at_call 115; (with_reducible refine (CB.out _).mono ?_); rintro e w2 ⟨rfl, b2⟩; have D2 : Hid (Below (w.heap.size) (w) w2) := D1.out.trans (b2.mono D1.out.size))
      | (go_at_call 115; (with_reducible refine (CC.out _).mono ?_); rintro e w3 ⟨rfl, b3⟩; have D3 : Hid (Below (w.heap.size) (w) w3) := D2.out.trans (b3.mono D2.out.size))
      | (go_at_call 115; (with_reducible refine (CD.out _).mono ?_); rintro e w4 ⟨rfl, b4⟩; have D4 : Hid (Below (w.heap.size) (w) w4) := D3.out.trans (b4.mono D3.out.size)))
  have BE := D4
  have T1 : Hid (A ++ (⟨#[44]⟩ : ByteArray) ++ B ++ (⟨#[44]⟩ : ByteArray) ++ C ++ (⟨#[44]⟩ : ByteArray) ++ D = (⟨(accA q cs 0).toArray⟩ : ByteArray)) := T0.out.symm
  clear KS T0 D1 D2 D3 D4
  go_wp2_with fail
  rw [T1.out]
  clear T1
  go_loopw [3, 4] (fun tv iv wr => ∃ k : Nat, k ≤ n ∧ iv = .int .i64 (k : Int) ∧ tv = .string ⟨(accA q cs k).toArray⟩ ∧ Hid (Below w.heap.size w wr)) (fun _ iv _ => n - (intOf iv).toNat)
  case atStart => exact ⟨0, by omega, by simp, rfl, BE⟩
  case round =>
    obtain ⟨k, kn, rfl, rfl, BK⟩ := hrel
    clear BE
    have sz := BK.out.size
    obtain ⟨⟨-, -, -, -, k4⟩, -⟩ := boxA_at ((BK.out.block G lG).trans HA.out)
    by_cases hlt : k < n
    · obtain ⟨c, hx⟩ : ∃ x, cs[k]? = some x := ⟨_, List.getElem?_eq_getElem (by have := HN.out; omega)⟩
      obtain ⟨a', c', hv, h⟩ := HC.out.later BK.out
      simp only [Value.slice.injEq] at hv
      obtain ⟨rfl, -, -⟩ := hv
      obtain ⟨ba, oa, rfl, h2⟩ := h.resolve_left (by intro e; rw [e] at hx; simp at hx)
      have x0 : wr.cell? ⟨ba, oa + k * 3, none⟩ = some (.int .i64 c.r) := h2 k c hx 0 _ rfl
      have x1 : wr.cell? ⟨ba, oa + k * 3 + 1, none⟩ = some (.int .i64 c.b) := h2 k c hx 1 _ rfl
      have x2 : wr.cell? ⟨ba, oa + k * 3 + 2, none⟩ = some (.int .i64 c.s) := h2 k c hx 2 _ rfl
      obtain ⟨ir, ib, is⟩ := okCv_i64 (HALL.out c (List.mem_of_getElem? hx))
      have jl := JL.out k (by omega)
      have hgd : cs.getD k ⟨0, 0, 0⟩ = c := by simp [List.getD, hx]
      have JS : Hid ((⟨(accA q cs (k + 1)).toArray⟩ : ByteArray) = (⟨(accA q cs k).toArray⟩ : ByteArray) ++ ⟨([59] ++ textCv c).toArray⟩) := by
        show _ = _
        rw [str_app]
        simp only [accA, hgd]
      have q1 : IntKind.i64.wrap ((k : Int) + 1) = ((k + 1 : Nat) : Int) := by push_cast; exact IntWalk.i64_in _ (by omega)
      have lr := Lib.itoa_length_le c.r ir.1 ir.2
      have CA := Lib.hid (fun w => l01Dec_any c.r ir.1 ir.2 w)
      have lb := Lib.itoa_length_le c.b ib.1 ib.2
      have CB := Lib.hid (fun w => l01Dec_any c.b ib.1 ib.2 w)
      have ls := Lib.itoa_length_le c.s is.1 is.2
      have CC := Lib.hid (fun w => l01Dec_any c.s is.1 is.2 w)
      obtain ⟨A, hA'⟩ : ∃ A : ByteArray, A = ⟨(Lib.itoa c.r).toArray⟩ := ⟨_, rfl⟩
      have sA : A.size ≤ 21 := by rw [hA']; exact lr
      obtain ⟨B, hB'⟩ : ∃ A : ByteArray, A = ⟨(Lib.itoa c.b).toArray⟩ := ⟨_, rfl⟩
      have sB : B.size ≤ 21 := by rw [hB']; exact lb
      obtain ⟨C, hC'⟩ : ∃ A : ByteArray, A = ⟨(Lib.itoa c.s).toArray⟩ := ⟨_, rfl⟩
      have sC : C.size ≤ 21 := by rw [hC']; exact ls
      rw [← hA'] at CA
      rw [← hB'] at CB
      rw [← hC'] at CC
      have JE := JS.out
      rw [curveC_eq, ← hA', ← hB', ← hC'] at JE
      obtain ⟨O, hO⟩ : ∃ A : ByteArray, A = ⟨(accA q cs k).toArray⟩ := ⟨_, rfl⟩
      have sO : O.size ≤ 90 + 81 * k := by rw [hO]; exact jl
      rw [← hO] at JE ⊢
      have JF := Lib.hid JE
      have sx0 : (⟨#[59]⟩ : ByteArray).size = 1 := rfl
      have sx2 : ((⟨#[59]⟩ : ByteArray) ++ A).size = 1 + A.size := by rw [ByteArray.size_append]; rfl
      have sxk2 : ¬ 9223372036854775807 < 1 + A.size := by omega
      have sx3 : ((⟨#[59]⟩ : ByteArray) ++ A ++ (⟨#[58]⟩ : ByteArray)).size = 1 + A.size + 1 := by rw [ByteArray.size_append, sx2]; rfl
      have sxk3 : ¬ 9223372036854775807 < 1 + A.size + 1 := by omega
      have sx4 : ((⟨#[59]⟩ : ByteArray) ++ A ++ (⟨#[58]⟩ : ByteArray) ++ B).size = 1 + A.size + 1 + B.size := by rw [ByteArray.size_append, sx3]
      have sxk4 : ¬ 9223372036854775807 < 1 + A.size + 1 + B.size := by omega
      have sx5 : ((⟨#[59]⟩ : ByteArray) ++ A ++ (⟨#[58]⟩ : ByteArray) ++ B ++ (⟨#[44]⟩ : ByteArray)).size = 1 + A.size + 1 + B.size + 1 := by rw [ByteArray.size_append, sx4]; rfl
      have sxk5 : ¬ 9223372036854775807 < 1 + A.size + 1 + B.size + 1 := by omega
      have sxk6 : ¬ 9223372036854775807 < 1 + A.size + 1 + B.size + 1 + C.size := by omega
      have sx6 : ((⟨#[59]⟩ : ByteArray) ++ A ++ (⟨#[58]⟩ : ByteArray) ++ B ++ (⟨#[44]⟩ : ByteArray) ++ C).size = 1 + A.size + 1 + B.size + 1 + C.size := by rw [ByteArray.size_append, sx5]
      have sO2 : ¬ 9223372036854775807 < O.size + (1 + A.size + 1 + B.size + 1 + C.size) := by omega
      clear JE JS hO hA' hB' hC' hx h2 h hgd jl ir ib is lr lb ls
      go_wp2_with fail
      obtain ⟨w0, hw0⟩ : ∃ x, x = wr := ⟨_, rfl⟩
      rw [← hw0]
      have B0 : Hid (Below w.heap.size w w0) := by rw [hw0]; exact BK.out
      have KS : Hid (∀ w', Below (w0.heap.size + 1) (w0.alloc (.cells #[.int .i64 c.r, .int .i64 c.b, .int .i64 c.s] 62)) w' → (w'.cell? ⟨w0.heap.size, 0, none⟩ = some (.int .i64 c.r) ∧ w'.cell? ⟨w0.heap.size, 1, none⟩ = some (.int .i64 c.b) ∧ w'.cell? ⟨w0.heap.size, 2, none⟩ = some (.int .i64 c.s))) := fun w' b => cell_boxCv b
      clear hw0 x0 x1 x2 k4 BK sz
      go_region_held3 (fun w' => (w'.cell? ⟨w0.heap.size, 0, none⟩ = some (.int .i64 c.r) ∧ w'.cell? ⟨w0.heap.size, 1, none⟩ = some (.int .i64 c.b) ∧ w'.cell? ⟨w0.heap.size, 2, none⟩ = some (.int .i64 c.s)))
        (first | exact KS.out _ D3.out | exact KS.out _ D2.out | exact KS.out _ D1.out | exact KS.out _ (Below.refl _ _).drew)
        (first
          | (go_at_call 115; (with_reducible refine (CA.out _).mono ?_); rintro e w1 ⟨rfl, b1⟩; have D1 : Hid (Below (w0.heap.size + 1) (w0.alloc (.cells #[.int .i64 c.r, .int .i64 c.b, .int .i64 c.s] 62)) w1) := (Below.refl _ _).drew.trans (b1.mono (by simp)))
          | (go_at_call 115; (with_reducible refine (CB.out _).mono ?_); rintro e w2 ⟨rfl, b2⟩; have D2 : Hid (Below (w0.heap.size + 1) (w0.alloc (.cells #[.int .i64 c.r, .int .i64 c.b, .int .i64 c.s] 62)) w2) := D1.out.trans (b2.mono (by have e := D1.out.size; simp only [World.size_alloc] at e; exact e)))
          | (go_at_call 115; (with_reducible refine (CC.out _).mono ?_); rintro e w3 ⟨rfl, b3⟩; have D3 : Hid (Below (w0.heap.size + 1) (w0.alloc (.cells #[.int .i64 c.r, .int .i64 c.b, .int .i64 c.s] 62)) w3) := D2.out.trans (b3.mono (by have e := D2.out.size; simp only [World.size_alloc] at e; exact e))))
      have BE : Hid (Below w.heap.size w w3) := B0.out.trans ((Below.trans (by go_grown) (D3.out.mono (by omega)) : Below w0.heap.size w0 w3).mono B0.out.size)
      clear KS D1 D2 D3
      go_wp2
      exact ⟨⟨k + 1, by omega, by push_cast; rfl, by rw [JF.out], BE⟩, by simp only [intOf]; omega⟩
    · obtain rfl : k = n := by omega
      go_wp2
      go_ret
      exact ⟨rfl, BK.out⟩

set_option maxRecDepth 100000 in
set_option maxHeartbeats 8000000 in
theorem specAxisText_any (q : Ps) (v : Value) (cs : List Cv) (w : World) (hc : RdS 3 encCv w v cs) (lz : cs.length ≤ 1048576) (b : Bool) (hb : b = true ↔ OkA q cs) (l : List UInt8) (hl : l = if b = true then textA q cs else []) :
    Calls Tryd.prog 36 #[(.agg #[.int .i64 q.s, .int .i64 q.h, .int .i64 q.y, .int .i64 q.p, v])] w fun e w' => e = .returned (.tuple #[.string ⟨l.toArray⟩, .bool b]) ∧ Below w.heap.size w w' := by
  have HC := Lib.hid hc
  obtain ⟨a, cap, rfl, _⟩ := hc
  have HB := Lib.hid hb
  clear hb
  go_enter Tryd.func36, Tryd.ntmps36
  go_wp2_with fail
  refine (l02Is_any w.heap.size 36 q a cap cs _ (heap_alloc_new w _) (HC.out.later (by go_grown)) lz b HB.out).mono ?_
  rintro e w1 ⟨rfl, b1⟩
  have n1 := Lib.hid ((b1.block w.heap.size (by simp only [World.size_alloc]; omega)).trans (heap_alloc_new w _))
  have B1 : Hid (Below w.heap.size w w1) := Below.trans (by go_grown) (b1.mono (by simp only [World.size_alloc]; omega))
  clear b1
  cases b with
  | false =>
    obtain rfl : l = [] := by simpa using hl
    clear hl
    go_wp2
    go_ret2
    exact ⟨rfl, B1.out⟩
  | true =>
    obtain rfl : l = textA q cs := by simpa using hl
    have OA := Lib.hid (HB.out.mp rfl)
    clear hl HB
    go_wp2_with fail
    refine (l02Text_any w.heap.size 36 q _ cs _ n1.out (HC.out.later B1.out) OA.out).mono ?_
    rintro e w2 ⟨rfl, b2⟩
    have B2 : Hid (Below w.heap.size w w2) := B1.out.trans (b2.mono B1.out.size)
    clear b2 n1 B1
    go_wp2
    go_ret2
    exact ⟨rfl, B2.out⟩

set_option maxRecDepth 100000 in
set_option maxHeartbeats 8000000 in
theorem implAxisText_any (q : Ps) (v : Value) (cs : List Cv) (w : World) (hc : RdS 3 encCv w v cs) (lz : cs.length ≤ 1048576) (b : Bool) (hb : b = true ↔ OkA q cs) (l : List UInt8) (hl : l = if b = true then textA q cs else []) (hT : TDec w) :
    Calls Tryd.prog 37 #[(.agg #[.int .i64 q.s, .int .i64 q.h, .int .i64 q.y, .int .i64 q.p, v])] w fun e w' => e = .returned (.tuple #[.string ⟨l.toArray⟩, .bool b]) ∧ Below w.heap.size w w' := by
  have HC := Lib.hid hc
  obtain ⟨a, cap, rfl, _⟩ := hc
  have c1 := Lib.hid (fun w (hr : RdS 3 encCv w (.slice a cs.length cap) cs) => implValidAxis_any q _ cs w hr lz b hb)
  have HB := Lib.hid hb
  have HT := Lib.hid hT
  clear hb hT
  go_enter Tryd.func37, Tryd.ntmps37
  go_wp2_with fail
  refine (c1.out _ (HC.out.later (by go_grown))).mono ?_
  rintro e w0 ⟨rfl, b1⟩
  have N1 := Lib.hid ((b1.block w.heap.size (by simp only [World.size_alloc]; omega)).trans (heap_alloc_new w _))
  have B1 : Hid (Below w.heap.size w w0) := Below.trans (by go_grown) (b1.mono (by simp only [World.size_alloc]; omega))
  clear b1 c1
  cases b with
  | false =>
    obtain rfl : l = [] := by simpa using hl
    clear hl
    go_wp2
    go_ret2
    exact ⟨rfl, B1.out⟩
  | true =>
    obtain rfl : l = textA q cs := by simpa using hl
    obtain ⟨hq, c1, c8, hall⟩ := (HB.out.mp rfl).len8
    have iq := okP_i64 hq
    have lA := textP_len iq
    have JB := joinG_len [59] (by simp) (cs.map textCv) 80 (fun t ht => by obtain ⟨x, hx1, rfl⟩ := List.mem_map.1 ht; exact textCv_len (okCv_i64 (hall x hx1))) cs.length (by rw [List.length_map]; omega)
    have lB : (joinG [59] (cs.map textCv) cs.length).length ≤ 700 := by omega
    have CA := Lib.hid (fun w hT => poseText_any q iq w hT)
    have CB := Lib.hid (fun w hr hT => joinCv_any textCv (.slice a cs.length cap) cs [59] (by simp) w hr lz 80 (by omega) (fun x hx => textCv_len (okCv_i64 (hall x hx))) TDec (fun _ _ h b => h.later b) hT (fun x hx w hT => curveText_any x (okCv_i64 (hall x hx)) w hT))
    have TE : Hid ((⟨(textA q cs).toArray⟩ : ByteArray) = (⟨(textP q).toArray⟩ : ByteArray) ++ (⟨#[59]⟩ : ByteArray) ++ ⟨(joinG [59] (cs.map textCv) cs.length).toArray⟩) := by
      show _ = _
      obtain ⟨k, hk⟩ : ∃ k, cs.length = k + 1 := ⟨cs.length - 1, by omega⟩
      rw [show (⟨#[59]⟩ : ByteArray) = ⟨([59] : List UInt8).toArray⟩ from rfl, str_app, str_app, textA, hk, accA_join q cs k (by omega)]
    obtain ⟨A, hA⟩ : ∃ A : ByteArray, A = ⟨(textP q).toArray⟩ := ⟨_, rfl⟩
    obtain ⟨B, hB⟩ : ∃ A : ByteArray, A = ⟨(joinG [59] (cs.map textCv) cs.length).toArray⟩ := ⟨_, rfl⟩
    have sA : A.size ≤ 90 := by rw [hA]; exact lA
    have sB : B.size ≤ 700 := by rw [hB]; exact lB
    have TF := TE.out
    rw [← hA, ← hB] at TF
    have TG := Lib.hid TF
    clear TF
    rw [← hA] at CA
    rw [← hB] at CB
    have s2 : (A ++ (⟨#[59]⟩ : ByteArray)).size = A.size + 1 := by rw [ByteArray.size_append]; rfl
    have sk2 : ¬ 9223372036854775807 < A.size + 1 := by omega
    have sk3 : ¬ 9223372036854775807 < A.size + 1 + B.size := by omega
    have HR1 := Lib.hid (HC.out.later B1.out)
    have lg := (boxA_at N1.out).2
    have KS : Hid (∀ w', Below w0.heap.size w0 w' → (w'.cell? ⟨w.heap.size, 0, none⟩ = some (.int .i64 q.s) ∧ w'.cell? ⟨w.heap.size, 1, none⟩ = some (.int .i64 q.h) ∧ w'.cell? ⟨w.heap.size, 2, none⟩ = some (.int .i64 q.y) ∧ w'.cell? ⟨w.heap.size, 3, none⟩ = some (.int .i64 q.p) ∧ w'.cell? ⟨w.heap.size, 4, none⟩ = some (.slice a cs.length cap))) := by
      intro w' b
      exact (boxA_at ((b.block _ lg).trans N1.out)).1
    have HT1 := Lib.hid (HT.out.later B1.out)
    clear hl HB TE hA hB lA lB JB iq hq c1 c8 hall N1 HT HC
    go_wp2_with fail
    go_region_held3 (fun w' => (w'.cell? ⟨w.heap.size, 0, none⟩ = some (.int .i64 q.s) ∧ w'.cell? ⟨w.heap.size, 1, none⟩ = some (.int .i64 q.h) ∧ w'.cell? ⟨w.heap.size, 2, none⟩ = some (.int .i64 q.y) ∧ w'.cell? ⟨w.heap.size, 3, none⟩ = some (.int .i64 q.p) ∧ w'.cell? ⟨w.heap.size, 4, none⟩ = some (.slice a cs.length cap)))
      (first | exact KS.out _ D2.out | exact KS.out _ D1.out | exact KS.out _ (Below.refl _ _).drew)
      (first
        | (go_at_call 81; (with_reducible refine (CA.out _ (HT1.out.later (Below.refl _ _).drew)).mono ?_); rintro e w1 ⟨rfl, b1⟩; have D1 : Hid (Below (w0.heap.size) (w0) w1) := (Below.refl _ _).drew.trans (b1.mono (Nat.le_refl _)))
        | (go_at_call 82; (with_reducible refine (CB.out _ (HR1.out.later D1.out) (HT1.out.later D1.out)).mono ?_); rintro e w2 ⟨rfl, b2⟩; have D2 : Hid (Below (w0.heap.size) (w0) w2) := D1.out.trans (b2.mono D1.out.size)))
    have BE : Hid (Below w.heap.size w w2) := B1.out.trans (D2.out.mono B1.out.size)
    go_wp2
    go_ret2
    exact ⟨by rw [TG.out]; rfl, BE.out⟩

theorem exAxisText (q : Ps) (cs : List Cv) (lz : cs.length ≤ 1048576) : ∃ (A : ByteArray) (b : Bool),
    Hid (∀ v w, RdS 3 encCv w v cs → TDec w → Calls Tryd.prog 36 #[(.agg #[.int .i64 q.s, .int .i64 q.h, .int .i64 q.y, .int .i64 q.p, v])] w fun e w' => e = .returned (.tuple #[.string A, .bool b]) ∧ Below w.heap.size w w') ∧
    Hid (∀ v w, RdS 3 encCv w v cs → TDec w → Calls Tryd.prog 37 #[(.agg #[.int .i64 q.s, .int .i64 q.h, .int .i64 q.y, .int .i64 q.p, v])] w fun e w' => e = .returned (.tuple #[.string A, .bool b]) ∧ Below w.heap.size w w') := by
  obtain ⟨b, hb⟩ := ok_boolA (OkA q cs)
  exact ⟨_, b, fun v w hr _ => specAxisText_any q v cs w hr lz b hb _ rfl, fun v w hr hT => implAxisText_any q v cs w hr lz b hb _ rfl hT⟩
end Go.Proofs.YthhnnkgfnhggbabDoor
