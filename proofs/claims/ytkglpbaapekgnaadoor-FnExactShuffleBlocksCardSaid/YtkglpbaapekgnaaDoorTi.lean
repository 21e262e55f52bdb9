/- SameBlocks in the model. No condition but that the strings are not too long. -/
import Derived.Test.YtkglpbaapekgnaaDoorTd
import Derived.BigQuiet
namespace Go.Proofs.YtkglpbaapekgnaaDoor
open Go.ChangeShapes Go.WideShapes Go.ChangeAt Go.RowKit Go.Joins
set_option linter.unusedVariables false
set_option linter.unusedSimpArgs false

/-- two blocks are the same but for their numbers -/
def sameB (a b : Bl) : Bool := a.raw == b.raw && (a.z == b.z && a.body.toList == b.body.toList)
def sameO : Option Bl → Option Bl → Bool
  | some a, some b => sameB a b
  | _, _ => false
/-- k is how many of the first n things hold until one does not -/
def Agr (f : Nat → Bool) (n k : Nat) : Prop := k ≤ n ∧ (∀ i, i < k → f i = true) ∧ (k = n ∨ f k = false)
theorem agr_ex (f : Nat → Bool) : ∀ n, ∃ k, Agr f n k
  | 0 => ⟨0, Nat.le_refl _, fun i h => absurd h (Nat.not_lt_zero _), Or.inl rfl⟩
  | n + 1 => by
    obtain ⟨k, h1, h2, h3⟩ := agr_ex f n
    rcases h3 with h3 | h3
    · subst h3
      cases hf : f k with
      | true => exact ⟨k + 1, Nat.le_refl _, fun i hi => by
          by_cases h : i < k
          · exact h2 i h
          · obtain rfl : i = k := by omega
            exact hf, Or.inl rfl⟩
      | false => exact ⟨k, by omega, h2, Or.inr hf⟩
    · exact ⟨k, by omega, h2, Or.inr h3⟩
theorem Agr.lt {f : Nat → Bool} {n k i : Nat} (h : Agr f n k) (hi : i ≤ k) (hf : i < n → f i = true) (hn : i < n) : i < k := by
  rcases h.2.2 with e | e
  · omega
  · by_cases h2 : i = k
    · subst h2
      rw [hf hn] at e
      exact absurd e (by simp)
    · omega
theorem Agr.at_end {f : Nat → Bool} {n k i : Nat} (h : Agr f n k) (hi : i ≤ k) (hf : f i = false) : i = k := by
  by_cases h2 : i < k
  · rw [h.2.1 i h2] at hf
    exact absurd hf (by simp)
  · omega
theorem BlsAt.up {w : World} {L L' cap : Nat} {A : Option Addr} {l : List Bl} (h : BlsAt w L A cap l) (hL : L ≤ L') : BlsAt w L' A cap l :=
  ⟨h.1, h.2.1, h.2.2.1, fun hn => by
    obtain ⟨g, off, e, hg, hc⟩ := h.2.2.2 hn
    exact ⟨g, off, e, by omega, hc⟩⟩
def sameS (x y : List Bl) (i : Nat) : Bool := sameO x[i]? y[i]?
def sameE (x y : List Bl) (i : Nat) : Bool := sameO x[x.length - 1 - i]? y[y.length - 1 - i]?
theorem sameS_of (x y : List Bl) (i : Nat) (h1 : i < x.length) (h2 : i < y.length) : sameS x y i = sameB x[i] y[i] := by
  rw [sameS, List.getElem?_eq_getElem h1, List.getElem?_eq_getElem h2, sameO]
theorem sameE_of (x y : List Bl) (i : Nat) (h1 : i < x.length) (h2 : i < y.length) : sameE x y i = sameB (x[x.length - 1 - i]'(by omega)) (y[y.length - 1 - i]'(by omega)) := by
  rw [sameE, List.getElem?_eq_getElem (show x.length - 1 - i < x.length by omega), List.getElem?_eq_getElem (show y.length - 1 - i < y.length by omega), sameO]

set_option maxHeartbeats 4000000 in
set_option maxRecDepth 100000 in
theorem c_l6Equal (a b : Bl) (w : World) : Calls Tryd.prog 63 #[.agg #[.int .i64 a.n, .bool a.raw, .int .i64 a.z, .string a.body], .agg #[.int .i64 b.n, .bool b.raw, .int .i64 b.z, .string b.body]] w fun e w' => e = .returned (.bool (sameB a b)) ∧ Below w.heap.size w w' := by
  obtain ⟨a0, a1, a2, a3⟩ := a
  obtain ⟨b0, b1, b2, b3⟩ := b
  have HV := hid (show sameB ⟨a0, a1, a2, a3⟩ ⟨b0, b1, b2, b3⟩ = (a1 == b1 && (a2 == b2 && a3.toList == b3.toList)) from rfl)
  simp only
  go_enter Tryd.func63, Tryd.ntmps63
  go_wp2_with fail
  all_goals
    go_ret
    exact ⟨ret_bool (by rw [HV.out]; simp_all), by (repeat (first | with_reducible (first | assumption | exact Below.refl _ _ | refine bel_alloc ?_ _ | refine bel_drew ?_ | refine bel_drewN ?_ _ | refine bel_set ?_ (by first | omega | (simp; done) | (simp; omega)) _ | refine bel_trans ?_ (by assumption)) | assumption | refine bel_trans ?_ (by assumption)))⟩

theorem c_sameBlock (a b : Bl) (w : World) : Calls Tryd.prog 66 #[.agg #[.int .i64 a.n, .bool a.raw, .int .i64 a.z, .string a.body], .agg #[.int .i64 b.n, .bool b.raw, .int .i64 b.z, .string b.body]] w fun e w' => e = .returned (.bool (sameB a b)) ∧ Below w.heap.size w w' := by
  obtain ⟨a0, a1, a2, a3⟩ := a
  obtain ⟨b0, b1, b2, b3⟩ := b
  have HV := hid (show sameB ⟨a0, a1, a2, a3⟩ ⟨b0, b1, b2, b3⟩ = (a1 == b1 && (a2 == b2 && a3.toList == b3.toList)) from rfl)
  simp only
  go_enter Tryd.func66, Tryd.ntmps66
  go_wp2_with fail
  all_goals
    go_ret
    exact ⟨ret_bool (by rw [HV.out]; simp_all), by (repeat (first | with_reducible (first | assumption | exact Below.refl _ _ | refine bel_alloc ?_ _ | refine bel_drew ?_ | refine bel_drewN ?_ _ | refine bel_set ?_ (by first | omega | (simp; done) | (simp; omega)) _ | refine bel_trans ?_ (by assumption)) | assumption | refine bel_trans ?_ (by assumption)))⟩

set_option maxHeartbeats 4000000 in
set_option maxRecDepth 100000 in
theorem c_sSameBlocks (S1 S2 : ByteArray) (L1 L2 : List UInt8) (x y : List Bl) (d1 d2 : Nat) (n k : Nat) (w : World) (hS1 : S1.size ≤ 1000000000000) (hL1 : L1 = S1.data.toList) (hst1 : Stop L1 x d1) (hS2 : S2.size ≤ 1000000000000) (hL2 : L2 = S2.data.toList) (hst2 : Stop L2 y d2) (hn : Agr (sameS x y) (min x.length y.length) n) (hk : Agr (sameE x y) (min x.length y.length - n) k) : Calls Tryd.prog 40 #[.string S1, .string S2] w fun e w' => e = .returned (.int .i64 (if d1 = 0 ∧ d2 = 0 then ((n + k : Nat) : Int) else -1)) ∧ Below w.heap.size w w' := by
  have HB1 := hid (c_l5Blocks S1 L1 x d1 w hS1 hL1 hst1)
  have HB2 := hid (fun v => c_l5Blocks S2 L2 y d2 v hS2 hL2 hst2)
  have hx40 := hst1.brd.len_le
  have hy40 := hst2.brd.len_le
  by_cases h1 : d1 = 0
  · by_cases h2 : d2 = 0
    · rw [if_pos h1, decide_eq_true h1] at HB1
      rw [if_pos h2, decide_eq_true h2] at HB2
      rw [if_pos ⟨h1, h2⟩]
      obtain ⟨M, hM⟩ : ∃ M, M = min x.length y.length := ⟨_, rfl⟩
      rw [← hM] at hn hk
      obtain ⟨N1, hN1⟩ : ∃ N1, N1 = x.length := ⟨_, rfl⟩
      obtain ⟨N2, hN2⟩ : ∃ N2, N2 = y.length := ⟨_, rfl⟩
      have HN1 := hid hN1
      have HN2 := hid hN2
      rw [← hN1] at hx40
      rw [← hN2] at hy40
      have HMi := hid (show min (N1 : Int) (N2 : Int) = (M : Int) by omega)
      have hM1 : M ≤ N1 := by omega
      have hM2 : M ≤ N2 := by omega
      have hnM := hn.1
      have hkM := hk.1
      have HNn := hid hn
      have HK := hid hk
      clear hst1 hst2 h1 h2 hN1 hN2 hM hn hk
      go_enter Tryd.func40, Tryd.ntmps40
      go_wp2_with fail
      refine (HB1.out).mono ?_
      rintro e w1 ⟨v1, rfl, own1, hb1⟩
      obtain ⟨A1, q1, rfl, -, -⟩ := own_bls own1
      have at1 := own_blsq own1
      have z1 := hb1.size
      clear own1
      go_wp2_with fail
      refine (HB2.out _).mono ?_
      rintro e w2 ⟨v2, rfl, own2, hb2⟩
      obtain ⟨A2, q2, rfl, -, -⟩ := own_bls own2
      have z2 := hb2.size
      have HX := hid (show BlsAt w2 w2.heap.size A1 q1 x from (at1.below hb2 (Nat.le_refl _)).up hb2.size)
      have HY := hid (own_blsq own2)
      have hb := hb1.trans (hb2.mono z1)
      have hz2 := hb.size
      clear own2 at1 hb1 hb2
      rw [← HN1.out, ← HN2.out]
      have hmin := HMi.out
      go_wp2_with fail
      go_loopw [9] (fun i wr => ∃ j : Nat, j ≤ n ∧ i = .int .i64 j ∧ Below w2.heap.size w2 wr) (fun i _ => 40 - (intOf i).toNat)
      case atStart => exact ⟨0, Nat.zero_le _, rfl, by (repeat (first | with_reducible (first | assumption | exact Below.refl _ _ | refine bel_alloc ?_ _ | refine bel_drew ?_ | refine bel_drewN ?_ _ | refine bel_set ?_ (by first | omega | (simp; done) | (simp; omega)) _ | refine bel_trans ?_ (by assumption)) | assumption | refine bel_trans ?_ (by assumption)))⟩
      case round =>
        obtain ⟨j, hj, rfl, hbl⟩ := hrel
        by_cases hlt : j < M
        · have hg1 : decide ((j : Int) < (M : Int)) = true := decide_eq_true (by omega)
          have hg2 : decide (j < M) = true := decide_eq_true (by omega)
          have hjN1 : j < N1 := by omega
          have hjN2 : j < N2 := by omega
          have hlx : j < x.length := by have := HN1.out; omega
          have hly : j < y.length := by have := HN2.out; omega
          obtain ⟨b, off, hA1, hb0, hc0, hc1, hc2, hc3⟩ := bl_at (HX.out.below hbl (Nat.le_refl _)) j hlx
          obtain ⟨d, off2, hA2, hd, hd0, hd1, hd2, hd3⟩ := bl_at (HY.out.below hbl (Nat.le_refl _)) j hly
          have HSE := hid (sameS_of x y j hlx hly)
          obtain ⟨p, hp⟩ : ∃ p, p = x[j] := ⟨_, rfl⟩
          obtain ⟨q, hq⟩ : ∃ q, q = y[j] := ⟨_, rfl⟩
          rw [← hp] at hc0 hc1 hc2 hc3 HSE
          rw [← hq] at hd0 hd1 hd2 hd3 HSE
          have HE := hid (fun v => c_l6Equal p q v)
          obtain ⟨p0, p1, p2, p3⟩ := p
          obtain ⟨q0, q1, q2, q3⟩ := q
          simp only at hc0 hc1 hc2 hc3 hd0 hd1 hd2 hd3 HE
          clear hp hq hlx hly
          have hs2 : wr.cell? ⟨b, off + j * 4, none⟩ = some (.int .i64 p0) ∧ wr.cell? ⟨b, off + j * 4 + 1, none⟩ = some (.bool p1) ∧ wr.cell? ⟨b, off + j * 4 + 2, none⟩ = some (.int .i64 p2) ∧ wr.cell? ⟨b, off + j * 4 + 3, none⟩ = some (.string p3) ∧ wr.cell? ⟨d, off2 + j * 4, none⟩ = some (.int .i64 q0) ∧ wr.cell? ⟨d, off2 + j * 4 + 1, none⟩ = some (.bool q1) ∧ wr.cell? ⟨d, off2 + j * 4 + 2, none⟩ = some (.int .i64 q2) ∧ wr.cell? ⟨d, off2 + j * 4 + 3, none⟩ = some (.string q3) ∧ Below wr.heap.size wr wr := ⟨hc0, hc1, hc2, hc3, hd0, hd1, hd2, hd3, Below.refl _ _⟩
          clear hc0 hc1 hc2 hc3 hd0 hd1 hd2 hd3
          rw [hA1, hA2]
          go_wp2_with fail
          refine qB (S := (fun v => v.cell? ⟨b, off + j * 4, none⟩ = some (.int .i64 p0) ∧ v.cell? ⟨b, off + j * 4 + 1, none⟩ = some (.bool p1) ∧ v.cell? ⟨b, off + j * 4 + 2, none⟩ = some (.int .i64 p2) ∧ v.cell? ⟨b, off + j * 4 + 3, none⟩ = some (.string p3) ∧ v.cell? ⟨d, off2 + j * 4, none⟩ = some (.int .i64 q0) ∧ v.cell? ⟨d, off2 + j * 4 + 1, none⟩ = some (.bool q1) ∧ v.cell? ⟨d, off2 + j * 4 + 2, none⟩ = some (.int .i64 q2) ∧ v.cell? ⟨d, off2 + j * 4 + 3, none⟩ = some (.string q3) ∧ Below wr.heap.size wr v)) (by kernel_rfl) (by kernel_rfl) (s8_drew hs2) ?_
          refine qK ?_
          refine qK ?_
          refine qK ?_
          refine qK ?_
          refine qK ?_
          refine qK ?_
          refine qK ?_
          refine qK ?_
          refine qK ?_
          refine qK ?_
          refine qK ?_
          refine qK ?_
          refine qC (fun wq hSq => HE.out wq) (fun wq wr hbr hSq => s8_bel hbr hSq) ?_
          refine qK ?_
          refine qN ?_
          intro wq hSq
          (try dsimp only at hSq)
          obtain ⟨-, -, -, -, -, -, -, -, hbS⟩ := hSq
          have hbq := hbl.trans (hbS.mono hbl.size)
          clear hbS hs2
          rw [← HSE.out]
          cases hv : sameS x y j with
          | true =>
            have hk2 := HNn.out.lt hj (fun _ => hv) (by omega)
            clear hv
            go_wp2_with fail
            go_roundw
            case rel => exact ⟨j + 1, by omega, by go_num, hbq⟩
            case measure => simp [intOf]; omega
          | false =>
            have hk2 := HNn.out.at_end hj hv
            rw [hk2, ← hA1, ← hA2]
            clear hA1 hA2 hv hk2 hlt hj HSE HE hg1 hg2 hjN1 hjN2
            go_wp2_with fail
            go_loopw [11] (fun i wr => ∃ j : Nat, j ≤ k ∧ i = .int .i64 j ∧ Below w2.heap.size w2 wr) (fun i _ => 40 - (intOf i).toNat)
            case atStart => exact ⟨0, Nat.zero_le _, rfl, by (repeat (first | with_reducible (first | assumption | exact Below.refl _ _ | refine bel_alloc ?_ _ | refine bel_drew ?_ | refine bel_drewN ?_ _ | refine bel_set ?_ (by first | omega | (simp; done) | (simp; omega)) _ | refine bel_trans ?_ (by assumption)) | assumption | refine bel_trans ?_ (by assumption)))⟩
            case round =>
              obtain ⟨j, hj, rfl, hbl⟩ := hrel
              have hsum : IntKind.i64.wrap ((n : Int) + (j : Int)) = (n : Int) + (j : Int) := IntWalk.i64_in _ (by omega)
              by_cases hlt : n + j < M
              · have hg1 : decide ((n : Int) + (j : Int) < (M : Int)) = true := decide_eq_true (by omega)
                have hg2 : decide (n + j < M) = true := decide_eq_true (by omega)
                have hjN1 : j < N1 := by omega
                have hjN2 : j < N2 := by omega
                have hlx : N1 - 1 - j < x.length := by have := HN1.out; omega
                have hly : N2 - 1 - j < y.length := by have := HN2.out; omega
                have hjx : j < x.length := by have := HN1.out; omega
                have hjy : j < y.length := by have := HN2.out; omega
                obtain ⟨b, off, hA1, hb0, hc0, hc1, hc2, hc3⟩ := bl_at (HX.out.below hbl (Nat.le_refl _)) (N1 - 1 - j) hlx
                obtain ⟨d, off2, hA2, hd, hd0, hd1, hd2, hd3⟩ := bl_at (HY.out.below hbl (Nat.le_refl _)) (N2 - 1 - j) hly
                have HSE := hid (show sameE x y j = sameB x[N1 - 1 - j] y[N2 - 1 - j] by
                  rw [sameE_of x y j hjx hjy]
                  simp only [HN1.out, HN2.out])
                obtain ⟨p, hp⟩ : ∃ p, p = x[N1 - 1 - j] := ⟨_, rfl⟩
                obtain ⟨q, hq⟩ : ∃ q, q = y[N2 - 1 - j] := ⟨_, rfl⟩
                rw [← hp] at hc0 hc1 hc2 hc3 HSE
                rw [← hq] at hd0 hd1 hd2 hd3 HSE
                have HE := hid (fun v => c_l6Equal p q v)
                obtain ⟨p0, p1, p2, p3⟩ := p
                obtain ⟨q0, q1, q2, q3⟩ := q
                simp only at hc0 hc1 hc2 hc3 hd0 hd1 hd2 hd3 HE
                clear hp hq hlx hly hjx hjy
                have hwx : IntKind.i64.wrap ((N1 : Int) - 1) = (N1 : Int) - 1 := IntWalk.i64_in _ (by omega)
                have hwx2 : IntKind.i64.wrap ((N1 : Int) - 1 - (j : Int)) = ((N1 - 1 - j : Nat) : Int) := by rw [IntWalk.i64_in _ (by omega)]; omega
                have hwy : IntKind.i64.wrap ((N2 : Int) - 1) = (N2 : Int) - 1 := IntWalk.i64_in _ (by omega)
                have hwy2 : IntKind.i64.wrap ((N2 : Int) - 1 - (j : Int)) = ((N2 - 1 - j : Nat) : Int) := by rw [IntWalk.i64_in _ (by omega)]; omega
                obtain ⟨i1, hi1⟩ : ∃ i1 : Nat, i1 = N1 - 1 - j := ⟨_, rfl⟩
                obtain ⟨i2, hi2⟩ : ∃ i2 : Nat, i2 = N2 - 1 - j := ⟨_, rfl⟩
                have hx1 : i1 < N1 := by omega
                have hx2 : i2 < N2 := by omega
                rw [← hi1] at hc0 hc1 hc2 hc3 hwx2
                rw [← hi2] at hd0 hd1 hd2 hd3 hwy2
                clear hi1 hi2
                have hs2 : wr.cell? ⟨b, off + i1 * 4, none⟩ = some (.int .i64 p0) ∧ wr.cell? ⟨b, off + i1 * 4 + 1, none⟩ = some (.bool p1) ∧ wr.cell? ⟨b, off + i1 * 4 + 2, none⟩ = some (.int .i64 p2) ∧ wr.cell? ⟨b, off + i1 * 4 + 3, none⟩ = some (.string p3) ∧ wr.cell? ⟨d, off2 + i2 * 4, none⟩ = some (.int .i64 q0) ∧ wr.cell? ⟨d, off2 + i2 * 4 + 1, none⟩ = some (.bool q1) ∧ wr.cell? ⟨d, off2 + i2 * 4 + 2, none⟩ = some (.int .i64 q2) ∧ wr.cell? ⟨d, off2 + i2 * 4 + 3, none⟩ = some (.string q3) ∧ Below wr.heap.size wr wr := ⟨hc0, hc1, hc2, hc3, hd0, hd1, hd2, hd3, Below.refl _ _⟩
                clear hc0 hc1 hc2 hc3 hd0 hd1 hd2 hd3
                rw [hA1, hA2]
                go_wp2_with fail
                refine qB (S := (fun v => v.cell? ⟨b, off + i1 * 4, none⟩ = some (.int .i64 p0) ∧ v.cell? ⟨b, off + i1 * 4 + 1, none⟩ = some (.bool p1) ∧ v.cell? ⟨b, off + i1 * 4 + 2, none⟩ = some (.int .i64 p2) ∧ v.cell? ⟨b, off + i1 * 4 + 3, none⟩ = some (.string p3) ∧ v.cell? ⟨d, off2 + i2 * 4, none⟩ = some (.int .i64 q0) ∧ v.cell? ⟨d, off2 + i2 * 4 + 1, none⟩ = some (.bool q1) ∧ v.cell? ⟨d, off2 + i2 * 4 + 2, none⟩ = some (.int .i64 q2) ∧ v.cell? ⟨d, off2 + i2 * 4 + 3, none⟩ = some (.string q3) ∧ Below wr.heap.size wr v)) (by kernel_rfl) (by kernel_rfl) (s8_drew hs2) ?_
                refine qK ?_
                refine qK ?_
                refine qK ?_
                refine qK ?_
                refine qK ?_
                refine qK ?_
                refine qK ?_
                refine qK ?_
                refine qK ?_
                refine qK ?_
                refine qK ?_
                refine qK ?_
                refine qK ?_
                refine qK ?_
                refine qK ?_
                refine qK ?_
                refine qK ?_
                refine qK ?_
                refine qK ?_
                refine qK ?_
                refine qK ?_
                refine qK ?_
                refine qC (fun wq hSq => HE.out wq) (fun wq wr hbr hSq => s8_bel hbr hSq) ?_
                refine qK ?_
                refine qN ?_
                intro wq hSq
                (try dsimp only at hSq)
                obtain ⟨-, -, -, -, -, -, -, -, hbS⟩ := hSq
                have hbq := hbl.trans (hbS.mono hbl.size)
                clear hbS hs2
                rw [← HSE.out]
                cases hv : sameE x y j with
                | true =>
                  have hk2 := HK.out.lt hj (fun _ => hv) (by omega)
                  clear hv
                  go_wp2_with fail
                  go_roundw
                  case rel => exact ⟨j + 1, by omega, by go_num, hbq⟩
                  case measure => simp [intOf]; omega
                | false =>
                  have hk2 := HK.out.at_end hj hv
                  subst hk2
                  clear hv
                  go_wp2_with fail
                  go_ret
                  exact ⟨ret_int (by omega), hb.trans (hbq.mono hz2)⟩
              · have hg1 : decide ((n : Int) + (j : Int) < (M : Int)) = false := decide_eq_false (by omega)
                have hg2 : decide (n + j < M) = false := decide_eq_false (by omega)
                have hs2 : Below wr.heap.size wr wr := Below.refl _ _
                go_wp2_with fail
                refine qB (S := (fun v => Below wr.heap.size wr v)) (by kernel_rfl) (by kernel_rfl) (bel_drew hs2) ?_
                refine qK ?_
                refine qK ?_
                refine qK ?_
                refine qK ?_
                refine qK ?_
                refine qK ?_
                refine qU ?_
                refine qU ?_
                refine qU ?_
                refine qU ?_
                refine qU ?_
                refine qU ?_
                refine qU ?_
                refine qU ?_
                refine qU ?_
                refine qU ?_
                refine qU ?_
                refine qU ?_
                refine qU ?_
                refine qU ?_
                refine qU ?_
                refine qU ?_
                refine qU ?_
                refine qK ?_
                refine qN ?_
                intro wq hSq
                (try dsimp only at hSq)
                have hbq := hbl.trans (hSq.mono hbl.size)
                have hk2 : j = k := by omega
                subst hk2
                clear hSq hs2
                go_wp2_with fail
                go_ret
                exact ⟨ret_int (by omega), hb.trans (hbq.mono hz2)⟩
        · have hg1 : decide ((j : Int) < (M : Int)) = false := decide_eq_false (by omega)
          have hg2 : decide (j < M) = false := decide_eq_false (by omega)
          have hs2 : Below wr.heap.size wr wr := Below.refl _ _
          go_wp2_with fail
          refine qB (S := (fun v => Below wr.heap.size wr v)) (by kernel_rfl) (by kernel_rfl) (bel_drew hs2) ?_
          refine qK ?_
          refine qK ?_
          refine qK ?_
          refine qK ?_
          refine qU ?_
          refine qU ?_
          refine qU ?_
          refine qU ?_
          refine qU ?_
          refine qU ?_
          refine qU ?_
          refine qU ?_
          refine qU ?_
          refine qK ?_
          refine qN ?_
          intro wq hSq
          (try dsimp only at hSq)
          have hbq := hbl.trans (hSq.mono hbl.size)
          have hk2 : j = n := by omega
          rw [hk2]
          clear hSq hs2 hk2 hlt hj hg1 hg2
          go_wp2_with fail
          go_loopw [11] (fun i wr => ∃ j : Nat, j ≤ k ∧ i = .int .i64 j ∧ Below w2.heap.size w2 wr) (fun i _ => 40 - (intOf i).toNat)
          case atStart => exact ⟨0, Nat.zero_le _, rfl, by (repeat (first | with_reducible (first | assumption | exact Below.refl _ _ | refine bel_alloc ?_ _ | refine bel_drew ?_ | refine bel_drewN ?_ _ | refine bel_set ?_ (by first | omega | (simp; done) | (simp; omega)) _ | refine bel_trans ?_ (by assumption)) | assumption | refine bel_trans ?_ (by assumption)))⟩
          case round =>
            obtain ⟨j, hj, rfl, hbl⟩ := hrel
            have hsum : IntKind.i64.wrap ((n : Int) + (j : Int)) = (n : Int) + (j : Int) := IntWalk.i64_in _ (by omega)
            by_cases hlt : n + j < M
            · have hg1 : decide ((n : Int) + (j : Int) < (M : Int)) = true := decide_eq_true (by omega)
              have hg2 : decide (n + j < M) = true := decide_eq_true (by omega)
              have hjN1 : j < N1 := by omega
              have hjN2 : j < N2 := by omega
              have hlx : N1 - 1 - j < x.length := by have := HN1.out; omega
              have hly : N2 - 1 - j < y.length := by have := HN2.out; omega
              have hjx : j < x.length := by have := HN1.out; omega
              have hjy : j < y.length := by have := HN2.out; omega
              obtain ⟨b, off, hA1, hb0, hc0, hc1, hc2, hc3⟩ := bl_at (HX.out.below hbl (Nat.le_refl _)) (N1 - 1 - j) hlx
              obtain ⟨d, off2, hA2, hd, hd0, hd1, hd2, hd3⟩ := bl_at (HY.out.below hbl (Nat.le_refl _)) (N2 - 1 - j) hly
              have HSE := hid (show sameE x y j = sameB x[N1 - 1 - j] y[N2 - 1 - j] by
                rw [sameE_of x y j hjx hjy]
                simp only [HN1.out, HN2.out])
              obtain ⟨p, hp⟩ : ∃ p, p = x[N1 - 1 - j] := ⟨_, rfl⟩
              obtain ⟨q, hq⟩ : ∃ q, q = y[N2 - 1 - j] := ⟨_, rfl⟩
              rw [← hp] at hc0 hc1 hc2 hc3 HSE
              rw [← hq] at hd0 hd1 hd2 hd3 HSE
              have HE := hid (fun v => c_l6Equal p q v)
              obtain ⟨p0, p1, p2, p3⟩ := p
              obtain ⟨q0, q1, q2, q3⟩ := q
              simp only at hc0 hc1 hc2 hc3 hd0 hd1 hd2 hd3 HE
              clear hp hq hlx hly hjx hjy
              have hwx : IntKind.i64.wrap ((N1 : Int) - 1) = (N1 : Int) - 1 := IntWalk.i64_in _ (by omega)
              have hwx2 : IntKind.i64.wrap ((N1 : Int) - 1 - (j : Int)) = ((N1 - 1 - j : Nat) : Int) := by rw [IntWalk.i64_in _ (by omega)]; omega
              have hwy : IntKind.i64.wrap ((N2 : Int) - 1) = (N2 : Int) - 1 := IntWalk.i64_in _ (by omega)
              have hwy2 : IntKind.i64.wrap ((N2 : Int) - 1 - (j : Int)) = ((N2 - 1 - j : Nat) : Int) := by rw [IntWalk.i64_in _ (by omega)]; omega
              obtain ⟨i1, hi1⟩ : ∃ i1 : Nat, i1 = N1 - 1 - j := ⟨_, rfl⟩
              obtain ⟨i2, hi2⟩ : ∃ i2 : Nat, i2 = N2 - 1 - j := ⟨_, rfl⟩
              have hx1 : i1 < N1 := by omega
              have hx2 : i2 < N2 := by omega
              rw [← hi1] at hc0 hc1 hc2 hc3 hwx2
              rw [← hi2] at hd0 hd1 hd2 hd3 hwy2
              clear hi1 hi2
              have hs2 : wr.cell? ⟨b, off + i1 * 4, none⟩ = some (.int .i64 p0) ∧ wr.cell? ⟨b, off + i1 * 4 + 1, none⟩ = some (.bool p1) ∧ wr.cell? ⟨b, off + i1 * 4 + 2, none⟩ = some (.int .i64 p2) ∧ wr.cell? ⟨b, off + i1 * 4 + 3, none⟩ = some (.string p3) ∧ wr.cell? ⟨d, off2 + i2 * 4, none⟩ = some (.int .i64 q0) ∧ wr.cell? ⟨d, off2 + i2 * 4 + 1, none⟩ = some (.bool q1) ∧ wr.cell? ⟨d, off2 + i2 * 4 + 2, none⟩ = some (.int .i64 q2) ∧ wr.cell? ⟨d, off2 + i2 * 4 + 3, none⟩ = some (.string q3) ∧ Below wr.heap.size wr wr := ⟨hc0, hc1, hc2, hc3, hd0, hd1, hd2, hd3, Below.refl _ _⟩
              clear hc0 hc1 hc2 hc3 hd0 hd1 hd2 hd3
              rw [hA1, hA2]
              go_wp2_with fail
              refine qB (S := (fun v => v.cell? ⟨b, off + i1 * 4, none⟩ = some (.int .i64 p0) ∧ v.cell? ⟨b, off + i1 * 4 + 1, none⟩ = some (.bool p1) ∧ v.cell? ⟨b, off + i1 * 4 + 2, none⟩ = some (.int .i64 p2) ∧ v.cell? ⟨b, off + i1 * 4 + 3, none⟩ = some (.string p3) ∧ v.cell? ⟨d, off2 + i2 * 4, none⟩ = some (.int .i64 q0) ∧ v.cell? ⟨d, off2 + i2 * 4 + 1, none⟩ = some (.bool q1) ∧ v.cell? ⟨d, off2 + i2 * 4 + 2, none⟩ = some (.int .i64 q2) ∧ v.cell? ⟨d, off2 + i2 * 4 + 3, none⟩ = some (.string q3) ∧ Below wr.heap.size wr v)) (by kernel_rfl) (by kernel_rfl) (s8_drew hs2) ?_
              refine qK ?_
              refine qK ?_
              refine qK ?_
              refine qK ?_
              refine qK ?_
              refine qK ?_
              refine qK ?_
              refine qK ?_
              refine qK ?_
              refine qK ?_
              refine qK ?_
              refine qK ?_
              refine qK ?_
              refine qK ?_
              refine qK ?_
              refine qK ?_
              refine qK ?_
              refine qK ?_
              refine qK ?_
              refine qK ?_
              refine qK ?_
              refine qK ?_
              refine qC (fun wq hSq => HE.out wq) (fun wq wr hbr hSq => s8_bel hbr hSq) ?_
              refine qK ?_
              refine qN ?_
              intro wq hSq
              (try dsimp only at hSq)
              obtain ⟨-, -, -, -, -, -, -, -, hbS⟩ := hSq
              have hbq := hbl.trans (hbS.mono hbl.size)
              clear hbS hs2
              rw [← HSE.out]
              cases hv : sameE x y j with
              | true =>
                have hk2 := HK.out.lt hj (fun _ => hv) (by omega)
                clear hv
                go_wp2_with fail
                go_roundw
                case rel => exact ⟨j + 1, by omega, by go_num, hbq⟩
                case measure => simp [intOf]; omega
              | false =>
                have hk2 := HK.out.at_end hj hv
                subst hk2
                clear hv
                go_wp2_with fail
                go_ret
                exact ⟨ret_int (by omega), hb.trans (hbq.mono hz2)⟩
            · have hg1 : decide ((n : Int) + (j : Int) < (M : Int)) = false := decide_eq_false (by omega)
              have hg2 : decide (n + j < M) = false := decide_eq_false (by omega)
              have hs2 : Below wr.heap.size wr wr := Below.refl _ _
              go_wp2_with fail
              refine qB (S := (fun v => Below wr.heap.size wr v)) (by kernel_rfl) (by kernel_rfl) (bel_drew hs2) ?_
              refine qK ?_
              refine qK ?_
              refine qK ?_
              refine qK ?_
              refine qK ?_
              refine qK ?_
              refine qU ?_
              refine qU ?_
              refine qU ?_
              refine qU ?_
              refine qU ?_
              refine qU ?_
              refine qU ?_
              refine qU ?_
              refine qU ?_
              refine qU ?_
              refine qU ?_
              refine qU ?_
              refine qU ?_
              refine qU ?_
              refine qU ?_
              refine qU ?_
              refine qU ?_
              refine qK ?_
              refine qN ?_
              intro wq hSq
              (try dsimp only at hSq)
              have hbq := hbl.trans (hSq.mono hbl.size)
              have hk2 : j = k := by omega
              subst hk2
              clear hSq hs2
              go_wp2_with fail
              go_ret
              exact ⟨ret_int (by omega), hb.trans (hbq.mono hz2)⟩
    · rw [if_neg h2, decide_eq_false h2] at HB2
      rw [decide_eq_true h1] at HB1
      rw [if_neg (fun h => h2 h.2)]
      clear hst1 hst2 h1 h2 hn hk
      go_enter Tryd.func40, Tryd.ntmps40
      go_wp2_with fail
      refine (HB1.out).mono ?_
      rintro e w1 ⟨v1, rfl, own1, hb1⟩
      clear own1
      go_wp2_with fail
      refine (HB2.out _).mono ?_
      rintro e w2 ⟨v2, rfl, own2, hb2⟩
      clear own2
      go_wp2_with fail
      go_ret
      exact ⟨rfl, hb1.trans (hb2.mono hb1.size)⟩
  · rw [decide_eq_false h1] at HB1
    rw [if_neg (fun h => h1 h.1)]
    clear hst1 hst2 h1 hn hk
    go_enter Tryd.func40, Tryd.ntmps40
    go_wp2_with fail
    refine (HB1.out).mono ?_
    rintro e w1 ⟨v1, rfl, own1, hb1⟩
    clear own1
    go_wp2_with fail
    refine (HB2.out _).mono ?_
    rintro e w2 ⟨v2, rfl, own2, hb2⟩
    clear own2
    go_wp2_with fail
    go_ret
    exact ⟨rfl, hb1.trans (hb2.mono hb1.size)⟩
end Go.Proofs.YtkglpbaapekgnaaDoor
