/- SameBlocks in the program, and its law's walk. The layout of the header and the errors are as the program's text lays them. -/
import Derived.Test.YtkglpbaapekgnaaDoorTj
namespace Go.Proofs.YtkglpbaapekgnaaDoor
open Go.ChangeShapes Go.WideShapes Go.ChangeAt Go.RowKit Go.Joins
set_option linter.unusedVariables false
set_option linter.unusedSimpArgs false

set_option maxHeartbeats 4000000 in
set_option maxRecDepth 100000 in
theorem c_SB1 (k pa pb : Nat) (A1 A2 : Option Addr) (q1 q2 La Lb : Nat) (x y : List Bl) (w : World) (pA : w.cell? ⟨pa, 0, none⟩ = some (.slice A1 x.length q1)) (pB : w.cell? ⟨pb, 0, none⟩ = some (.slice A2 y.length q2)) (hx : BlsAt w La A1 q1 x) (hy : BlsAt w Lb A2 q2 y) (hx40 : x.length ≤ 40) (hy40 : y.length ≤ 40) (h1 : k < x.length) (h2 : k < y.length) : Calls Tryd.prog 65 #[.int .i64 (k : Nat), .pointer (some ⟨pa, 0, none⟩), .pointer (some ⟨pb, 0, none⟩)] w fun e w' => e = .returned (.bool (sameS x y k)) ∧ Below w.heap.size w w' := by
  obtain ⟨b, off, rfl, hb0, hc0, hc1, hc2, hc3⟩ := bl_at hx k (by omega)
  obtain ⟨d, off2, rfl, hd, hd0, hd1, hd2, hd3⟩ := bl_at hy k (by omega)
  have HSE := hid (sameS_of x y k h1 h2)
  obtain ⟨p, hp⟩ : ∃ p, p = x[k]'(by omega) := ⟨_, rfl⟩
  obtain ⟨q, hq⟩ : ∃ q, q = y[k]'(by omega) := ⟨_, rfl⟩
  rw [← hp] at hc0 hc1 hc2 hc3 HSE
  rw [← hq] at hd0 hd1 hd2 hd3 HSE
  have HE := hid (fun v => c_sameBlock p q v)
  rw [← HSE.out] at HE
  obtain ⟨p0, p1, p2, p3⟩ := p
  obtain ⟨r0, r1, r2, r3⟩ := q
  simp only at hc0 hc1 hc2 hc3 hd0 hd1 hd2 hd3 HE
  clear hp hq HSE hx hy
  obtain ⟨V, hV⟩ : ∃ V, V = sameS x y k := ⟨_, rfl⟩
  rw [← hV] at HE ⊢
  clear hV
  obtain ⟨N1, hN1⟩ : ∃ N1, N1 = x.length := ⟨_, rfl⟩
  obtain ⟨N2, hN2⟩ : ∃ N2, N2 = y.length := ⟨_, rfl⟩
  rw [← hN1] at pA h1 hx40
  rw [← hN2] at pB h2 hy40
  clear hN1 hN2
  have hs2 : w.cell? ⟨pa, 0, none⟩ = some (.slice (some ⟨b, off, none⟩) N1 q1) ∧ w.cell? ⟨pb, 0, none⟩ = some (.slice (some ⟨d, off2, none⟩) N2 q2) ∧ w.cell? ⟨b, off + k * 4, none⟩ = some (.int .i64 p0) ∧ w.cell? ⟨b, off + k * 4 + 1, none⟩ = some (.bool p1) ∧ w.cell? ⟨b, off + k * 4 + 2, none⟩ = some (.int .i64 p2) ∧ w.cell? ⟨b, off + k * 4 + 3, none⟩ = some (.string p3) ∧ w.cell? ⟨d, off2 + k * 4, none⟩ = some (.int .i64 r0) ∧ w.cell? ⟨d, off2 + k * 4 + 1, none⟩ = some (.bool r1) ∧ w.cell? ⟨d, off2 + k * 4 + 2, none⟩ = some (.int .i64 r2) ∧ w.cell? ⟨d, off2 + k * 4 + 3, none⟩ = some (.string r3) ∧ Below w.heap.size w w := ⟨pA, pB, hc0, hc1, hc2, hc3, hd0, hd1, hd2, hd3, Below.refl _ _⟩
  clear pA pB hc0 hc1 hc2 hc3 hd0 hd1 hd2 hd3
  go_enter Tryd.func65, Tryd.ntmps65
  go_wp2_with fail
  refine qB (S := (fun v => v.cell? ⟨pa, 0, none⟩ = some (.slice (some ⟨b, off, none⟩) N1 q1) ∧ v.cell? ⟨pb, 0, none⟩ = some (.slice (some ⟨d, off2, none⟩) N2 q2) ∧ v.cell? ⟨b, off + k * 4, none⟩ = some (.int .i64 p0) ∧ v.cell? ⟨b, off + k * 4 + 1, none⟩ = some (.bool p1) ∧ v.cell? ⟨b, off + k * 4 + 2, none⟩ = some (.int .i64 p2) ∧ v.cell? ⟨b, off + k * 4 + 3, none⟩ = some (.string p3) ∧ v.cell? ⟨d, off2 + k * 4, none⟩ = some (.int .i64 r0) ∧ v.cell? ⟨d, off2 + k * 4 + 1, none⟩ = some (.bool r1) ∧ v.cell? ⟨d, off2 + k * 4 + 2, none⟩ = some (.int .i64 r2) ∧ v.cell? ⟨d, off2 + k * 4 + 3, none⟩ = some (.string r3) ∧ Below w.heap.size w v)) (by kernel_rfl) (by kernel_rfl) (s10_drew hs2) ?_
  refine qK ?_
  refine qK ?_
  refine qK ?_
  refine qK ?_
  refine qK ?_
  refine qK ?_
  refine qK ?_
  refine qK ?_
  refine qC (fun wq hSq => HE.out wq) (fun wq wr hbr hSq => s10_bel hbr hSq) ?_
  refine qK ?_
  refine qN ?_
  intro wq hSq
  (try dsimp only at hSq)
  obtain ⟨-, -, -, -, -, -, -, -, -, -, hbS⟩ := hSq
  go_wp2_with fail
  go_ret
  exact ⟨rfl, hbS⟩

set_option maxHeartbeats 4000000 in
set_option maxRecDepth 100000 in
theorem c_agreeSB1 (n K pa pb : Nat) (A1 A2 : Option Addr) (q1 q2 La Lb : Nat) (x y : List Bl) (w : World) (pA : w.cell? ⟨pa, 0, none⟩ = some (.slice A1 x.length q1)) (pB : w.cell? ⟨pb, 0, none⟩ = some (.slice A2 y.length q2)) (hx : BlsAt w La A1 q1 x) (hy : BlsAt w Lb A2 q2 y) (hx40 : x.length ≤ 40) (hy40 : y.length ≤ 40) (hn1 : n ≤ x.length) (hn2 : n ≤ y.length) (hLa : La ≤ w.heap.size) (hLb : Lb ≤ w.heap.size) (hK : Agr (sameS x y) n K) : Calls Tryd.prog 64 #[.int .i64 (n : Nat), .func (.func 65) #[] #[.pointer (some ⟨pa, 0, none⟩), .pointer (some ⟨pb, 0, none⟩)]] w fun e w' => e = .returned (.int .i64 (K : Nat)) ∧ Below w.heap.size w w' := by
  have HC := hid (fun (k : Nat) (v : World) (hb2 : Below w.heap.size w v) (h4 : k < n) => c_SB1 k pa pb A1 A2 q1 q2 La Lb x y v (cell_to pA hb2) (cell_to pB hb2) (hx.below hb2 hLa) (hy.below hb2 hLb) hx40 hy40 (by omega) (by omega))
  have hKn := hK.1
  have hn40 : n ≤ 40 := by omega
  have HK := hid hK
  clear pA pB hx hy hK hx40 hy40 hn1 hn2 hLa hLb
  go_enter Tryd.func64, Tryd.ntmps64
  go_wp2_with fail
  go_loopw [7] (fun i wr => ∃ k : Nat, k ≤ K ∧ i = .int .i64 k ∧ Below w.heap.size w wr) (fun i _ => n - (intOf i).toNat)
  case atStart => exact ⟨0, Nat.zero_le _, rfl, Below.refl _ _⟩
  case round =>
    obtain ⟨k, hk, rfl, hbl⟩ := hrel
    by_cases hlt : k < n
    · have HC1 := hid (HC.out k wr hbl hlt)
      cases hv : sameS x y k with
      | true =>
        have hk2 := HK.out.lt hk (fun _ => hv) hlt
        rw [hv] at HC1
        clear hv
        go_wp2_with fail
        refine HC1.out.mono ?_
        rintro e w1 ⟨rfl, hb1⟩
        go_wp2
        go_roundw
        case rel => exact ⟨k + 1, by omega, by go_num, bel_trans hbl hb1⟩
        case measure => simp [intOf]; omega
      | false =>
        have HE2 := hid (HK.out.at_end hk hv)
        rw [hv] at HC1
        clear hv
        go_wp2_with fail
        refine HC1.out.mono ?_
        rintro e w1 ⟨rfl, hb1⟩
        go_wp2
        go_ret
        exact ⟨ret_int (by have := HE2.out; omega), bel_trans hbl hb1⟩
    · obtain rfl : k = n := by omega
      go_wp2
      go_ret
      exact ⟨ret_int (by omega), hbl⟩

set_option maxHeartbeats 4000000 in
set_option maxRecDepth 100000 in
theorem c_SB2 (k pa pb : Nat) (A1 A2 : Option Addr) (q1 q2 La Lb : Nat) (x y : List Bl) (w : World) (pA : w.cell? ⟨pa, 0, none⟩ = some (.slice A1 x.length q1)) (pB : w.cell? ⟨pb, 0, none⟩ = some (.slice A2 y.length q2)) (hx : BlsAt w La A1 q1 x) (hy : BlsAt w Lb A2 q2 y) (hx40 : x.length ≤ 40) (hy40 : y.length ≤ 40) (h1 : k < x.length) (h2 : k < y.length) : Calls Tryd.prog 67 #[.int .i64 (k : Nat), .pointer (some ⟨pa, 0, none⟩), .pointer (some ⟨pb, 0, none⟩)] w fun e w' => e = .returned (.bool (sameE x y k)) ∧ Below w.heap.size w w' := by
  obtain ⟨b, off, rfl, hb0, hc0, hc1, hc2, hc3⟩ := bl_at hx (x.length - 1 - k) (by omega)
  obtain ⟨d, off2, rfl, hd, hd0, hd1, hd2, hd3⟩ := bl_at hy (y.length - 1 - k) (by omega)
  have HSE := hid (sameE_of x y k h1 h2)
  obtain ⟨p, hp⟩ : ∃ p, p = x[(x.length - 1 - k)]'(by omega) := ⟨_, rfl⟩
  obtain ⟨q, hq⟩ : ∃ q, q = y[(y.length - 1 - k)]'(by omega) := ⟨_, rfl⟩
  rw [← hp] at hc0 hc1 hc2 hc3 HSE
  rw [← hq] at hd0 hd1 hd2 hd3 HSE
  have HE := hid (fun v => c_sameBlock p q v)
  rw [← HSE.out] at HE
  obtain ⟨p0, p1, p2, p3⟩ := p
  obtain ⟨r0, r1, r2, r3⟩ := q
  simp only at hc0 hc1 hc2 hc3 hd0 hd1 hd2 hd3 HE
  clear hp hq HSE hx hy
  obtain ⟨V, hV⟩ : ∃ V, V = sameE x y k := ⟨_, rfl⟩
  rw [← hV] at HE ⊢
  clear hV
  obtain ⟨N1, hN1⟩ : ∃ N1, N1 = x.length := ⟨_, rfl⟩
  obtain ⟨N2, hN2⟩ : ∃ N2, N2 = y.length := ⟨_, rfl⟩
  rw [← hN1] at pA h1 hx40 hc0 hc1 hc2 hc3
  rw [← hN2] at pB h2 hy40 hd0 hd1 hd2 hd3
  clear hN1 hN2
  have hwx : IntKind.i64.wrap ((N1 : Int) - 1) = (N1 : Int) - 1 := IntWalk.i64_in _ (by omega)
  have hwx2 : IntKind.i64.wrap ((N1 : Int) - 1 - (k : Int)) = ((N1 - 1 - k : Nat) : Int) := by rw [IntWalk.i64_in _ (by omega)]; omega
  have hwy : IntKind.i64.wrap ((N2 : Int) - 1) = (N2 : Int) - 1 := IntWalk.i64_in _ (by omega)
  have hwy2 : IntKind.i64.wrap ((N2 : Int) - 1 - (k : Int)) = ((N2 - 1 - k : Nat) : Int) := by rw [IntWalk.i64_in _ (by omega)]; omega
  obtain ⟨i1, hi1⟩ : ∃ i1 : Nat, i1 = N1 - 1 - k := ⟨_, rfl⟩
  obtain ⟨i2, hi2⟩ : ∃ i2 : Nat, i2 = N2 - 1 - k := ⟨_, rfl⟩
  have hl1 : i1 < N1 := by omega
  have hl2 : i2 < N2 := by omega
  rw [← hi1] at hc0 hc1 hc2 hc3 hwx2
  rw [← hi2] at hd0 hd1 hd2 hd3 hwy2
  clear hi1 hi2
  have hs2 : w.cell? ⟨pa, 0, none⟩ = some (.slice (some ⟨b, off, none⟩) N1 q1) ∧ w.cell? ⟨pb, 0, none⟩ = some (.slice (some ⟨d, off2, none⟩) N2 q2) ∧ w.cell? ⟨b, off + i1 * 4, none⟩ = some (.int .i64 p0) ∧ w.cell? ⟨b, off + i1 * 4 + 1, none⟩ = some (.bool p1) ∧ w.cell? ⟨b, off + i1 * 4 + 2, none⟩ = some (.int .i64 p2) ∧ w.cell? ⟨b, off + i1 * 4 + 3, none⟩ = some (.string p3) ∧ w.cell? ⟨d, off2 + i2 * 4, none⟩ = some (.int .i64 r0) ∧ w.cell? ⟨d, off2 + i2 * 4 + 1, none⟩ = some (.bool r1) ∧ w.cell? ⟨d, off2 + i2 * 4 + 2, none⟩ = some (.int .i64 r2) ∧ w.cell? ⟨d, off2 + i2 * 4 + 3, none⟩ = some (.string r3) ∧ Below w.heap.size w w := ⟨pA, pB, hc0, hc1, hc2, hc3, hd0, hd1, hd2, hd3, Below.refl _ _⟩
  clear pA pB hc0 hc1 hc2 hc3 hd0 hd1 hd2 hd3
  go_enter Tryd.func67, Tryd.ntmps67
  go_wp2_with fail
  refine qB (S := (fun v => v.cell? ⟨pa, 0, none⟩ = some (.slice (some ⟨b, off, none⟩) N1 q1) ∧ v.cell? ⟨pb, 0, none⟩ = some (.slice (some ⟨d, off2, none⟩) N2 q2) ∧ v.cell? ⟨b, off + i1 * 4, none⟩ = some (.int .i64 p0) ∧ v.cell? ⟨b, off + i1 * 4 + 1, none⟩ = some (.bool p1) ∧ v.cell? ⟨b, off + i1 * 4 + 2, none⟩ = some (.int .i64 p2) ∧ v.cell? ⟨b, off + i1 * 4 + 3, none⟩ = some (.string p3) ∧ v.cell? ⟨d, off2 + i2 * 4, none⟩ = some (.int .i64 r0) ∧ v.cell? ⟨d, off2 + i2 * 4 + 1, none⟩ = some (.bool r1) ∧ v.cell? ⟨d, off2 + i2 * 4 + 2, none⟩ = some (.int .i64 r2) ∧ v.cell? ⟨d, off2 + i2 * 4 + 3, none⟩ = some (.string r3) ∧ Below w.heap.size w v)) (by kernel_rfl) (by kernel_rfl) (s10_drew hs2) ?_
  refine qK ?_
  refine qK ?_
  refine qK ?_
  refine qK ?_
  refine qK ?_
  refine qK ?_
  refine qK ?_
  refine qK ?_
  refine qK ?_
  refine qK ?_
  refine qK ?_
  refine qK ?_
  refine qK ?_
  refine qK ?_
  refine qK ?_
  refine qK ?_
  refine qC (fun wq hSq => HE.out wq) (fun wq wr hbr hSq => s10_bel hbr hSq) ?_
  refine qK ?_
  refine qN ?_
  intro wq hSq
  (try dsimp only at hSq)
  obtain ⟨-, -, -, -, -, -, -, -, -, -, hbS⟩ := hSq
  go_wp2_with fail
  go_ret
  exact ⟨rfl, hbS⟩

set_option maxHeartbeats 4000000 in
set_option maxRecDepth 100000 in
theorem c_agreeSB2 (n K pa pb : Nat) (A1 A2 : Option Addr) (q1 q2 La Lb : Nat) (x y : List Bl) (w : World) (pA : w.cell? ⟨pa, 0, none⟩ = some (.slice A1 x.length q1)) (pB : w.cell? ⟨pb, 0, none⟩ = some (.slice A2 y.length q2)) (hx : BlsAt w La A1 q1 x) (hy : BlsAt w Lb A2 q2 y) (hx40 : x.length ≤ 40) (hy40 : y.length ≤ 40) (hn1 : n ≤ x.length) (hn2 : n ≤ y.length) (hLa : La ≤ w.heap.size) (hLb : Lb ≤ w.heap.size) (hK : Agr (sameE x y) n K) : Calls Tryd.prog 64 #[.int .i64 (n : Nat), .func (.func 67) #[] #[.pointer (some ⟨pa, 0, none⟩), .pointer (some ⟨pb, 0, none⟩)]] w fun e w' => e = .returned (.int .i64 (K : Nat)) ∧ Below w.heap.size w w' := by
  have HC := hid (fun (k : Nat) (v : World) (hb2 : Below w.heap.size w v) (h4 : k < n) => c_SB2 k pa pb A1 A2 q1 q2 La Lb x y v (cell_to pA hb2) (cell_to pB hb2) (hx.below hb2 hLa) (hy.below hb2 hLb) hx40 hy40 (by omega) (by omega))
  have hKn := hK.1
  have hn40 : n ≤ 40 := by omega
  have HK := hid hK
  clear pA pB hx hy hK hx40 hy40 hn1 hn2 hLa hLb
  go_enter Tryd.func64, Tryd.ntmps64
  go_wp2_with fail
  go_loopw [7] (fun i wr => ∃ k : Nat, k ≤ K ∧ i = .int .i64 k ∧ Below w.heap.size w wr) (fun i _ => n - (intOf i).toNat)
  case atStart => exact ⟨0, Nat.zero_le _, rfl, Below.refl _ _⟩
  case round =>
    obtain ⟨k, hk, rfl, hbl⟩ := hrel
    by_cases hlt : k < n
    · have HC1 := hid (HC.out k wr hbl hlt)
      cases hv : sameE x y k with
      | true =>
        have hk2 := HK.out.lt hk (fun _ => hv) hlt
        rw [hv] at HC1
        clear hv
        go_wp2_with fail
        refine HC1.out.mono ?_
        rintro e w1 ⟨rfl, hb1⟩
        go_wp2
        go_roundw
        case rel => exact ⟨k + 1, by omega, by go_num, bel_trans hbl hb1⟩
        case measure => simp [intOf]; omega
      | false =>
        have HE2 := hid (HK.out.at_end hk hv)
        rw [hv] at HC1
        clear hv
        go_wp2_with fail
        refine HC1.out.mono ?_
        rintro e w1 ⟨rfl, hb1⟩
        go_wp2
        go_ret
        exact ⟨ret_int (by have := HE2.out; omega), bel_trans hbl hb1⟩
    · obtain rfl : k = n := by omega
      go_wp2
      go_ret
      exact ⟨ret_int (by omega), hbl⟩

set_option maxHeartbeats 4000000 in
set_option maxRecDepth 100000 in
theorem c_SameBlocks_yes {S1 S2 : ByteArray} {L1 L2 : List UInt8} {x y : List Bl} {d1 d2 : Nat} {w : World} {a0 a1 a2 : Addr} (hS1 : S1.size ≤ 1000000000000) (hL1 : L1 = S1.data.toList) (hst1 : Stop L1 x d1) (hS2 : S2.size ≤ 1000000000000) (hL2 : L2 = S2.data.toList) (hst2 : Stop L2 y d2) (hG : Glob w a0 a1 a2) (h1 : d1 = 0) (h2 : d2 = 0) (n k : Nat) (hn : Agr (sameS x y) (min x.length y.length) n) (hk : Agr (sameE x y) (min x.length y.length - n) k) : Calls Tryd.prog 41 #[.string S1, .string S2] w fun e w' => e = .returned (.int .i64 ((n + k : Nat) : Int)) ∧ Below w.heap.size w w' := by
  have hx40 := hst1.brd.len_le
  have hy40 := hst2.brd.len_le
  have HA := hid (c_readBoth_yes hS1 hL1 hst1 hS2 hL2 hst2 hG h1 h2)
  clear hst1 hst2 hG h1 h2
  obtain ⟨M, hM⟩ : ∃ M, M = min x.length y.length := ⟨_, rfl⟩
  rw [← hM] at hn hk
  have hM1 : M ≤ x.length := by omega
  have hM2 : M ≤ y.length := by omega
  have hnM := hn.1
  have hkM := hk.1
  have H1 := hid (fun (v : World) (pa pb : Nat) (A1 A2 : Option Addr) (q1 q2 La Lb : Nat) (pA : v.cell? ⟨pa, 0, none⟩ = some (.slice A1 x.length q1)) (pB : v.cell? ⟨pb, 0, none⟩ = some (.slice A2 y.length q2)) (hx : BlsAt v La A1 q1 x) (hy : BlsAt v Lb A2 q2 y) (hLa : La ≤ v.heap.size) (hLb : Lb ≤ v.heap.size) => c_agreeSB1 M n pa pb A1 A2 q1 q2 La Lb x y v pA pB hx hy hx40 hy40 hM1 hM2 hLa hLb hn)
  have H2 := hid (fun (v : World) (pa pb : Nat) (A1 A2 : Option Addr) (q1 q2 La Lb : Nat) (pA : v.cell? ⟨pa, 0, none⟩ = some (.slice A1 x.length q1)) (pB : v.cell? ⟨pb, 0, none⟩ = some (.slice A2 y.length q2)) (hx : BlsAt v La A1 q1 x) (hy : BlsAt v Lb A2 q2 y) (hLa : La ≤ v.heap.size) (hLb : Lb ≤ v.heap.size) => c_agreeSB2 (M - n) k pa pb A1 A2 q1 q2 La Lb x y v pA pB hx hy hx40 hy40 (by omega) (by omega) hLa hLb hk)
  have hmin : min (x.length : Int) (y.length : Int) = (M : Int) := by omega
  have hmf : ∀ (fn : Fn) (first cap : Array Value) (w : World), (Instr.makeFunc fn first cap).run Tryd.prog w = .ok (.func fn first cap) w := fun _ _ _ _ => rfl
  clear hn hk hM hM1 hM2
  go_enter Tryd.func41, Tryd.ntmps41
  go_wp2_with fail
  refine (HA.out).mono ?_
  rintro e w1 ⟨A1, q1, B1, r1, A2, q2, B2, r2, rfl, o1, o2, hb1⟩
  have hx := own_blsq o1
  have hy := own_blsq o2
  have z1 := hb1.size
  clear o1 o2
  have hR1 := Blk.new w1 60 #[.slice none 0 0, .slice none 0 0, .int .i64 0, .int .i64 0]
  obtain ⟨s0, s1, s2, s3⟩ := hR1.cells4y
  have g0 := hR1.frozen 0
  have g1 := hR1.frozen 1
  have g2 := hR1.frozen 2
  have g3 := hR1.frozen 3
  clear hR1
  go_wp2_with fail
  clear s0 s1 s2 s3 g0 g1 g2 g3
  obtain ⟨V0, hV0⟩ : ∃ V0, V0 = w1.alloc (.cells #[.slice A1 x.length q1, .slice B1 (pls x).length r1, .int .i64 ((txt x).length : Nat), .int .i64 (zs x : Nat)] 60) := ⟨_, rfl⟩
  obtain ⟨V1, hV1⟩ : ∃ V1, V1 = V0.alloc (.cells #[.slice A2 y.length q2, .slice B2 (pls y).length r2, .int .i64 ((txt y).length : Nat), .int .i64 (zs y : Nat)] 60) := ⟨_, rfl⟩
  have hbV0 : Below w1.heap.size w1 V0 := by rw [hV0]; exact bel_alloc (Below.refl _ w1) _
  have zV0 : V0.heap.size = w1.heap.size + 1 := by rw [hV0, World.size_alloc]
  have hbV1 : Below V0.heap.size V0 V1 := by rw [hV1]; exact bel_alloc (Below.refl _ V0) _
  have zV1 : V1.heap.size = w1.heap.size + 1 + 1 := by rw [hV1, World.size_alloc, zV0]
  have X0 : Blk V1 w1.heap.size 60 #[.slice A1 x.length q1, .slice B1 (pls x).length r1, .int .i64 ((txt x).length : Nat), .int .i64 (zs x : Nat)] := by rw [hV1, hV0]; exact (Blk.new w1 _ _).alloc _
  have X1 : Blk V1 (w1.heap.size + 1) 60 #[.slice A2 y.length q2, .slice B2 (pls y).length r2, .int .i64 ((txt y).length : Nat), .int .i64 (zs y : Nat)] := by
    rw [hV1, ← zV0]; exact Blk.new V0 _ _
  rw [← hV0, ← hV1]
  have hbW := hid (hb1.trans ((hbV0.trans (hbV1.mono (by omega))).mono z1))
  have HX := hid ((hx.below (hbV0.trans (hbV1.mono (by omega))) (Nat.le_refl _)).up (L' := V1.heap.size) (by omega))
  have HY := hid ((hy.below (hbV0.trans (hbV1.mono (by omega))) (Nat.le_refl _)).up (L' := V1.heap.size) (by omega))
  clear hV0 hV1 hbV0 hbV1 hx hy hb1 zV0
  obtain ⟨N, hN⟩ : ∃ N, N = V1.heap.size := ⟨_, rfl⟩
  have hzN : w.heap.size ≤ V1.heap.size := by omega
  have hN2 : w1.heap.size + 1 + 1 ≤ V1.heap.size := by omega
  clear zV1
  obtain ⟨s0, s1, s2, s3⟩ := X0.cells4y
  obtain ⟨t0, t1, t2, t3⟩ := X1.cells4y
  have hl1 : w1.heap.size < V1.heap.size := by omega
  have hl2 : w1.heap.size + 1 < V1.heap.size := by omega
  have hl3 : ¬ (w1.heap.size = V1.heap.size) := by omega
  have hl4 : ¬ (w1.heap.size + 1 = V1.heap.size) := by omega
  have hl5 : ¬ (w1.heap.size = V1.heap.size + 1) := by omega
  have hl6 : ¬ (w1.heap.size + 1 = V1.heap.size + 1) := by omega
  have T0 := X0.alloc (.cells #[.slice none 0 0] 37)
  have T1 := X1.alloc (.cells #[.slice none 0 0] 37)
  have T2 := T0.alloc (.cells #[.slice none 0 0] 37)
  have T3 := T1.alloc (.cells #[.slice none 0 0] 37)
  have c0 := T0.cell 0
  have c1 := T1.cell 0
  have c2 := T2.cell 0
  have c3 := T3.cell 0
  clear X0 X1 T0 T1 T2 T3
  have hwm : IntKind.i64.wrap ((M : Int) - (n : Int)) = ((M - n : Nat) : Int) := by rw [IntWalk.i64_in _ (by omega)]; omega
  go_region
  · clear s0 s1 s2 s3 t0 t1 t2 t3 c0 c1 c2 c3 hl1 hl2 hl3 hl4 hl5 hl6
    obtain ⟨V2, hV2⟩ : ∃ V2, V2 = ((V1.alloc (.cells #[.slice A1 x.length q1] 37)).alloc (.cells #[.slice A2 y.length q2] 37)).drew := ⟨_, rfl⟩
    have e1 : V2.cell? ⟨V1.heap.size, 0, none⟩ = some (.slice A1 x.length q1) := by rw [hV2]; exact ((Blk.new V1 37 #[.slice A1 x.length q1]).alloc _).drew.cell 0
    have e2 : V2.cell? ⟨V1.heap.size + 1, 0, none⟩ = some (.slice A2 y.length q2) := by
      have := (Blk.new (V1.alloc (.cells #[.slice A1 x.length q1] 37)) 37 #[.slice A2 y.length q2]).drew.cell 0
      rw [World.size_alloc] at this
      rw [hV2]; exact this
    have hb2 : Below V1.heap.size V1 V2 := by rw [hV2]; exact bel_drew (bel_alloc (bel_alloc (Below.refl _ V1) _) _)
    have z2 := hb2.size
    have hX2 := (HX.out.below hb2 (Nat.le_refl _)).up (L' := V2.heap.size) z2
    have hY2 := (HY.out.below hb2 (Nat.le_refl _)).up (L' := V2.heap.size) z2
    have hbV := hbW.out.trans (hb2.mono hzN)
    rw [← hV2]
    clear hV2 hb2 HX HY hbW
    have HP1 := hid e1
    have HP2 := hid e2
    have HX := hid hX2
    have HY := hid hY2
    clear hX2 hY2
    go_wp2_with fail
    refine (H1.out V2 (V1.heap.size) (V1.heap.size + 1) A1 A2 q1 q2 _ _ HP1.out HP2.out HX.out HY.out (Nat.le_refl _) (Nat.le_refl _)).mono ?_
    rintro e w3 ⟨rfl, hb3⟩
    clear e1 e2
    have hbV3 := hbV.trans (hb3.mono hbV.size)
    go_wp2_with fail
    refine (H2.out w3 (V1.heap.size) (V1.heap.size + 1) A1 A2 q1 q2 _ _ (cell_to HP1.out hb3) (cell_to HP2.out hb3) (HX.out.below hb3 (Nat.le_refl _)) (HY.out.below hb3 (Nat.le_refl _)) hb3.size hb3.size).mono ?_
    rintro e w4 ⟨rfl, hb4⟩
    go_wp2_with fail
    go_ret
    exact ⟨ret_int (by omega), hbV3.trans (hb4.mono hbV3.size)⟩
  · clear s0 s1 s2 s3 t0 t1 t2 t3 c0 c1 c2 c3 hl1 hl2 hl3 hl4 hl5 hl6
    obtain ⟨V2, hV2⟩ : ∃ V2, V2 = ((V1.alloc (.cells #[.slice A2 y.length q2] 37)).alloc (.cells #[.slice A1 x.length q1] 37)).drew := ⟨_, rfl⟩
    have e1 : V2.cell? ⟨V1.heap.size, 0, none⟩ = some (.slice A2 y.length q2) := by rw [hV2]; exact ((Blk.new V1 37 #[.slice A2 y.length q2]).alloc _).drew.cell 0
    have e2 : V2.cell? ⟨V1.heap.size + 1, 0, none⟩ = some (.slice A1 x.length q1) := by
      have := (Blk.new (V1.alloc (.cells #[.slice A2 y.length q2] 37)) 37 #[.slice A1 x.length q1]).drew.cell 0
      rw [World.size_alloc] at this
      rw [hV2]; exact this
    have hb2 : Below V1.heap.size V1 V2 := by rw [hV2]; exact bel_drew (bel_alloc (bel_alloc (Below.refl _ V1) _) _)
    have z2 := hb2.size
    have hX2 := (HX.out.below hb2 (Nat.le_refl _)).up (L' := V2.heap.size) z2
    have hY2 := (HY.out.below hb2 (Nat.le_refl _)).up (L' := V2.heap.size) z2
    have hbV := hbW.out.trans (hb2.mono hzN)
    rw [← hV2]
    clear hV2 hb2 HX HY hbW
    have HP1 := hid e2
    have HP2 := hid e1
    have HX := hid hX2
    have HY := hid hY2
    clear hX2 hY2
    go_wp2_with fail
    refine (H1.out V2 (V1.heap.size + 1) (V1.heap.size) A1 A2 q1 q2 _ _ HP1.out HP2.out HX.out HY.out (Nat.le_refl _) (Nat.le_refl _)).mono ?_
    rintro e w3 ⟨rfl, hb3⟩
    clear e1 e2
    have hbV3 := hbV.trans (hb3.mono hbV.size)
    go_wp2_with fail
    refine (H2.out w3 (V1.heap.size + 1) (V1.heap.size) A1 A2 q1 q2 _ _ (cell_to HP1.out hb3) (cell_to HP2.out hb3) (HX.out.below hb3 (Nat.le_refl _)) (HY.out.below hb3 (Nat.le_refl _)) hb3.size hb3.size).mono ?_
    rintro e w4 ⟨rfl, hb4⟩
    go_wp2_with fail
    go_ret
    exact ⟨ret_int (by omega), hbV3.trans (hb4.mono hbV3.size)⟩
set_option maxHeartbeats 4000000 in
set_option maxRecDepth 100000 in
theorem c_SameBlocks_no {S1 S2 : ByteArray} {L1 L2 : List UInt8} {x y : List Bl} {d1 d2 : Nat} {w : World} {a0 a1 a2 : Addr} (hS1 : S1.size ≤ 1000000000000) (hL1 : L1 = S1.data.toList) (hst1 : Stop L1 x d1) (hS2 : S2.size ≤ 1000000000000) (hL2 : L2 = S2.data.toList) (hst2 : Stop L2 y d2) (hG : Glob w a0 a1 a2) (h : ¬ (d1 = 0 ∧ d2 = 0)) : Calls Tryd.prog 41 #[.string S1, .string S2] w fun e w' => e = .returned (.int .i64 (-1)) ∧ Below w.heap.size w w' := by
  have HA := hid (c_readBoth_no hS1 hL1 hst1 hS2 hL2 hst2 hG h)
  clear hst1 hst2 hG h
  go_enter Tryd.func41, Tryd.ntmps41
  go_wp2_with fail
  refine (HA.out).mono ?_
  rintro e w1 ⟨A1, n1, q1, B1, m1, r1, t1, z1, A2, n2, q2, B2, m2, r2, t2, z2, xe, rfl, hb1⟩
  have hR1 := Blk.new w1 60 #[.slice none 0 0, .slice none 0 0, .int .i64 0, .int .i64 0]
  obtain ⟨s0, s1, s2, s3⟩ := hR1.cells4y
  have g0 := hR1.frozen 0
  have g1 := hR1.frozen 1
  have g2 := hR1.frozen 2
  have g3 := hR1.frozen 3
  clear hR1
  go_wp2_with fail
  go_ret
  exact ⟨rfl, by (repeat (first | with_reducible (first | assumption | exact Below.refl _ _ | refine bel_alloc ?_ _ | refine bel_drew ?_ | refine bel_drewN ?_ _ | refine bel_set ?_ (by first | omega | (simp; done) | (simp; omega)) _ | refine bel_trans ?_ (by assumption)) | assumption | refine bel_trans ?_ (by assumption)))⟩

theorem walk_FnExactSameBlocks (S1 S2 : ByteArray) (w : World) (h_1 : S1.size ≤ maxLen) (h_2 : S2.size ≤ maxLen) {a0 a1 a2 : Addr} (hG : Glob w a0 a1 a2) :
    Calls Tryd.prog 11 #[.string S1, .string S2] w fun e w' => e = .returned (.bool true) ∧ Below w.heap.size w w' := by
  by_cases big1 : 1048576 < S1.size
  · unfold maxLen at *
    go_enter Tryd.func11, Tryd.ntmps11
    go_wp2_with fail
    go_ret
    exact ⟨rfl, by (repeat (first | with_reducible (first | assumption | exact Below.refl _ _ | refine bel_alloc ?_ _ | refine bel_drew ?_ | refine bel_drewN ?_ _ | refine bel_set ?_ (by first | omega | (simp; done) | (simp; omega)) _ | refine bel_trans ?_ (by assumption)) | assumption | refine bel_trans ?_ (by assumption)))⟩
  by_cases big2 : 1048576 < S2.size
  · unfold maxLen at *
    go_enter Tryd.func11, Tryd.ntmps11
    go_wp2_with fail
    go_ret
    exact ⟨rfl, by (repeat (first | with_reducible (first | assumption | exact Below.refl _ _ | refine bel_alloc ?_ _ | refine bel_drew ?_ | refine bel_drewN ?_ _ | refine bel_set ?_ (by first | omega | (simp; done) | (simp; omega)) _ | refine bel_trans ?_ (by assumption)) | assumption | refine bel_trans ?_ (by assumption)))⟩
  obtain ⟨x, d1, hst1⟩ := stop_ex S1.data.toList
  obtain ⟨y, d2, hst2⟩ := stop_ex S2.data.toList
  obtain ⟨n, hn⟩ := agr_ex (sameS x y) (min x.length y.length)
  obtain ⟨k, hk⟩ := agr_ex (sameE x y) (min x.length y.length - n)
  obtain ⟨V, hV⟩ : ∃ V : Int, V = if d1 = 0 ∧ d2 = 0 then ((n + k : Nat) : Int) else -1 := ⟨_, rfl⟩
  have HS := hid (fun v => c_sSameBlocks S1 S2 _ _ x y d1 d2 n k v (by omega) rfl hst1 (by omega) rfl hst2 hn hk)
  rw [← hV] at HS
  have HI := hid (fun v (hG : Glob v a0 a1 a2) => show Calls Tryd.prog 41 #[.string S1, .string S2] v fun e w' => e = .returned (.int .i64 V) ∧ Below v.heap.size v w' by
    by_cases h : d1 = 0 ∧ d2 = 0
    · rw [hV, if_pos h]
      exact c_SameBlocks_yes (by omega) rfl hst1 (by omega) rfl hst2 hG h.1 h.2 n k hn hk
    · rw [hV, if_neg h]
      exact c_SameBlocks_no (by omega) rfl hst1 (by omega) rfl hst2 hG h)
  have HG := hid hG
  clear hV hst1 hst2 hG hn hk
  go_enter Tryd.func11, Tryd.ntmps11
  go_wp2_with fail
  refine (HS.out _).mono ?_
  rintro e w1 ⟨rfl, hb1⟩
  go_wp2_with fail
  refine (HI.out _ (HG.out.on hb1)).mono ?_
  rintro e w2 ⟨rfl, hb2⟩
  go_wp2_with fail
  go_ret
  exact ⟨by simp_all, by (repeat (first | with_reducible (first | assumption | exact Below.refl _ _ | refine bel_alloc ?_ _ | refine bel_drew ?_ | refine bel_drewN ?_ _ | refine bel_set ?_ (by first | omega | (simp; done) | (simp; omega)) _ | refine bel_trans ?_ (by assumption)) | assumption | refine bel_trans ?_ (by assumption)))⟩
end Go.Proofs.YtkglpbaapekgnaaDoor
