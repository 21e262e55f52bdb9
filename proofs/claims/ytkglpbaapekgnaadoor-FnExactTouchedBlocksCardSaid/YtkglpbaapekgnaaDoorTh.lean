/- TouchedBlocks in both programs, and its law's walk. The layout of the header and the errors are as the program's text lays them. -/
import Derived.Test.YtkglpbaapekgnaaDoorTg
import Derived.Test.YtkglpbaapekgnaaDoorTd
namespace Go.Proofs.YtkglpbaapekgnaaDoor
open Go.ChangeShapes Go.WideShapes Go.ChangeAt Go.RowKit Go.Joins
set_option linter.unusedVariables false
set_option linter.unusedSimpArgs false

set_option maxHeartbeats 4000000 in
set_option maxRecDepth 100000 in
theorem c_TouchedBlocks (S : ByteArray) (L : List UInt8) (bs R : List Bl) (c : Nat) (x y : Int) (w : World) {a0 a1 a2 : Addr} (hS : S.size ≤ 1000000000000) (hL : L = S.data.toList) (hst : Stop L bs c) (hR : R = if c = 0 then bs else []) (hx : -9223372036854775808 ≤ x ∧ x ≤ 9223372036854775807) (hy : -9223372036854775808 ≤ y ∧ y ≤ 9223372036854775807) (hG : Glob w a0 a1 a2) : Calls Tryd.prog 32 #[.string S, .int .i64 x, .int .i64 y] w fun e w' => ∃ A cap, e = .returned (.slice A (tcs R x y R.length).length cap) ∧ w'.ownsRow w.heap.size 3 1 (.slice A (tcs R x y R.length).length cap) (tcs R x y R.length).length ((tcs R x y R.length).map iv) ∧ Below w.heap.size w w' := by
  by_cases hc : c = 0
  · subst hc
    rw [if_pos rfl] at hR
    subst hR
    have HA := hid (c_rc_yes hS hL hst hG)
    have HK := hid (fun (A1 A2 : Option Addr) (q1 q2 L cb : Nat) (T : Int) (w : World) (z : Nat) (hL : L ≤ w.heap.size) hC h1 h2 => c_touched A1 A2 q1 q2 L cb R T w z x y hL hC h1 h2 hst.brd.len_le hst.brd.zOk hx hy)
    clear hst hG
    go_enter Tryd.func32, Tryd.ntmps32
    go_wp2_with fail
    refine (HA.out).mono ?_
    rintro e w1 ⟨A1, q1, A2, q2, rfl, h1, h2, hb1⟩
    rw [pls_len] at h2
    have h3 := own_on h1 (bel_alloc (Below.refl _ w1) (.cells #[.slice A1 R.length q1, .slice A2 R.length q2, .int .i64 ((txt R).length : Nat), .int .i64 (zs R : Nat)] 60))
    have h4 := own_on h2 (bel_alloc (Below.refl _ w1) (.cells #[.slice A1 R.length q1, .slice A2 R.length q2, .int .i64 ((txt R).length : Nat), .int .i64 (zs R : Nat)] 60))
    have hC := hid (Blk.new w1 60 #[.slice A1 R.length q1, .slice A2 R.length q2, .int .i64 ((txt R).length : Nat), .int .i64 (zs R : Nat)])
    have H3 := hid (And.intro (own_blsq h3) (own_psq h4))
    rw [pls_len]
    clear h1 h2 h3 h4
    have hRB := Blk.new w1 60 #[.slice none 0 0, .slice none 0 0, .int .i64 0, .int .i64 0]
    obtain ⟨r0, r1, r2, r3⟩ := hRB.cells4y
    have f0 := hRB.frozen 0
    have f1 := hRB.frozen 1
    have f2 := hRB.frozen 2
    have f3 := hRB.frozen 3
    clear hRB
    go_wp2_with fail
    refine (HK.out A1 A2 q1 q2 _ w1.heap.size _ _ _ (Nat.le_refl _) hC.out H3.out.1 H3.out.2).mono ?_
    rintro e w2 ⟨A, cap, rfl, hown, hb2⟩
    have hb1' := bel_alloc hb1 (.cells #[.slice A1 R.length q1, .slice A2 R.length q2, .int .i64 ((txt R).length : Nat), .int .i64 (zs R : Nat)] 60)
    have hb3 := hb1'.trans (hb2.mono hb1'.size)
    have hown3 := own_mono (B' := w.heap.size) hown hb1'.size
    clear hown hb2 hb1'
    go_wp2_with fail
    go_ret
    exact ⟨_, _, rfl, hown3, hb3⟩
  · rw [if_neg hc] at hR
    subst hR
    have HA := hid (c_rc_no hS hL hst hc hG)
    clear hst hG hx hy
    go_enter Tryd.func32, Tryd.ntmps32
    go_wp2_with fail
    refine (HA.out).mono ?_
    rintro e w1 ⟨x, rfl, hb1⟩
    have hRB := Blk.new w1 60 #[.slice none 0 0, .slice none 0 0, .int .i64 0, .int .i64 0]
    obtain ⟨r0, r1, r2, r3⟩ := hRB.cells4y
    have f0 := hRB.frozen 0
    have f1 := hRB.frozen 1
    have f2 := hRB.frozen 2
    have f3 := hRB.frozen 3
    clear hRB
    go_wp2_with fail
    go_ret
    exact ⟨none, 0, rfl, own_ints_nil _ _ _, by (repeat (first | with_reducible (first | assumption | exact Below.refl _ _ | refine bel_alloc ?_ _ | refine bel_drew ?_ | refine bel_drewN ?_ _ | refine bel_set ?_ (by first | omega | (simp; done) | (simp; omega)) _ | refine bel_trans ?_ (by assumption)) | assumption | refine bel_trans ?_ (by assumption)))⟩

set_option maxHeartbeats 4000000 in
set_option maxRecDepth 100000 in
theorem c_sTouchedBlocks (S : ByteArray) (L : List UInt8) (bs R : List Bl) (c : Nat) (x y : Int) (w : World) (hS : S.size ≤ 1000000000000) (hL : L = S.data.toList) (hst : Stop L bs c) (hR : R = if c = 0 then bs else []) (hx : -9223372036854775808 ≤ x ∧ x ≤ 9223372036854775807) (hy : -9223372036854775808 ≤ y ∧ y ≤ 9223372036854775807) : Calls Tryd.prog 31 #[.string S, .int .i64 x, .int .i64 y] w fun e w' => ∃ A cap, e = .returned (.slice A (tcs R x y R.length).length cap) ∧ w'.ownsRow w.heap.size 3 1 (.slice A (tcs R x y R.length).length cap) (tcs R x y R.length).length ((tcs R x y R.length).map iv) ∧ Below w.heap.size w w' := by
  obtain ⟨q, hq⟩ : ∃ q, q = decide (c = 0) := ⟨_, rfl⟩
  have HB := hid (fun v => c_l5Blocks S L bs c v hS hL hst)
  rw [← hR, ← hq] at HB
  have hR40 : R.length ≤ 40 := by
    rw [hR]; split
    · exact hst.brd.len_le
    · simp
  have hok : ∀ b ∈ R, b.ok := by
    rw [hR]; split
    · exact hst.brd.okAll
    · simp
  have hzk : ∀ b ∈ R, 1 ≤ b.z ∧ b.z ≤ 64 := fun b hb => (hok b hb).2.1
  have HK := hid (fun (A : Option Addr) (cap : Nat) (v : World) (h : BlsAt v v.heap.size A cap R) => c_l5Places A cap R v.heap.size v h (Nat.le_refl _) hR40 hok)
  have HQ := hid (show q = false → R = [] by rw [hq, hR]; intro h; simp at h; rw [if_neg h])
  have HE := hid (own_nl0 w w.heap.size (Nat.le_refl _))
  obtain ⟨Z, hZ⟩ : ∃ Z, Z = tcs R x y R.length := ⟨_, rfl⟩
  rw [← hZ]
  have HZ := hid hZ
  clear hst hR hq hok hZ
  go_enter Tryd.func31, Tryd.ntmps31
  go_wp2_with fail
  refine (HB.out _).mono ?_
  rintro e w1 ⟨v, rfl, hown, hb1⟩
  obtain ⟨A, cap, rfl, hat, -⟩ := own_bls hown
  have HT := hid hat
  have hz1 := hb1.size
  have hB1 := (bel_alloc (Below.refl _ w) (.cells #[] 3)).trans (hb1.mono (by rw [World.size_alloc]; omega))
  have oE1 := own_on HE.out hb1
  rw [World.size_alloc] at hown
  have oB1 := hown
  clear hown hat hb1 HE HB
  go_wp2_with fail
  refine (HK.out _ _ _ HT.out).mono ?_
  rintro e w2 ⟨v, rfl, hown, hb2⟩
  obtain ⟨A2, cap2, rfl, -, -, -⟩ := own_ps hown
  rw [pls_len] at hown ⊢
  have hB2 := hB1.trans (hb2.mono hB1.size)
  have oE2 := own_on oE1 hb2
  have oB2 := own_on oB1 hb2
  have oP2 := own_mono (B' := w.heap.size) hown hB1.size
  have oB2 := own_mono (B' := w.heap.size) oB2 (by omega)
  obtain ⟨N, hN⟩ : ∃ N, N = R.length := ⟨_, rfl⟩
  have HN := hid hN
  rw [← hN] at hR40 oB2 oP2 ⊢
  have H2 := hid (And.intro oE2 (And.intro oB2 (And.intro oP2 hB2)))
  clear hown hb2 oE1 oE2 oB1 oB2 oP2 hB1 hB2 HK HT hN hz1
  cases q with
  | false =>
    have hr : R = [] := HQ.out rfl
    have hN0 : N = 0 := by rw [HN.out, hr]; rfl
    subst hN0
    have h0 := H2.out.1
    have hBz := H2.out.2.2.2
    obtain rfl : Z = [] := by rw [HZ.out, hr]; rfl
    go_wp2_with fail
    go_loopw [7, 11] (fun v i wr => v = .slice (some ⟨w.heap.size, 0, none⟩) 0 0 ∧ i = .int .i64 0 ∧ wr = w2) (fun _ _ _ => 0)
    case atStart => exact ⟨rfl, rfl, rfl⟩
    case round =>
      obtain ⟨rfl, rfl, rfl⟩ := hrel
      go_wp2_with fail
      go_ret
      exact ⟨_, _, rfl, h0, hBz⟩
  | true =>
    go_wp2_with fail
    go_loopw [7, 11] (fun v i wr => ∃ (k u : Nat), k ≤ N ∧ i = .int .i64 k ∧ Hid (u = zs (R.take k)) ∧ u ≤ 64 * k ∧ Hid (wr.ownsRow w.heap.size 3 1 v (tcs R x y k).length ((tcs R x y k).map iv) ∧ wr.ownsRow w.heap.size 27 4 (.slice A N cap) N (bvs R) ∧ wr.ownsRow w.heap.size 58 2 (.slice A2 N cap2) N (prs (pls R)) ∧ Below w.heap.size w wr)) (fun _ i _ => N - (intOf i).toNat)
    case atStart => exact ⟨0, 0, Nat.zero_le _, rfl, hid rfl, by omega, hid (by simpa [tcs] using H2.out)⟩
    case round =>
      obtain ⟨k, u, hk, rfl, HU, hu, HH⟩ := hrel
      rename_i wr _
      by_cases hlt : k < N
      · have hlt2 : k < R.length := by have := HN.out; omega
        have hz := hzk _ (List.getElem_mem hlt2)
        obtain ⟨v, hv⟩ : ∃ v, v = zs (R.take (k + 1)) := ⟨_, rfl⟩
        have hv2 : v = u + R[k].z.toNat := by rw [hv, zs_take_succ R k hlt2, ← HU.out]
        obtain ⟨d, off2, hA2, hd, -, hd1⟩ := pq_at (own_psq HH.out.2.2.1) k (by rw [pls_len]; exact hlt2)
        obtain ⟨b, off, hA1, hb, -, -, hc2, -⟩ := bl_at (own_blsq HH.out.2.1) k hlt2
        rw [pls_get R k hlt2] at hd1
        simp only at hd1
        rw [← HU.out] at hd1
        obtain ⟨m, hm⟩ : ∃ m, m = R[k].z := ⟨_, rfl⟩
        rw [← hm] at hv2 hz hc2
        obtain ⟨n, rfl⟩ := Int.eq_ofNat_of_zero_le (show 0 ≤ m by omega)
        have hvn : v = u + n := by omega
        have HV := hid hv
        subst hA1 hA2
        clear hv hv2 hm
        have hw : IntKind.i64.wrap ((u : Int) + (n : Int)) = (v : Int) := by rw [IntWalk.i64_in _ (by omega)]; omega
        have hs2 : wr.cell? ⟨d, off2 + k * 2 + 1, none⟩ = some (.int .i64 (u : Int)) ∧ wr.cell? ⟨b, off + k * 4 + 2, none⟩ = some (.int .i64 (n : Int)) ∧ Below wr.heap.size wr wr := ⟨hd1, hc2, Below.refl _ _⟩
        have HOK := hid (show tcOk R x y k = (decide ((u : Int) < y) && (decide (x < (v : Int)) && decide (x < y))) by rw [tcOk, ← HU.out, ← HV.out])
        have hkN : (k : Int) < (N : Int) := by omega
        clear hd1 hc2 hd hb
        by_cases g1 : (u : Int) < y
        · have hg1 : decide ((u : Int) < y) = true := decide_eq_true g1
          by_cases g2 : x < (v : Int)
          · have hg2b : decide (x < (u : Int) + (n : Int)) = true := decide_eq_true (by omega)
            have hg2c : decide (x < IntKind.i64.wrap ((u : Int) + (n : Int))) = true := by rw [hw]; exact decide_eq_true g2
            by_cases g3 : x < y
            · have hg3 : decide (x < y) = true := decide_eq_true g3
              rw [hg1, decide_eq_true g2, hg3] at HOK
              clear g1 g2 g3
              go_wp2_with fail
              refine qB (S := (fun v => v.cell? ⟨d, off2 + k * 2 + 1, none⟩ = some (.int .i64 (u : Int)) ∧ v.cell? ⟨b, off + k * 4 + 2, none⟩ = some (.int .i64 (n : Int)) ∧ Below wr.heap.size wr v)) (by kernel_rfl) (by kernel_rfl) (s2_drew hs2) ?_
              refine qK ?_
              refine qK ?_
              refine qK ?_
              refine qK ?_
              refine qK ?_
              refine qK ?_
              refine qK ?_
              refine qK ?_
              refine qK ?_
              refine qK ?_
              refine qK ?_
              refine qK ?_
              refine qK ?_
              refine qK ?_
              refine qK ?_
              refine qK ?_
              refine qK ?_
              refine qK ?_
              refine qK ?_
              refine qK ?_
              refine qK ?_
              refine qK ?_
              refine qK ?_
              refine qK ?_
              refine qK ?_
              refine qK ?_
              refine qK ?_
              refine qN ?_
              intro wq hSq
              (try dsimp only at hSq)
              have HH3 := hid (And.intro (own_on HH.out.1 hSq.2.2) (And.intro (own_on HH.out.2.1 hSq.2.2) (And.intro (own_on HH.out.2.2.1 hSq.2.2) (HH.out.2.2.2.trans (hSq.2.2.mono HH.out.2.2.2.size)))))
              clear hSq hs2 HH
              have HS := hid (tcs_yes HOK.out)
              have hlen := tcs_len R x y k
              have hszq := HH3.out.2.2.2.size
              go_wp2_with (at_builtin; refine app_int rfl _ _ 42 rfl w.heap.size 3 Tryd.underlying42 Tryd.info_int _ _ (tcs R x y k) rfl HH3.out.1 (k : Int) _ rfl 1 rfl (by omega) hszq ?_; intro v4 w4 hown4 hb4 hg4)
              rw [← HS.out] at hown4
              have hl4 : (tcs R x y k).length + 1 = (tcs R x y (k + 1)).length := by rw [HS.out, List.length_append]; rfl
              rw [hl4] at hown4
              have HH4 := hid (And.intro hown4 (And.intro (own_grownR HH3.out.2.1 hg4 (own_two HH3.out.2.1 HH3.out.1 (by decide))) (And.intro (own_grownR HH3.out.2.2.1 hg4 (own_two HH3.out.2.2.1 HH3.out.1 (by decide))) (HH3.out.2.2.2.trans hb4))))
              clear hown4 hb4 hg4
              go_roundw
              case rel => exact ⟨k + 1, v, by omega, by go_num, HV, by omega, HH4⟩
              case measure => simp [intOf]; omega
            · have hg3 : decide (x < y) = false := decide_eq_false g3
              rw [hg1, decide_eq_true g2, hg3] at HOK
              clear g1 g2 g3
              go_wp2_with fail
              refine qB (S := (fun v => v.cell? ⟨d, off2 + k * 2 + 1, none⟩ = some (.int .i64 (u : Int)) ∧ v.cell? ⟨b, off + k * 4 + 2, none⟩ = some (.int .i64 (n : Int)) ∧ Below wr.heap.size wr v)) (by kernel_rfl) (by kernel_rfl) (s2_drew hs2) ?_
              refine qK ?_
              refine qK ?_
              refine qK ?_
              refine qK ?_
              refine qK ?_
              refine qK ?_
              refine qK ?_
              refine qK ?_
              refine qK ?_
              refine qK ?_
              refine qK ?_
              refine qK ?_
              refine qK ?_
              refine qK ?_
              refine qK ?_
              refine qK ?_
              refine qK ?_
              refine qK ?_
              refine qK ?_
              refine qK ?_
              refine qK ?_
              refine qK ?_
              refine qK ?_
              refine qK ?_
              refine qK ?_
              refine qK ?_
              refine qK ?_
              refine qN ?_
              intro wq hSq
              (try dsimp only at hSq)
              have HH3 := hid (And.intro (own_on HH.out.1 hSq.2.2) (And.intro (own_on HH.out.2.1 hSq.2.2) (And.intro (own_on HH.out.2.2.1 hSq.2.2) (HH.out.2.2.2.trans (hSq.2.2.mono HH.out.2.2.2.size)))))
              clear hSq hs2 HH
              have HS := hid (tcs_no HOK.out)
              have HH4 := HH3
              rw [← HS.out] at HH4
              go_wp2_with fail
              go_roundw
              case rel => exact ⟨k + 1, v, by omega, by go_num, HV, by omega, HH4⟩
              case measure => simp [intOf]; omega
          · have hg2b : decide (x < (u : Int) + (n : Int)) = false := decide_eq_false (by omega)
            have hg2c : decide (x < IntKind.i64.wrap ((u : Int) + (n : Int))) = false := by rw [hw]; exact decide_eq_false g2
            rw [hg1, decide_eq_false g2] at HOK
            clear g1 g2
            go_wp2_with fail
            refine qB (S := (fun v => v.cell? ⟨d, off2 + k * 2 + 1, none⟩ = some (.int .i64 (u : Int)) ∧ v.cell? ⟨b, off + k * 4 + 2, none⟩ = some (.int .i64 (n : Int)) ∧ Below wr.heap.size wr v)) (by kernel_rfl) (by kernel_rfl) (s2_drew hs2) ?_
            refine qK ?_
            refine qK ?_
            refine qK ?_
            refine qK ?_
            refine qK ?_
            refine qK ?_
            refine qK ?_
            refine qK ?_
            refine qK ?_
            refine qK ?_
            refine qK ?_
            refine qK ?_
            refine qK ?_
            refine qK ?_
            refine qK ?_
            refine qK ?_
            refine qK ?_
            refine qK ?_
            refine qK ?_
            refine qK ?_
            refine qK ?_
            refine qK ?_
            refine qK ?_
            refine qU ?_
            refine qU ?_
            refine qU ?_
            refine qK ?_
            refine qN ?_
            intro wq hSq
            (try dsimp only at hSq)
            have HH3 := hid (And.intro (own_on HH.out.1 hSq.2.2) (And.intro (own_on HH.out.2.1 hSq.2.2) (And.intro (own_on HH.out.2.2.1 hSq.2.2) (HH.out.2.2.2.trans (hSq.2.2.mono HH.out.2.2.2.size)))))
            clear hSq hs2 HH
            have HS := hid (tcs_no HOK.out)
            have HH4 := HH3
            rw [← HS.out] at HH4
            go_wp2_with fail
            go_roundw
            case rel => exact ⟨k + 1, v, by omega, by go_num, HV, by omega, HH4⟩
            case measure => simp [intOf]; omega
        · have hg1 : decide ((u : Int) < y) = false := decide_eq_false g1
          rw [hg1] at HOK
          clear g1
          go_wp2_with fail
          refine qB (S := (fun v => v.cell? ⟨d, off2 + k * 2 + 1, none⟩ = some (.int .i64 (u : Int)) ∧ v.cell? ⟨b, off + k * 4 + 2, none⟩ = some (.int .i64 (n : Int)) ∧ Below wr.heap.size wr v)) (by kernel_rfl) (by kernel_rfl) (s2_drew hs2) ?_
          refine qK ?_
          refine qK ?_
          refine qK ?_
          refine qK ?_
          refine qK ?_
          refine qK ?_
          refine qK ?_
          refine qK ?_
          refine qU ?_
          refine qU ?_
          refine qU ?_
          refine qU ?_
          refine qU ?_
          refine qU ?_
          refine qU ?_
          refine qU ?_
          refine qU ?_
          refine qU ?_
          refine qU ?_
          refine qU ?_
          refine qU ?_
          refine qK ?_
          refine qK ?_
          refine qU ?_
          refine qU ?_
          refine qU ?_
          refine qK ?_
          refine qN ?_
          intro wq hSq
          (try dsimp only at hSq)
          have HH3 := hid (And.intro (own_on HH.out.1 hSq.2.2) (And.intro (own_on HH.out.2.1 hSq.2.2) (And.intro (own_on HH.out.2.2.1 hSq.2.2) (HH.out.2.2.2.trans (hSq.2.2.mono HH.out.2.2.2.size)))))
          clear hSq hs2 HH
          have HS := hid (tcs_no HOK.out)
          have HH4 := HH3
          rw [← HS.out] at HH4
          go_wp2_with fail
          go_roundw
          case rel => exact ⟨k + 1, v, by omega, by go_num, HV, by omega, HH4⟩
          case measure => simp [intOf]; omega
      · have hkN : k = N := by omega
        subst hkN
        obtain ⟨A3, cap3, rfl, -, -, -⟩ := own_ints HH.out.1
        have h0 := HH.out.1
        have hBz := HH.out.2.2.2
        rw [show tcs R x y k = Z by rw [HZ.out, HN.out]] at h0 ⊢
        go_wp2_with fail
        go_ret
        exact ⟨_, _, rfl, h0, hBz⟩
set_option maxHeartbeats 4000000 in
set_option maxRecDepth 100000 in
theorem walk_FnExactTouchedBlocks (S : ByteArray) (x y : Int) (w : World) (h_S : S.size ≤ maxLen) (h_x : -9223372036854775808 ≤ x ∧ x ≤ 9223372036854775807) (h_y : -9223372036854775808 ≤ y ∧ y ≤ 9223372036854775807) {a0 a1 a2 : Addr} (hG : Glob w a0 a1 a2) :
    Calls Tryd.prog 8 #[.string S, .int .i64 x, .int .i64 y] w fun e w' => e = .returned (.bool true) ∧ Below w.heap.size w w' := by
  by_cases big_S : 1048576 < S.size
  · unfold maxLen at *
    go_enter Tryd.func8, Tryd.ntmps8
    go_wp2_with fail
    go_ret
    exact ⟨rfl, by (repeat (first | with_reducible (first | assumption | exact Below.refl _ _ | refine bel_alloc ?_ _ | refine bel_drew ?_ | refine bel_drewN ?_ _ | refine bel_set ?_ (by first | omega | (simp; done) | (simp; omega)) _ | refine bel_trans ?_ (by assumption)) | assumption | refine bel_trans ?_ (by assumption)))⟩
  obtain ⟨bs, c, hst⟩ := stop_ex S.data.toList
  obtain ⟨R0, hR⟩ : ∃ R0, R0 = if c = 0 then bs else [] := ⟨_, rfl⟩
  have hn0 : R0.length ≤ 40 := by
    have := hst.brd.len_le
    rw [hR]
    split <;> simp <;> omega
  have HS := hid (fun v => c_sTouchedBlocks S _ bs R0 c x y v (by omega) rfl hst hR h_x h_y)
  have HI := hid (fun v (hG : Glob v a0 a1 a2) => c_TouchedBlocks S _ bs R0 c x y v (by omega) rfl hst hR h_x h_y hG)
  clear hst hR h_x h_y
  have hlen := tcs_len R0 x y R0.length
  obtain ⟨R, hR2⟩ : ∃ R, R = tcs R0 x y R0.length := ⟨_, rfl⟩
  rw [← hR2] at HS HI hlen
  have hn : R.length ≤ 1048576 := by omega
  clear hR2 hlen hn0
  have HG := hid hG
  clear hG
  go_enter Tryd.func8, Tryd.ntmps8
  go_wp2_with fail
  refine (HS.out _).mono ?_
  rintro e w1 ⟨A0, c0, rfl, own0, hb1⟩
  have z1 := hb1.size
  go_wp2_with fail
  refine (HI.out _ (HG.out.on hb1)).mono ?_
  rintro e w2 ⟨A1, c1, rfl, own1, hb2⟩
  have z2 := hb2.size
  have hB2 := hb1.trans (hb2.mono z1)
  have sep := hid (fun g (e0 : (Value.slice A0 R.length c0).ownBlock = some g) (e1 : (Value.slice A1 R.length c1).ownBlock = some g) => (absurd (own0.lt g e0).2 (by have := (own1.lt g e1).1; omega) : False))
  have own02 := own_on own0 hb2
  clear own0 hb1 hb2
  go_wp2_with fail
  refine (c_eqIntS A1 A0 c1 c0 R _ _ _ (own_ints_at own1) (own_ints_at own02) (Nat.le_refl _) (Nat.le_refl _) hn).mono ?_
  rintro e w3 ⟨rfl, hb3⟩
  have z3 := hb3.size
  have hB3 := hB2.trans (hb3.mono (by omega))
  have own03 := own_on own02 hb3
  have own13 := own_on own1 hb3
  clear hB2 own02 own1 hb3
  go_wp2_with fail
  refine (c_markIntS_any R 1 _ c1 A1 _ own13 hn (by omega) (by omega)).mono ?_
  rintro e w4 ⟨rfl, own14, hg4⟩
  have hB4 := hB3.trans (below_of_grown hg4 hB3.size (fun g e => by have := (own13.lt g e).1; omega))
  have z4 := hg4.size
  have own04 := own_grownR own03 hg4 (fun g e0 e1 => sep.out g e0 e1)
  clear hB3 own03 own13 hg4
  go_wp2_with fail
  refine (c_heldIntS _ A1 c1 R.length 1 _ (own_ints_at own14) hn (by omega) (by omega)).mono ?_
  rintro e w5 ⟨rfl, rfl⟩
  go_wp2_with fail
  refine (HI.out _ (HG.out.on hB4)).mono ?_
  rintro e w6 ⟨A2, c2, rfl, own2, hb6⟩
  have z6 := hb6.size
  have hB6 := hB4.trans (hb6.mono (by omega))
  have own06 := own_on own04 hb6
  have own16 := own_on own14 hb6
  clear hB4 own04 own14 hb6
  go_wp2_with fail
  refine (c_eqIntS A2 A0 c2 c0 R _ _ _ (own_ints_at own2) (own_ints_at own06) (Nat.le_refl _) (Nat.le_refl _) hn).mono ?_
  rintro e w7 ⟨rfl, hb7⟩
  have hB7 := hB6.trans (hb7.mono (by omega))
  have own17 := own_on own16 hb7
  clear hB6 own06 own16 own2 hb7
  go_wp2_with fail
  refine (c_heldIntS _ A1 c1 R.length 1 _ (own_ints_at own17) hn (by omega) (by omega)).mono ?_
  rintro e w8 ⟨rfl, rfl⟩
  go_wp2_with fail
  go_ret
  exact ⟨rfl, hB7⟩
end Go.Proofs.YtkglpbaapekgnaaDoor
