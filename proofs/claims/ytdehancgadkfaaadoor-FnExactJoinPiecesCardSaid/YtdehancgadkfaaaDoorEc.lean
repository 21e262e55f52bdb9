/- The contracts of the model's l7Pieces and l7Has. No condition but that all is within an int. -/
import Derived.Test.YtdehancgadkfaaaDoorEb
namespace Go.Proofs.YtdehancgadkfaaaDoor
open Go.ChangeShapes Go.WideShapes Go.ChangeAt Go.RowKit Go.Joins
set_option linter.unusedVariables false
set_option linter.unusedSimpArgs false

theorem pcOk_not {ps : List Qp} {c c1 : Int} (hF : 0 ≤ c → c ≤ 40 → c1 = c - 1) (i : Nat) (h : i < ps.length) (hs : ¬ pcStep ps c1 i) : decide (pcOk ps c) = false := by
  by_cases hc : 0 ≤ c ∧ c ≤ 40
  · rw [hF hc.1 hc.2] at hs; exact pcOk_no i h hs
  · exact decide_eq_false (fun hp => hc hp.1)

set_option maxHeartbeats 8000000 in
set_option maxRecDepth 100000 in
theorem c_l7Pieces (A : Option Addr) (cap : Nat) (ps : List Qp) (c : Int) (L : Nat) (w : World) (h : QsAt w L A cap ps) (hB : QB ps) (hc : -9223372036854775808 ≤ c ∧ c ≤ 9223372036854775807) (hL : L ≤ w.heap.size) (hn : ps.length ≤ 1048576) : Calls Tryd.prog 23 #[.slice A ps.length cap, .int .i64 c] w fun e w' => e = .returned (.bool (decide (pcOk ps c))) ∧ Below w.heap.size w w' := by
  obtain ⟨N, hN⟩ : ∃ N, N = ps.length := ⟨_, rfl⟩
  have HN := hid hN
  rw [← hN] at hn ⊢
  obtain ⟨ok, hok⟩ : ∃ ok, ok = decide (pcOk ps c) := ⟨_, rfl⟩
  rw [← hok]
  have HK := hid hok
  obtain ⟨c1, hc1⟩ : ∃ c1, c1 = IntKind.i64.wrap (c - 1) := ⟨_, rfl⟩
  have HF := hid (show 0 ≤ c → c ≤ 40 → c1 = c - 1 from fun h0 h1 => by rw [hc1, IntWalk.i64_in _ (by omega)])
  have hc2 := hc1.symm
  clear hN hok hc1
  go_enter Tryd.func23, Tryd.ntmps23
  go_wp2_with fail
  go_loopw [5] (fun i wr => ∃ k : Nat, k ≤ N ∧ i = .int .i64 k ∧ Hid (∀ i, i < k → pcStep ps c1 i) ∧ Below w.heap.size w wr) (fun i _ => N - (intOf i).toNat)
  case atStart => exact ⟨0, Nat.zero_le _, rfl, hid (fun i hi => by omega), by (repeat (first | with_reducible (first | assumption | exact Below.refl _ _ | refine bel_alloc ?_ _ | refine bel_drew ?_ | refine bel_drewN ?_ _ | refine bel_set ?_ (by first | omega | (simp; done) | (simp; omega)) _ | refine bel_trans ?_ (by assumption)) | assumption | refine bel_trans ?_ (by assumption)))⟩
  case round =>
    obtain ⟨k, hk, rfl, HS0, hbl⟩ := hrel
    rename_i wr _
    by_cases hlt : k < N
    · have hlt2 : k < ps.length := by have := HN.out; omega
      obtain ⟨b, off, rfl, hb, hc0, hcc1⟩ := qp_at (h.below hbl hL) k hlt2
      obtain ⟨hp1, hp2⟩ := hB k _ (List.getElem?_eq_getElem hlt2)
      obtain ⟨x, hx⟩ : ∃ x, x = ps[k].1 := ⟨_, rfl⟩
      obtain ⟨d, hd⟩ : ∃ d, d = ps[k].2 := ⟨_, rfl⟩
      rw [← hx] at hc0 hp1
      rw [← hd] at hcc1 hp2
      have HX := hid (show q0 ps k = x by rw [(q_at k hlt2).1, hx])
      have HY := hid (show q1 ps k = d by rw [(q_at k hlt2).2, hd])
      unfold maxLen at hp2
      have HLT := hid hlt2
      clear hx hd hlt2
      have hkN : (k : Int) < (N : Int) := by omega
      have HBL := hid hbl
      have hs2 : wr.cell? ⟨b, off + k * 2, none⟩ = some (.int .i64 x) ∧ wr.cell? ⟨b, off + k * 2 + 1, none⟩ = some (.string d) ∧ Below wr.heap.size wr wr := ⟨hc0, hcc1, Below.refl _ _⟩
      cases h1 : inB x 0 c1 with
      | false =>
        have HR := hid (show ok = false by
          rw [HK.out]
          exact pcOk_not HF.out k HLT.out (fun hs => by have := hs.1; rw [HX.out] at this; rw [inB_iff.2 this] at h1; cases h1))
        have HA := hid (fun v => same_bel (show Calls Tryd.prog 29 #[.int .i64 x, .int .i64 0, .int .i64 c1] v (Same (.bool false) v) from by rw [← h1]; exact c_l1In x 0 c1 v))
        clear h1 hc0 hcc1
        go_wp2_with fail
        refine qB (S := (fun v => v.cell? ⟨b, off + k * 2, none⟩ = some (.int .i64 x) ∧ v.cell? ⟨b, off + k * 2 + 1, none⟩ = some (.string d) ∧ Below wr.heap.size wr v)) (by kernel_rfl) (by kernel_rfl) (s2_drew hs2) ?_
        refine qK ?_
        refine qK ?_
        refine qK ?_
        refine qK ?_
        refine qK ?_
        refine qK ?_
        refine qK ?_
        refine qC (fun wq hSq => HA.out wq) (fun wq wr hbr hSq => s2_bel hbr hSq) ?_
        refine qK ?_
        refine qK ?_
        refine qU ?_
        refine qU ?_
        refine qU ?_
        refine qU ?_
        refine qU ?_
        refine qU ?_
        refine qU ?_
        refine qU ?_
        refine qU ?_
        refine qU ?_
        refine qU ?_
        refine qU ?_
        refine qU ?_
        refine qU ?_
        refine qU ?_
        refine qU ?_
        refine qK ?_
        refine qK ?_
        refine qU ?_
        refine qU ?_
        refine qU ?_
        refine qU ?_
        refine qU ?_
        refine qU ?_
        refine qU ?_
        refine qU ?_
        refine qK ?_
        refine qN ?_
        intro wq hSq
        (try dsimp only at hSq)
        have hbq := HBL.out.trans (hSq.2.2.mono HBL.out.size)
        clear hSq hs2
        go_wp2_with fail
        go_ret
        exact ⟨ret_bool (by rw [HR.out]), hbq⟩
      | true =>
      have hx4 := hid (inB_iff.1 h1)
      have HA := hid (fun v => same_bel (show Calls Tryd.prog 29 #[.int .i64 x, .int .i64 0, .int .i64 c1] v (Same (.bool true) v) from by rw [← h1]; exact c_l1In x 0 c1 v))
      clear h1
      obtain ⟨s, hs⟩ : ∃ s, s = inB (d.size : Int) 1 64 := ⟨_, rfl⟩
      have HS := hid hs
      have HC := hid (fun v => same_bel (show Calls Tryd.prog 29 #[.int .i64 (d.size : Nat), .int .i64 1, .int .i64 64] v (Same (.bool s) v) from by rw [hs]; exact c_l1In _ 1 64 v))
      clear hs
      have HR := hid (show s = false → ok = false from fun e => by
        rw [HK.out]
        exact pcOk_not HF.out k HLT.out (fun hs => by have := hs.2.2; rw [HY.out] at this; rw [HS.out] at e; rw [inB_iff.2 (by omega)] at e; cases e))
      have HT := hid (show s = true → 1 ≤ d.size ∧ d.size ≤ 64 from fun e => by rw [HS.out] at e; have := inB_iff.1 e; omega)
      clear HS
      by_cases hk0 : k = 0
      · subst hk0
        simp only [Nat.zero_mul, Nat.add_zero] at hc0 hcc1 hs2
        have hg : decide ((0 : Int) > 0) = false := by decide
        cases s with
        | false =>
          have HR2 : ok = false := HR.out rfl
          have HRf := hid HR2
          clear HR2
          clear hc0 hcc1
          go_wp2_with fail
          refine qB (S := (fun v => v.cell? ⟨b, off, none⟩ = some (.int .i64 x) ∧ v.cell? ⟨b, off + 1, none⟩ = some (.string d) ∧ Below wr.heap.size wr v)) (by kernel_rfl) (by kernel_rfl) (s2_drew hs2) ?_
          refine qK ?_
          refine qK ?_
          refine qK ?_
          refine qK ?_
          refine qK ?_
          refine qK ?_
          refine qK ?_
          refine qC (fun wq hSq => HA.out wq) (fun wq wr hbr hSq => s2_bel hbr hSq) ?_
          refine qK ?_
          refine qK ?_
          refine qK ?_
          refine qK ?_
          refine qK ?_
          refine qU ?_
          refine qU ?_
          refine qU ?_
          refine qU ?_
          refine qU ?_
          refine qU ?_
          refine qU ?_
          refine qU ?_
          refine qU ?_
          refine qU ?_
          refine qU ?_
          refine qU ?_
          refine qK ?_
          refine qK ?_
          refine qK ?_
          refine qK ?_
          refine qK ?_
          refine qK ?_
          refine qK ?_
          refine qK ?_
          refine qK ?_
          refine qC (fun wq hSq => HC.out wq) (fun wq wr hbr hSq => s2_bel hbr hSq) ?_
          refine qK ?_
          refine qK ?_
          refine qN ?_
          intro wq hSq
          (try dsimp only at hSq)
          have hbq := HBL.out.trans (hSq.2.2.mono HBL.out.size)
          clear hSq hs2
          go_wp2_with fail
          go_ret
          exact ⟨ret_bool HRf.out.symm, hbq⟩
        | true =>
          have HS2 := hid (show ∀ i, i < 0 + 1 → pcStep ps c1 i from fun i hi => by
            obtain rfl : i = 0 := by omega
            exact ⟨by rw [HX.out]; exact hx4.out, fun h => by omega, by rw [HY.out]; exact HT.out rfl⟩)
          clear hc0 hcc1
          go_wp2_with fail
          refine qB (S := (fun v => v.cell? ⟨b, off, none⟩ = some (.int .i64 x) ∧ v.cell? ⟨b, off + 1, none⟩ = some (.string d) ∧ Below wr.heap.size wr v)) (by kernel_rfl) (by kernel_rfl) (s2_drew hs2) ?_
          refine qK ?_
          refine qK ?_
          refine qK ?_
          refine qK ?_
          refine qK ?_
          refine qK ?_
          refine qK ?_
          refine qC (fun wq hSq => HA.out wq) (fun wq wr hbr hSq => s2_bel hbr hSq) ?_
          refine qK ?_
          refine qK ?_
          refine qK ?_
          refine qK ?_
          refine qK ?_
          refine qU ?_
          refine qU ?_
          refine qU ?_
          refine qU ?_
          refine qU ?_
          refine qU ?_
          refine qU ?_
          refine qU ?_
          refine qU ?_
          refine qU ?_
          refine qU ?_
          refine qU ?_
          refine qK ?_
          refine qK ?_
          refine qK ?_
          refine qK ?_
          refine qK ?_
          refine qK ?_
          refine qK ?_
          refine qK ?_
          refine qK ?_
          refine qC (fun wq hSq => HC.out wq) (fun wq wr hbr hSq => s2_bel hbr hSq) ?_
          refine qK ?_
          refine qK ?_
          refine qN ?_
          intro wq hSq
          (try dsimp only at hSq)
          have hbq := HBL.out.trans (hSq.2.2.mono HBL.out.size)
          clear hSq hs2
          go_wp2_with fail
          go_roundw
          case rel => exact ⟨0 + 1, by omega, by go_num, HS2, hbq⟩
          case measure => simp [intOf]; omega
      · obtain ⟨j, hkj⟩ : ∃ j, k = j + 1 := ⟨k - 1, by omega⟩
        have hlt3 : j < ps.length := by have := HLT.out; omega
        obtain ⟨b', off', e1, hb9, hd0, hd1⟩ := qp_at (h.below hbl hL) j hlt3
        simp only [Option.some.injEq, Addr.mk.injEq, and_true] at e1
        obtain ⟨rfl, rfl⟩ := e1
        obtain ⟨hq1, hq2⟩ := hB j _ (List.getElem?_eq_getElem hlt3)
        clear hb9 hd1 hq2
        obtain ⟨u, hu⟩ : ∃ u, u = ps[j].1 := ⟨_, rfl⟩
        rw [← hu] at hd0 hq1
        have HU := hid (show q0 ps (k - 1) = u by rw [hkj, Nat.add_sub_cancel, (q_at j hlt3).1, hu])
        have hw1 : IntKind.i64.wrap ((k : Int) - 1) = (j : Int) := by rw [IntWalk.i64_in _ (by omega)]; omega
        have hw2 : (k : Int) - 1 = (j : Int) := by omega
        have hw3 : IntKind.i64.wrap (j : Int) = (j : Int) := IntWalk.i64_in _ (by omega)
        have hg : decide ((0 : Int) < (k : Int)) = true := decide_eq_true (by omega)
        have hkp : 0 < k := by omega
        have hjN : (j : Int) < (N : Int) := by omega
        have HKJ := hid hkj
        have hs3 : wr.cell? ⟨b, off + k * 2, none⟩ = some (.int .i64 x) ∧ wr.cell? ⟨b, off + k * 2 + 1, none⟩ = some (.string d) ∧ wr.cell? ⟨b, off + j * 2, none⟩ = some (.int .i64 u) ∧ Below wr.heap.size wr wr := ⟨hc0, hcc1, hd0, Below.refl _ _⟩
        clear hu hkj hk0 hlt3 hd0 hc0 hcc1 hs2
        by_cases hxu : x ≤ u
        · have HR := hid (show ok = false by
            rw [HK.out]
            exact pcOk_not HF.out k HLT.out (fun hs => by have := hs.2.1 (by have := HKJ.out; omega); rw [HX.out, HU.out] at this; omega))
          have hdx : decide (x ≤ u) = true := decide_eq_true hxu
          clear hxu
          go_wp2_with fail
          refine qB (S := (fun v => v.cell? ⟨b, off + k * 2, none⟩ = some (.int .i64 x) ∧ v.cell? ⟨b, off + k * 2 + 1, none⟩ = some (.string d) ∧ v.cell? ⟨b, off + j * 2, none⟩ = some (.int .i64 u) ∧ Below wr.heap.size wr v)) (by kernel_rfl) (by kernel_rfl) (s3_drew hs3) ?_
          refine qK ?_
          refine qK ?_
          refine qK ?_
          refine qK ?_
          refine qK ?_
          refine qK ?_
          refine qK ?_
          refine qC (fun wq hSq => HA.out wq) (fun wq wr hbr hSq => s3_bel hbr hSq) ?_
          refine qK ?_
          refine qK ?_
          refine qK ?_
          refine qK ?_
          refine qK ?_
          refine qK ?_
          refine qK ?_
          refine qK ?_
          refine qK ?_
          refine qK ?_
          refine qK ?_
          refine qK ?_
          refine qK ?_
          refine qK ?_
          refine qK ?_
          refine qK ?_
          refine qK ?_
          refine qK ?_
          refine qK ?_
          refine qK ?_
          refine qU ?_
          refine qU ?_
          refine qU ?_
          refine qU ?_
          refine qU ?_
          refine qU ?_
          refine qU ?_
          refine qU ?_
          refine qK ?_
          refine qN ?_
          intro wq hSq
          (try dsimp only at hSq)
          have hbq := HBL.out.trans (hSq.2.2.2.mono HBL.out.size)
          clear hSq hs3
          go_wp2_with fail
          go_ret
          exact ⟨ret_bool (by rw [HR.out]), hbq⟩
        · have hdx : decide (x ≤ u) = false := decide_eq_false hxu
          have HXU := hid (show u < x by omega)
          clear hxu
          cases s with
          | false =>
            have HR2 : ok = false := HR.out rfl
            have HRf := hid HR2
            clear HR2
            go_wp2_with fail
            refine qB (S := (fun v => v.cell? ⟨b, off + k * 2, none⟩ = some (.int .i64 x) ∧ v.cell? ⟨b, off + k * 2 + 1, none⟩ = some (.string d) ∧ v.cell? ⟨b, off + j * 2, none⟩ = some (.int .i64 u) ∧ Below wr.heap.size wr v)) (by kernel_rfl) (by kernel_rfl) (s3_drew hs3) ?_
            refine qK ?_
            refine qK ?_
            refine qK ?_
            refine qK ?_
            refine qK ?_
            refine qK ?_
            refine qK ?_
            refine qC (fun wq hSq => HA.out wq) (fun wq wr hbr hSq => s3_bel hbr hSq) ?_
            refine qK ?_
            refine qK ?_
            refine qK ?_
            refine qK ?_
            refine qK ?_
            refine qK ?_
            refine qK ?_
            refine qK ?_
            refine qK ?_
            refine qK ?_
            refine qK ?_
            refine qK ?_
            refine qK ?_
            refine qK ?_
            refine qK ?_
            refine qK ?_
            refine qK ?_
            refine qK ?_
            refine qK ?_
            refine qK ?_
            refine qK ?_
            refine qK ?_
            refine qK ?_
            refine qK ?_
            refine qK ?_
            refine qK ?_
            refine qC (fun wq hSq => HC.out wq) (fun wq wr hbr hSq => s3_bel hbr hSq) ?_
            refine qK ?_
            refine qK ?_
            refine qN ?_
            intro wq hSq
            (try dsimp only at hSq)
            have hbq := HBL.out.trans (hSq.2.2.2.mono HBL.out.size)
            clear hSq hs3
            go_wp2_with fail
            go_ret
            exact ⟨ret_bool HRf.out.symm, hbq⟩
          | true =>
            have HS2 := hid (show ∀ i, i < k + 1 → pcStep ps c1 i from fun i hi => by
              by_cases hij : i = k
              · subst hij
                exact ⟨by rw [HX.out]; exact hx4.out, fun h => by rw [HX.out, HU.out]; exact HXU.out, by rw [HY.out]; exact HT.out rfl⟩
              · exact HS0.out i (by omega))
            go_wp2_with fail
            refine qB (S := (fun v => v.cell? ⟨b, off + k * 2, none⟩ = some (.int .i64 x) ∧ v.cell? ⟨b, off + k * 2 + 1, none⟩ = some (.string d) ∧ v.cell? ⟨b, off + j * 2, none⟩ = some (.int .i64 u) ∧ Below wr.heap.size wr v)) (by kernel_rfl) (by kernel_rfl) (s3_drew hs3) ?_
            refine qK ?_
            refine qK ?_
            refine qK ?_
            refine qK ?_
            refine qK ?_
            refine qK ?_
            refine qK ?_
            refine qC (fun wq hSq => HA.out wq) (fun wq wr hbr hSq => s3_bel hbr hSq) ?_
            refine qK ?_
            refine qK ?_
            refine qK ?_
            refine qK ?_
            refine qK ?_
            refine qK ?_
            refine qK ?_
            refine qK ?_
            refine qK ?_
            refine qK ?_
            refine qK ?_
            refine qK ?_
            refine qK ?_
            refine qK ?_
            refine qK ?_
            refine qK ?_
            refine qK ?_
            refine qK ?_
            refine qK ?_
            refine qK ?_
            refine qK ?_
            refine qK ?_
            refine qK ?_
            refine qK ?_
            refine qK ?_
            refine qK ?_
            refine qC (fun wq hSq => HC.out wq) (fun wq wr hbr hSq => s3_bel hbr hSq) ?_
            refine qK ?_
            refine qK ?_
            refine qN ?_
            intro wq hSq
            (try dsimp only at hSq)
            have hbq := HBL.out.trans (hSq.2.2.2.mono HBL.out.size)
            clear hSq hs3
            go_wp2_with fail
            go_roundw
            case rel => exact ⟨k + 1, by omega, by go_num, HS2, hbq⟩
            case measure => simp [intOf]; omega
    · have HR := hid (show ok = inB c 0 40 by
        rw [HK.out]
        have hN2 := HN.out
        by_cases h40 : 0 ≤ c ∧ c ≤ 40
        · rw [inB_iff.2 h40]
          exact decide_eq_true ⟨h40, fun i hi => by rw [← HF.out h40.1 h40.2]; exact HS0.out i (by omega)⟩
        · rw [show inB c 0 40 = false from by rw [Bool.eq_false_iff]; exact fun e => h40 (inB_iff.1 e)]
          exact decide_eq_false (fun hp => h40 hp.1))
      go_wp2_with ((go_at_call 29; refine (c_l1In _ _ _ _).mono ?_; rintro e w' ⟨rfl, rfl⟩))
      go_ret
      exact ⟨ret_bool (by rw [HR.out]), hbl⟩

theorem c_l7Has (A : Option Addr) (cap : Nat) (ps : List Qp) (n : Int) (L : Nat) (w : World) (h : QsAt w L A cap ps) (hL : L ≤ w.heap.size) (hn : ps.length ≤ 1048576) : Calls Tryd.prog 24 #[.slice A ps.length cap, .int .i64 n] w (Same (.string (hasq ps n)) w) := by
  obtain ⟨N, hN⟩ : ∃ N, N = ps.length := ⟨_, rfl⟩
  have HN := hid hN
  rw [← hN] at hn ⊢
  obtain ⟨R, hR⟩ : ∃ R, R = hasq ps n := ⟨_, rfl⟩
  rw [← hR]
  have HR := hid hR
  clear hN hR
  go_enter Tryd.func24, Tryd.ntmps24
  go_wp2_with fail
  go_loop [5] (fun i => ∃ (k : Nat), k ≤ N ∧ i = .int .i64 k ∧ Hid (R = hasq (ps.drop k) n)) (fun i => N - (intOf i).toNat)
  case atStart => exact ⟨0, Nat.zero_le _, rfl, hid HR.out⟩
  case round =>
    obtain ⟨k, hk, rfl, HD⟩ := hrel
    by_cases hlt : k < N
    · have hlt2 : k < ps.length := by have := HN.out; omega
      obtain ⟨b, o, rfl, hb, hc0, hc1⟩ := qp_at h k hlt2
      have HE := hid (show R = if ps[k].1 = n then ps[k].2 else hasq (ps.drop (k + 1)) n by
        rw [HD.out, List.drop_eq_getElem_cons hlt2]; rfl)
      obtain ⟨x, hx⟩ : ∃ x, x = ps[k].1 := ⟨_, rfl⟩
      obtain ⟨d, hd⟩ : ∃ d, d = ps[k].2 := ⟨_, rfl⟩
      rw [← hx] at hc0 HE
      rw [← hd] at hc1 HE
      clear hx hd hlt2
      by_cases hxn : x = n
      · subst hxn
        have HE2 := hid (show R = d by rw [HE.out, if_pos rfl])
        go_wp2
        go_ret
        exact ⟨by rw [HE2.out]; rfl, rfl⟩
      · have HE2 := hid (show R = hasq (ps.drop (k + 1)) n by rw [HE.out, if_neg hxn])
        have hx2 : (x == n) = false := by simpa using hxn
        clear hxn
        go_wp2
        go_round
        case rel => exact ⟨k + 1, by omega, by go_num, HE2⟩
        case measure => simp [intOf]; omega
    · have HE2 := hid (show R = ByteArray.empty by rw [HD.out, List.drop_of_length_le (by have := HN.out; omega)]; rfl)
      go_wp2
      go_ret
      exact ⟨by rw [HE2.out]; rfl, rfl⟩
end Go.Proofs.YtdehancgadkfaaaDoor
