/- SeekBlock in both programs, and its law's walk. No condition but that all is within the law's bulk. -/
import Derived.Test.YtcliagnongbkmaaDoorYc
import Derived.Test.YtcliagnongbkmaaDoorQz
namespace Go.Proofs.YtcliagnongbkmaaDoor
open Go.ChangeShapes Go.WideShapes Go.ChangeAt Go.RowKit Go.Joins
set_option linter.unusedVariables false
set_option linter.unusedSimpArgs false

/-- place i may follow the one ahead of it -/
def stepOk (ps : List Pr) (i : Nat) : Prop :=
  (0 ≤ (ps.getD i (0, 0)).1 ∧ (ps.getD i (0, 0)).1 ≤ 4000) ∧ (0 ≤ (ps.getD i (0, 0)).2 ∧ (ps.getD i (0, 0)).2 ≤ 2000) ∧ (i = 0 → (ps.getD i (0, 0)).1 = 0 ∧ (ps.getD i (0, 0)).2 = 0) ∧ (0 < i → (ps.getD (i - 1) (0, 0)).1 < (ps.getD i (0, 0)).1 ∧ (ps.getD (i - 1) (0, 0)).2 < (ps.getD i (0, 0)).2)
def plOk (ps : List Pr) : Prop := ps.length ≤ 40 ∧ ∀ i, i < ps.length → stepOk ps i
noncomputable instance (ps : List Pr) : Decidable (plOk ps) := Classical.propDecidable _
theorem plOk_no {ps : List Pr} (i : Nat) (h : i < ps.length) (hs : ¬ stepOk ps i) : decide (plOk ps) = false := decide_eq_false fun hp => hs (hp.2 i h)
theorem getD_at {ps : List Pr} (i : Nat) (h : i < ps.length) : ps.getD i (0, 0) = ps[i] := by simp [List.getD_eq_getElem?_getD, h]

set_option maxHeartbeats 8000000 in
theorem c_l5Index (A : Option Addr) (cap : Nat) (ps : List Pr) (L : Nat) (w : World) (h : PsAt w L A cap ps) (hB : PlB ps) (hL : L ≤ w.heap.size) (hn : ps.length ≤ 1048576) : Calls Tryd.prog 50 #[.slice A ps.length cap] w fun e w' => e = .returned (.bool (decide (plOk ps))) ∧ Below w.heap.size w w' := by
  obtain ⟨N, hN⟩ : ∃ N, N = ps.length := ⟨_, rfl⟩
  have HN := hid hN
  rw [← hN] at hn ⊢
  obtain ⟨ok, hok⟩ : ∃ ok, ok = decide (plOk ps) := ⟨_, rfl⟩
  rw [← hok]
  have HK := hid hok
  clear hN hok
  go_enter Tryd.func50, Tryd.ntmps50
  go_wp2_with fail
  go_loopw [3] (fun i wr => ∃ k : Nat, k ≤ N ∧ i = .int .i64 k ∧ Hid (∀ i, i < k → stepOk ps i) ∧ Below w.heap.size w wr) (fun i _ => N - (intOf i).toNat)
  case atStart => exact ⟨0, Nat.zero_le _, rfl, hid (fun i hi => by omega), by (repeat (first | with_reducible (first | assumption | exact Below.refl _ _ | refine bel_alloc ?_ _ | refine bel_drew ?_ | refine bel_drewN ?_ _ | refine bel_set ?_ (by first | omega | (simp; done) | (simp; omega)) _ | refine bel_trans ?_ (by assumption)) | assumption | refine bel_trans ?_ (by assumption)))⟩
  case round =>
    obtain ⟨k, hk, rfl, HF, hbl⟩ := hrel
    by_cases hlt : k < N
    · have hlt2 : k < ps.length := by have := HN.out; omega
      obtain ⟨b, off, rfl, hb, hc0, hc1⟩ := plc_at (h.below hbl hL) k hlt2
      obtain ⟨hp1, hp2⟩ := hB k _ (List.getElem?_eq_getElem hlt2)
      obtain ⟨x, hx⟩ : ∃ x, x = ps[k].1 := ⟨_, rfl⟩
      obtain ⟨y, hy⟩ : ∃ y, y = ps[k].2 := ⟨_, rfl⟩
      rw [← hx] at hc0 hp1
      rw [← hy] at hc1 hp2
      have HX := hid (show (ps.getD k (0, 0)).1 = x by rw [getD_at k hlt2, hx])
      have HY := hid (show (ps.getD k (0, 0)).2 = y by rw [getD_at k hlt2, hy])
      clear hx hy
      have kP := Blk.new wr 52 #[.int .i64 x, .int .i64 y]
      cases h1 : inB x 0 4000 with
      | false =>
        have HR := hid (show ok = false by
          rw [HK.out]
          exact plOk_no k hlt2 (fun hs => by have := hs.1; rw [HX.out] at this; rw [inB_iff.2 this] at h1; cases h1))
        go_wp2_with ((go_at_call 69; refine (c_l1In _ _ _ _).mono ?_; rintro e w' ⟨rfl, rfl⟩))
        go_ret
        exact ⟨ret_bool (by rw [HR.out]), by (repeat (first | with_reducible (first | assumption | exact Below.refl _ _ | refine bel_alloc ?_ _ | refine bel_drew ?_ | refine bel_drewN ?_ _ | refine bel_set ?_ (by first | omega | (simp; done) | (simp; omega)) _ | refine bel_trans ?_ (by assumption)) | assumption | refine bel_trans ?_ (by assumption)))⟩
      | true =>
      cases h2 : inB y 0 2000 with
      | false =>
        have HR := hid (show ok = false by
          rw [HK.out]
          exact plOk_no k hlt2 (fun hs => by have := hs.2.1; rw [HY.out] at this; rw [inB_iff.2 this] at h2; cases h2))
        go_wp2_with ((go_at_call 69; refine (c_l1In _ _ _ _).mono ?_; rintro e w' ⟨rfl, rfl⟩))
        go_ret
        exact ⟨ret_bool (by rw [HR.out]), by (repeat (first | with_reducible (first | assumption | exact Below.refl _ _ | refine bel_alloc ?_ _ | refine bel_drew ?_ | refine bel_drewN ?_ _ | refine bel_set ?_ (by first | omega | (simp; done) | (simp; omega)) _ | refine bel_trans ?_ (by assumption)) | assumption | refine bel_trans ?_ (by assumption)))⟩
      | true =>
        have hx4 := inB_iff.1 h1
        have hy4 := inB_iff.1 h2
        by_cases hk0 : k = 0
        · subst hk0
          simp only [Nat.zero_mul, Nat.add_zero] at hc0 hc1
          by_cases hx0 : x = 0
          · by_cases hy0 : y = 0
            · subst hx0 hy0
              have HS := hid (show ∀ i, i < 0 + 1 → stepOk ps i from fun i hi => by
                have : i = 0 := by omega
                subst this
                exact ⟨by rw [HX.out]; omega, by rw [HY.out]; omega, fun _ => ⟨HX.out, HY.out⟩, fun h => by omega⟩)
              go_wp2_with ((go_at_call 69; refine (c_l1In _ _ _ _).mono ?_; rintro e w' ⟨rfl, rfl⟩))
              go_quiet (fail)
              go_wp2
              go_roundw
              case rel => exact ⟨0 + 1, by omega, by go_num, HS, by (repeat (first | with_reducible (first | assumption | exact Below.refl _ _ | refine bel_alloc ?_ _ | refine bel_drew ?_ | refine bel_drewN ?_ _ | refine bel_set ?_ (by first | omega | (simp; done) | (simp; omega)) _ | refine bel_trans ?_ (by assumption)) | assumption | refine bel_trans ?_ (by assumption)))⟩
              case measure => simp [intOf]; omega
            · have HR := hid (show ok = false by rw [HK.out]; exact plOk_no 0 hlt2 (fun hs => hy0 (by rw [← HY.out]; exact (hs.2.2.1 rfl).2)))
              subst hx0
              have hd : (y != 0) = true := by simpa using hy0
              clear hy0
              go_wp2_with ((go_at_call 69; refine (c_l1In _ _ _ _).mono ?_; rintro e w' ⟨rfl, rfl⟩))
              go_quiet (fail)
              go_wp2
              go_ret
              exact ⟨ret_bool (by rw [HR.out]), by (repeat (first | with_reducible (first | assumption | exact Below.refl _ _ | refine bel_alloc ?_ _ | refine bel_drew ?_ | refine bel_drewN ?_ _ | refine bel_set ?_ (by first | omega | (simp; done) | (simp; omega)) _ | refine bel_trans ?_ (by assumption)) | assumption | refine bel_trans ?_ (by assumption)))⟩
          · have HR := hid (show ok = false by rw [HK.out]; exact plOk_no 0 hlt2 (fun hs => hx0 (by rw [← HX.out]; exact (hs.2.2.1 rfl).1)))
            have hd : (x != 0) = true := by simpa using hx0
            clear hx0
            go_wp2_with ((go_at_call 69; refine (c_l1In _ _ _ _).mono ?_; rintro e w' ⟨rfl, rfl⟩))
            go_quiet (fail)
            go_wp2
            go_ret
            exact ⟨ret_bool (by rw [HR.out]), by (repeat (first | with_reducible (first | assumption | exact Below.refl _ _ | refine bel_alloc ?_ _ | refine bel_drew ?_ | refine bel_drewN ?_ _ | refine bel_set ?_ (by first | omega | (simp; done) | (simp; omega)) _ | refine bel_trans ?_ (by assumption)) | assumption | refine bel_trans ?_ (by assumption)))⟩
        · obtain ⟨j, hkj⟩ : ∃ j, k = j + 1 := ⟨k - 1, by omega⟩
          have hlt3 : j < ps.length := by omega
          obtain ⟨b', off', e1, _, hd0, hd1⟩ := plc_at (h.below hbl hL) j hlt3
          simp only [Option.some.injEq, Addr.mk.injEq, and_true] at e1
          obtain ⟨rfl, rfl⟩ := e1
          obtain ⟨hq1, hq2⟩ := hB j _ (List.getElem?_eq_getElem hlt3)
          obtain ⟨ux, hu⟩ : ∃ ux, ux = ps[j].1 := ⟨_, rfl⟩
          obtain ⟨vy, hv⟩ : ∃ vy, vy = ps[j].2 := ⟨_, rfl⟩
          rw [← hu] at hd0 hq1
          rw [← hv] at hd1 hq2
          have HU := hid (show (ps.getD (k - 1) (0, 0)).1 = ux by rw [hkj, Nat.add_sub_cancel, getD_at j hlt3, hu])
          have HV := hid (show (ps.getD (k - 1) (0, 0)).2 = vy by rw [hkj, Nat.add_sub_cancel, getD_at j hlt3, hv])
          have hw1 : IntKind.i64.wrap ((k : Int) - 1) = (j : Int) := by rw [IntWalk.i64_in _ (by omega)]; omega
          have hw2 : (k : Int) - 1 = (j : Int) := by omega
          have hw3 : IntKind.i64.wrap (j : Int) = (j : Int) := IntWalk.i64_in _ (by omega)
          have hkp : 0 < k := by omega
          have hg : decide ((0 : Int) < (k : Int)) = true := decide_eq_true (by omega)
          have he : ((k : Int) == 0) = false := eq_no (by omega)
          have hjN : (j : Int) < (N : Int) := by omega
          have hkN : (k : Int) < (N : Int) := by omega
          have HKJ := hid hkj
          have HK0 := hid hk0
          have HL3 := hid hlt3
          have hS4 : (wr.alloc (.cells #[.int .i64 x, .int .i64 y] 52)).cell? ⟨wr.heap.size, 0, none⟩ = some (.int .i64 x) ∧ (wr.alloc (.cells #[.int .i64 x, .int .i64 y] 52)).cell? ⟨wr.heap.size, 1, none⟩ = some (.int .i64 y) ∧ (wr.alloc (.cells #[.int .i64 x, .int .i64 y] 52)).cell? ⟨b, off + j * 2, none⟩ = some (.int .i64 ux) ∧ (wr.alloc (.cells #[.int .i64 x, .int .i64 y] 52)).cell? ⟨b, off + j * 2 + 1, none⟩ = some (.int .i64 vy) ∧ Below (wr.alloc (.cells #[.int .i64 x, .int .i64 y] 52)).heap.size (wr.alloc (.cells #[.int .i64 x, .int .i64 y] 52)) (wr.alloc (.cells #[.int .i64 x, .int .i64 y] 52)) :=
            ⟨kP.cell 0, kP.cell 1, cell_to hd0 (bel_alloc (Below.refl _ wr) _), cell_to hd1 (bel_alloc (Below.refl _ wr) _), Below.refl _ _⟩
          have HbW := hid (bel_alloc hbl (.cells #[.int .i64 x, .int .i64 y] 52))
          clear hu hv hkj hk0 hlt3 hd0 hd1
          by_cases hxu : x ≤ ux
          · have HR := hid (show ok = false by rw [HK.out]; exact plOk_no _ hlt2 (fun hs => by have := (hs.2.2.2 (by have := HK0.out; omega)).1; rw [HX.out, HU.out] at this; omega))
            have hdx : decide (x ≤ ux) = true := decide_eq_true hxu
            clear hxu
            go_wp2_with ((go_at_call 69; refine (c_l1In _ _ _ _).mono ?_; rintro e w' ⟨rfl, rfl⟩))
            refine qB (S := (fun v => v.cell? ⟨wr.heap.size, 0, none⟩ = some (.int .i64 x) ∧ v.cell? ⟨wr.heap.size, 1, none⟩ = some (.int .i64 y) ∧ v.cell? ⟨b, off + j * 2, none⟩ = some (.int .i64 ux) ∧ v.cell? ⟨b, off + j * 2 + 1, none⟩ = some (.int .i64 vy) ∧ Below (wr.alloc (.cells #[.int .i64 x, .int .i64 y] 52)).heap.size (wr.alloc (.cells #[.int .i64 x, .int .i64 y] 52)) v)) (by kernel_rfl) (by kernel_rfl) (s4_drew hS4) ?_
            refine qK ?_
            refine qK ?_
            refine qK ?_
            refine qU ?_
            refine qU ?_
            refine qU ?_
            refine qU ?_
            refine qU ?_
            refine qU ?_
            refine qU ?_
            refine qU ?_
            refine qK ?_
            refine qK ?_
            refine qK ?_
            refine qK ?_
            refine qK ?_
            refine qK ?_
            refine qK ?_
            refine qK ?_
            refine qK ?_
            refine qK ?_
            refine qK ?_
            refine qK ?_
            refine qK ?_
            refine qK ?_
            refine qK ?_
            refine qU ?_
            refine qU ?_
            refine qU ?_
            refine qU ?_
            refine qU ?_
            refine qU ?_
            refine qU ?_
            refine qU ?_
            refine qU ?_
            refine qK ?_
            refine qK ?_
            refine qK ?_
            refine qN ?_
            intro wq hSq
            (try dsimp only at hSq)
            have hbq := bel_trans HbW.out hSq.2.2.2.2
            clear hSq hS4
            go_wp2_with fail
            go_ret
            exact ⟨ret_bool (by rw [HR.out]), hbq⟩
          · by_cases hyv : y ≤ vy
            · have HR := hid (show ok = false by rw [HK.out]; exact plOk_no _ hlt2 (fun hs => by have := (hs.2.2.2 (by have := HK0.out; omega)).2; rw [HY.out, HV.out] at this; omega))
              have hdx : decide (x ≤ ux) = false := decide_eq_false hxu
              have hdy : decide (y ≤ vy) = true := decide_eq_true hyv
              clear hxu hyv
              go_wp2_with ((go_at_call 69; refine (c_l1In _ _ _ _).mono ?_; rintro e w' ⟨rfl, rfl⟩))
              refine qB (S := (fun v => v.cell? ⟨wr.heap.size, 0, none⟩ = some (.int .i64 x) ∧ v.cell? ⟨wr.heap.size, 1, none⟩ = some (.int .i64 y) ∧ v.cell? ⟨b, off + j * 2, none⟩ = some (.int .i64 ux) ∧ v.cell? ⟨b, off + j * 2 + 1, none⟩ = some (.int .i64 vy) ∧ Below (wr.alloc (.cells #[.int .i64 x, .int .i64 y] 52)).heap.size (wr.alloc (.cells #[.int .i64 x, .int .i64 y] 52)) v)) (by kernel_rfl) (by kernel_rfl) (s4_drew hS4) ?_
              refine qK ?_
              refine qK ?_
              refine qK ?_
              refine qU ?_
              refine qU ?_
              refine qU ?_
              refine qU ?_
              refine qU ?_
              refine qU ?_
              refine qU ?_
              refine qU ?_
              refine qK ?_
              refine qK ?_
              refine qK ?_
              refine qK ?_
              refine qK ?_
              refine qK ?_
              refine qK ?_
              refine qK ?_
              refine qK ?_
              refine qK ?_
              refine qK ?_
              refine qK ?_
              refine qK ?_
              refine qK ?_
              refine qK ?_
              refine qK ?_
              refine qK ?_
              refine qK ?_
              refine qK ?_
              refine qK ?_
              refine qK ?_
              refine qK ?_
              refine qK ?_
              refine qK ?_
              refine qK ?_
              refine qK ?_
              refine qK ?_
              refine qN ?_
              intro wq hSq
              (try dsimp only at hSq)
              have hbq := bel_trans HbW.out hSq.2.2.2.2
              clear hSq hS4
              go_wp2_with fail
              go_ret
              exact ⟨ret_bool (by rw [HR.out]), hbq⟩
            · have HS := hid (show ∀ i, i < k + 1 → stepOk ps i from fun i hi => by
                have := HKJ.out
                have := HK0.out
                by_cases hij : i = k
                · subst hij
                  exact ⟨by rw [HX.out]; omega, by rw [HY.out]; omega, fun h => by omega, fun _ => by rw [HX.out, HY.out, HU.out, HV.out]; omega⟩
                · exact HF.out i (by omega))
              have hdx : decide (x ≤ ux) = false := decide_eq_false hxu
              have hdy : decide (y ≤ vy) = false := decide_eq_false hyv
              clear hxu hyv
              go_wp2_with ((go_at_call 69; refine (c_l1In _ _ _ _).mono ?_; rintro e w' ⟨rfl, rfl⟩))
              refine qB (S := (fun v => v.cell? ⟨wr.heap.size, 0, none⟩ = some (.int .i64 x) ∧ v.cell? ⟨wr.heap.size, 1, none⟩ = some (.int .i64 y) ∧ v.cell? ⟨b, off + j * 2, none⟩ = some (.int .i64 ux) ∧ v.cell? ⟨b, off + j * 2 + 1, none⟩ = some (.int .i64 vy) ∧ Below (wr.alloc (.cells #[.int .i64 x, .int .i64 y] 52)).heap.size (wr.alloc (.cells #[.int .i64 x, .int .i64 y] 52)) v)) (by kernel_rfl) (by kernel_rfl) (s4_drew hS4) ?_
              refine qK ?_
              refine qK ?_
              refine qK ?_
              refine qU ?_
              refine qU ?_
              refine qU ?_
              refine qU ?_
              refine qU ?_
              refine qU ?_
              refine qU ?_
              refine qU ?_
              refine qK ?_
              refine qK ?_
              refine qK ?_
              refine qK ?_
              refine qK ?_
              refine qK ?_
              refine qK ?_
              refine qK ?_
              refine qK ?_
              refine qK ?_
              refine qK ?_
              refine qK ?_
              refine qK ?_
              refine qK ?_
              refine qK ?_
              refine qK ?_
              refine qK ?_
              refine qK ?_
              refine qK ?_
              refine qK ?_
              refine qK ?_
              refine qK ?_
              refine qK ?_
              refine qK ?_
              refine qK ?_
              refine qK ?_
              refine qK ?_
              refine qN ?_
              intro wq hSq
              (try dsimp only at hSq)
              have hbq := bel_trans HbW.out hSq.2.2.2.2
              clear hSq hS4
              go_wp2_with fail
              go_roundw
              case rel => exact ⟨k + 1, by omega, by go_num, HS, hbq⟩
              case measure => simp [intOf]; omega
    · have HR := hid (show ok = decide ((N : Int) ≤ 40) by
        rw [HK.out]
        have := HN.out
        by_cases h40 : N ≤ 40
        · rw [decide_eq_true (show (N : Int) ≤ 40 by omega)]
          exact decide_eq_true ⟨by omega, fun i hi => HF.out i (by omega)⟩
        · rw [decide_eq_false (show ¬ (N : Int) ≤ 40 by omega)]
          exact decide_eq_false (fun hp => h40 (by have := hp.1; omega)))
      go_wp2
      go_ret
      exact ⟨ret_bool (by rw [HR.out]), by (repeat (first | with_reducible (first | assumption | exact Below.refl _ _ | refine bel_alloc ?_ _ | refine bel_drew ?_ | refine bel_drewN ?_ _ | refine bel_set ?_ (by first | omega | (simp; done) | (simp; omega)) _ | refine bel_trans ?_ (by assumption)) | assumption | refine bel_trans ?_ (by assumption)))⟩
end Go.Proofs.YtcliagnongbkmaaDoor
