/- SeekBlock in both programs, and its law's walk. No condition but that all is within the law's bulk. -/
import Derived.Test.YtcliagnongbkmaaDoorYd
namespace Go.Proofs.YtcliagnongbkmaaDoor
open Go.ChangeShapes Go.WideShapes Go.ChangeAt Go.RowKit Go.Joins
set_option linter.unusedVariables false
set_option linter.unusedSimpArgs false

/-- the last of the first k places that does not begin behind an offset -/
def sk (ps : List Pr) (off : Int) : Nat → Int
  | 0 => -1
  | k + 1 => if (ps.getD k (0, 0)).2 ≤ off then (k : Int) else sk ps off k

theorem sk_bd (ps : List Pr) (off : Int) (k : Nat) : -1 ≤ sk ps off k ∧ sk ps off k ≤ k := by
  induction k with
  | zero => simp [sk]
  | succ k ih => unfold sk; split <;> omega

noncomputable def seekV (ps : List Pr) (off : Int) : Int := if plOk ps then sk ps off ps.length else -1

set_option maxHeartbeats 8000000 in
theorem c_placesValid (A : Option Addr) (cap : Nat) (ps : List Pr) (L : Nat) (w : World) (h : PsAt w L A cap ps) (hB : PlB ps) (hL : L ≤ w.heap.size) (hn : ps.length ≤ 1048576) : Calls Tryd.prog 52 #[.slice A ps.length cap] w fun e w' => e = .returned (.bool (decide (plOk ps))) ∧ Below w.heap.size w w' := by
  obtain ⟨N, hN⟩ : ∃ N, N = ps.length := ⟨_, rfl⟩
  have HN := hid hN
  rw [← hN] at hn ⊢
  obtain ⟨ok, hok⟩ : ∃ ok, ok = decide (plOk ps) := ⟨_, rfl⟩
  rw [← hok]
  have HK := hid hok
  clear hN hok
  by_cases h40 : 40 < N
  · have HR := hid (show ok = false by rw [HK.out]; exact decide_eq_false (fun hp => by have := hp.1; have := HN.out; omega))
    go_enter Tryd.func52, Tryd.ntmps52
    go_wp2_with fail
    go_ret
    exact ⟨ret_bool (by rw [HR.out]), by (repeat (first | with_reducible (first | assumption | exact Below.refl _ _ | refine bel_alloc ?_ _ | refine bel_drew ?_ | refine bel_drewN ?_ _ | refine bel_set ?_ (by first | omega | (simp; done) | (simp; omega)) _ | refine bel_trans ?_ (by assumption)) | assumption | refine bel_trans ?_ (by assumption)))⟩
  go_enter Tryd.func52, Tryd.ntmps52
  go_wp2_with fail
  go_loopw [10] (fun i wr => ∃ k : Nat, k ≤ N ∧ i = .int .i64 k ∧ Hid (∀ i, i < k → stepOk ps i) ∧ Below w.heap.size w wr) (fun i _ => N - (intOf i).toNat)
  case atStart => exact ⟨0, Nat.zero_le _, rfl, hid (fun i hi => by omega), by (repeat (first | with_reducible (first | assumption | exact Below.refl _ _ | refine bel_alloc ?_ _ | refine bel_drew ?_ | refine bel_drewN ?_ _ | refine bel_set ?_ (by first | omega | (simp; done) | (simp; omega)) _ | refine bel_trans ?_ (by assumption)) | assumption | refine bel_trans ?_ (by assumption)))⟩
  case round =>
    obtain ⟨k, hk, rfl, HF, hbl⟩ := hrel
    by_cases hlt : k < N
    · have hlt2 : k < ps.length := by have := HN.out; omega
      obtain ⟨b, off, rfl, hb, hc0, hc1⟩ := plc_at (h.below hbl hL) k hlt2
      obtain ⟨hp1, hp2⟩ := hB k _ (List.getElem?_eq_getElem hlt2)
      obtain ⟨x, hx⟩ : ∃ x, x = ps[k].1 := ⟨_, rfl⟩
      obtain ⟨y, hy⟩ : ∃ y, y = ps[k].2 := ⟨_, rfl⟩
      rw [← hx] at hc0 hp1
      rw [← hy] at hc1 hp2
      have HX := hid (show (ps.getD k (0, 0)).1 = x by rw [getD_at k hlt2, hx])
      have HY := hid (show (ps.getD k (0, 0)).2 = y by rw [getD_at k hlt2, hy])
      clear hx hy
      have kP := Blk.new wr 52 #[.int .i64 x, .int .i64 y]
      have KP := hid kP
      have kp0 := kP.cell 0
      have kp1 := kP.cell 1
      have HbW := hid (bel_alloc hbl (.cells #[.int .i64 x, .int .i64 y] 52))
      have hS2 : (wr.alloc (.cells #[.int .i64 x, .int .i64 y] 52)).cell? ⟨wr.heap.size, 0, none⟩ = some (.int .i64 x) ∧ (wr.alloc (.cells #[.int .i64 x, .int .i64 y] 52)).cell? ⟨wr.heap.size, 1, none⟩ = some (.int .i64 y) ∧ Below (wr.alloc (.cells #[.int .i64 x, .int .i64 y] 52)).heap.size (wr.alloc (.cells #[.int .i64 x, .int .i64 y] 52)) (wr.alloc (.cells #[.int .i64 x, .int .i64 y] 52)) := ⟨kP.cell 0, kP.cell 1, Below.refl _ _⟩
      clear kP
      by_cases hk0 : k = 0
      · subst hk0
        simp only [Nat.zero_mul, Nat.add_zero] at hc0 hc1
        by_cases hx0 : x = 0
        · by_cases hy0 : y = 0
          · subst hx0 hy0
            have HS := hid (show ∀ i, i < 0 + 1 → stepOk ps i from fun i hi => by
              have : i = 0 := by omega
              subst this
              exact ⟨by rw [HX.out]; omega, by rw [HY.out]; omega, fun _ => ⟨HX.out, HY.out⟩, fun h => by omega⟩)
            go_wp2_with fail
            refine qB (S := (fun v => v.cell? ⟨wr.heap.size, 0, none⟩ = some (.int .i64 0) ∧ v.cell? ⟨wr.heap.size, 1, none⟩ = some (.int .i64 0) ∧ Below (wr.alloc (.cells #[.int .i64 0, .int .i64 0] 52)).heap.size (wr.alloc (.cells #[.int .i64 0, .int .i64 0] 52)) v)) (by kernel_rfl) (by kernel_rfl) (s2_drew hS2) ?_
            refine qK ?_
            refine qK ?_
            refine qK ?_
            refine qU ?_
            refine qU ?_
            refine qU ?_
            refine qU ?_
            refine qU ?_
            refine qU ?_
            refine qU ?_
            refine qU ?_
            refine qU ?_
            refine qU ?_
            refine qU ?_
            refine qU ?_
            refine qU ?_
            refine qU ?_
            refine qU ?_
            refine qU ?_
            refine qU ?_
            refine qU ?_
            refine qU ?_
            refine qU ?_
            refine qK ?_
            refine qN ?_
            intro wq hSq
            (try dsimp only at hSq)
            have hbq := bel_trans HbW.out hSq.2.2
            have g0 := hSq.1
            have g1 := hSq.2.1
            clear hSq hS2 kp0 kp1
            go_wp2_with fail
            go_roundw
            case rel => exact ⟨0 + 1, by omega, by go_num, HS, hbq⟩
            case measure => simp [intOf]; omega
          · have HR := hid (show ok = false by rw [HK.out]; exact plOk_no 0 hlt2 (fun hs => hy0 (by rw [← HY.out]; exact (hs.2.2.1 rfl).2)))
            subst hx0
            have hd : (y == 0) = false := by simpa using hy0
            clear hy0
            go_wp2_with fail
            go_ret
            exact ⟨ret_bool (by rw [HR.out]), HbW.out⟩
        · have HR := hid (show ok = false by rw [HK.out]; exact plOk_no 0 hlt2 (fun hs => hx0 (by rw [← HX.out]; exact (hs.2.2.1 rfl).1)))
          have hd : (x == 0) = false := by simpa using hx0
          clear hx0
          go_wp2_with fail
          go_ret
          exact ⟨ret_bool (by rw [HR.out]), HbW.out⟩
      · obtain ⟨j, hkj⟩ : ∃ j, k = j + 1 := ⟨k - 1, by omega⟩
        have hlt3 : j < ps.length := by omega
        obtain ⟨b', off', e1, _, hd0, hd1⟩ := plc_at (h.below hbl hL) j hlt3
        simp only [Option.some.injEq, Addr.mk.injEq, and_true] at e1
        obtain ⟨rfl, rfl⟩ := e1
        obtain ⟨hq1, hq2⟩ := hB j _ (List.getElem?_eq_getElem hlt3)
        obtain ⟨ux, hu⟩ : ∃ ux, ux = ps[j].1 := ⟨_, rfl⟩
        obtain ⟨vy, hv⟩ : ∃ vy, vy = ps[j].2 := ⟨_, rfl⟩
        rw [← hu] at hd0 hq1
        rw [← hv] at hd1 hq2
        have HU := hid (show (ps.getD (k - 1) (0, 0)).1 = ux by rw [hkj, Nat.add_sub_cancel, getD_at j hlt3, hu])
        have HV := hid (show (ps.getD (k - 1) (0, 0)).2 = vy by rw [hkj, Nat.add_sub_cancel, getD_at j hlt3, hv])
        have hprev := HF.out (k - 1) (by omega)
        have hu0 : 0 ≤ ux := by have := hprev.1.1; rw [HU.out] at this; exact this
        have hv0 : 0 ≤ vy := by have := hprev.2.1.1; rw [HV.out] at this; exact this
        have hw1 : IntKind.i64.wrap ((k : Int) - 1) = (j : Int) := by rw [IntWalk.i64_in _ (by omega)]; omega
        have hw2 : (k : Int) - 1 = (j : Int) := by omega
        have hw3 : IntKind.i64.wrap (j : Int) = (j : Int) := IntWalk.i64_in _ (by omega)
        have hkp : 0 < k := by omega
        have hg : decide ((0 : Int) < (k : Int)) = true := decide_eq_true (by omega)
        have he : ((k : Int) == 0) = false := eq_no (by omega)
        have hjN : (j : Int) < (N : Int) := by omega
        have hkN : (k : Int) < (N : Int) := by omega
        have HKJ := hid hkj
        have HK0 := hid hk0
        have hS4 : (wr.alloc (.cells #[.int .i64 x, .int .i64 y] 52)).cell? ⟨wr.heap.size, 0, none⟩ = some (.int .i64 x) ∧ (wr.alloc (.cells #[.int .i64 x, .int .i64 y] 52)).cell? ⟨wr.heap.size, 1, none⟩ = some (.int .i64 y) ∧ (wr.alloc (.cells #[.int .i64 x, .int .i64 y] 52)).cell? ⟨b, off + j * 2, none⟩ = some (.int .i64 ux) ∧ (wr.alloc (.cells #[.int .i64 x, .int .i64 y] 52)).cell? ⟨b, off + j * 2 + 1, none⟩ = some (.int .i64 vy) ∧ Below (wr.alloc (.cells #[.int .i64 x, .int .i64 y] 52)).heap.size (wr.alloc (.cells #[.int .i64 x, .int .i64 y] 52)) (wr.alloc (.cells #[.int .i64 x, .int .i64 y] 52)) :=
          ⟨KP.out.cell 0, KP.out.cell 1, cell_to hd0 (bel_alloc (Below.refl _ wr) _), cell_to hd1 (bel_alloc (Below.refl _ wr) _), Below.refl _ _⟩
        clear hu hv hkj hk0 hlt3 hd0 hd1 hS2 hprev
        by_cases hxu : x ≤ ux
        · have HR := hid (show ok = false by rw [HK.out]; exact plOk_no _ hlt2 (fun hs => by have := (hs.2.2.2 (by have := HK0.out; omega)).1; rw [HX.out, HU.out] at this; omega))
          have hdx : decide (x ≤ ux) = true := decide_eq_true hxu
          clear hxu
          go_wp2_with fail
          refine qB (S := (fun v => v.cell? ⟨wr.heap.size, 0, none⟩ = some (.int .i64 x) ∧ v.cell? ⟨wr.heap.size, 1, none⟩ = some (.int .i64 y) ∧ v.cell? ⟨b, off + j * 2, none⟩ = some (.int .i64 ux) ∧ v.cell? ⟨b, off + j * 2 + 1, none⟩ = some (.int .i64 vy) ∧ Below (wr.alloc (.cells #[.int .i64 x, .int .i64 y] 52)).heap.size (wr.alloc (.cells #[.int .i64 x, .int .i64 y] 52)) v)) (by kernel_rfl) (by kernel_rfl) (s4_drew hS4) ?_
          refine qK ?_
          refine qK ?_
          refine qK ?_
          refine qK ?_
          refine qK ?_
          refine qK ?_
          refine qK ?_
          refine qK ?_
          refine qK ?_
          refine qK ?_
          refine qK ?_
          refine qK ?_
          refine qK ?_
          refine qU ?_
          refine qU ?_
          refine qU ?_
          refine qU ?_
          refine qU ?_
          refine qU ?_
          refine qU ?_
          refine qU ?_
          refine qU ?_
          refine qK ?_
          refine qK ?_
          refine qN ?_
          intro wq hSq
          (try dsimp only at hSq)
          have hbq := bel_trans HbW.out hSq.2.2.2.2
          have g0 := hSq.1
          have g1 := hSq.2.1
          clear hSq hS4 kp0 kp1
          go_wp2_with fail
          go_ret
          exact ⟨ret_bool (by rw [HR.out]), hbq⟩
        · by_cases hyv : y ≤ vy
          · have HR := hid (show ok = false by rw [HK.out]; exact plOk_no _ hlt2 (fun hs => by have := (hs.2.2.2 (by have := HK0.out; omega)).2; rw [HY.out, HV.out] at this; omega))
            have hdx : decide (x ≤ ux) = false := decide_eq_false hxu
            have hdy : decide (y ≤ vy) = true := decide_eq_true hyv
            clear hxu hyv
            go_wp2_with fail
            refine qB (S := (fun v => v.cell? ⟨wr.heap.size, 0, none⟩ = some (.int .i64 x) ∧ v.cell? ⟨wr.heap.size, 1, none⟩ = some (.int .i64 y) ∧ v.cell? ⟨b, off + j * 2, none⟩ = some (.int .i64 ux) ∧ v.cell? ⟨b, off + j * 2 + 1, none⟩ = some (.int .i64 vy) ∧ Below (wr.alloc (.cells #[.int .i64 x, .int .i64 y] 52)).heap.size (wr.alloc (.cells #[.int .i64 x, .int .i64 y] 52)) v)) (by kernel_rfl) (by kernel_rfl) (s4_drew hS4) ?_
            refine qK ?_
            refine qK ?_
            refine qK ?_
            refine qK ?_
            refine qK ?_
            refine qK ?_
            refine qK ?_
            refine qK ?_
            refine qK ?_
            refine qK ?_
            refine qK ?_
            refine qK ?_
            refine qK ?_
            refine qK ?_
            refine qK ?_
            refine qK ?_
            refine qK ?_
            refine qK ?_
            refine qK ?_
            refine qK ?_
            refine qK ?_
            refine qK ?_
            refine qK ?_
            refine qK ?_
            refine qN ?_
            intro wq hSq
            (try dsimp only at hSq)
            have hbq := bel_trans HbW.out hSq.2.2.2.2
            have g0 := hSq.1
            have g1 := hSq.2.1
            clear hSq hS4 kp0 kp1
            go_wp2_with fail
            go_ret
            exact ⟨ret_bool (by rw [HR.out]), hbq⟩
          · by_cases hx4 : 4000 < x
            · have HR := hid (show ok = false by rw [HK.out]; exact plOk_no _ hlt2 (fun hs => by have := hs.1.2; rw [HX.out] at this; omega))
              have hdx : decide (x ≤ ux) = false := decide_eq_false hxu
              have hdy : decide (y ≤ vy) = false := decide_eq_false hyv
              clear hxu hyv
              go_wp2_with fail
              refine qB (S := (fun v => v.cell? ⟨wr.heap.size, 0, none⟩ = some (.int .i64 x) ∧ v.cell? ⟨wr.heap.size, 1, none⟩ = some (.int .i64 y) ∧ v.cell? ⟨b, off + j * 2, none⟩ = some (.int .i64 ux) ∧ v.cell? ⟨b, off + j * 2 + 1, none⟩ = some (.int .i64 vy) ∧ Below (wr.alloc (.cells #[.int .i64 x, .int .i64 y] 52)).heap.size (wr.alloc (.cells #[.int .i64 x, .int .i64 y] 52)) v)) (by kernel_rfl) (by kernel_rfl) (s4_drew hS4) ?_
              refine qK ?_
              refine qK ?_
              refine qK ?_
              refine qK ?_
              refine qK ?_
              refine qK ?_
              refine qK ?_
              refine qK ?_
              refine qK ?_
              refine qK ?_
              refine qK ?_
              refine qK ?_
              refine qK ?_
              refine qK ?_
              refine qK ?_
              refine qK ?_
              refine qK ?_
              refine qK ?_
              refine qK ?_
              refine qK ?_
              refine qK ?_
              refine qK ?_
              refine qK ?_
              refine qK ?_
              refine qN ?_
              intro wq hSq
              (try dsimp only at hSq)
              have hbq := bel_trans HbW.out hSq.2.2.2.2
              have g0 := hSq.1
              have g1 := hSq.2.1
              clear hSq hS4 kp0 kp1
              go_wp2_with fail
              go_ret
              exact ⟨ret_bool (by rw [HR.out]), hbq⟩
            · by_cases hy2 : 2000 < y
              · have HR := hid (show ok = false by rw [HK.out]; exact plOk_no _ hlt2 (fun hs => by have := hs.2.1.2; rw [HY.out] at this; omega))
                have hdx : decide (x ≤ ux) = false := decide_eq_false hxu
                have hdy : decide (y ≤ vy) = false := decide_eq_false hyv
                clear hxu hyv
                go_wp2_with fail
                refine qB (S := (fun v => v.cell? ⟨wr.heap.size, 0, none⟩ = some (.int .i64 x) ∧ v.cell? ⟨wr.heap.size, 1, none⟩ = some (.int .i64 y) ∧ v.cell? ⟨b, off + j * 2, none⟩ = some (.int .i64 ux) ∧ v.cell? ⟨b, off + j * 2 + 1, none⟩ = some (.int .i64 vy) ∧ Below (wr.alloc (.cells #[.int .i64 x, .int .i64 y] 52)).heap.size (wr.alloc (.cells #[.int .i64 x, .int .i64 y] 52)) v)) (by kernel_rfl) (by kernel_rfl) (s4_drew hS4) ?_
                refine qK ?_
                refine qK ?_
                refine qK ?_
                refine qK ?_
                refine qK ?_
                refine qK ?_
                refine qK ?_
                refine qK ?_
                refine qK ?_
                refine qK ?_
                refine qK ?_
                refine qK ?_
                refine qK ?_
                refine qK ?_
                refine qK ?_
                refine qK ?_
                refine qK ?_
                refine qK ?_
                refine qK ?_
                refine qK ?_
                refine qK ?_
                refine qK ?_
                refine qK ?_
                refine qK ?_
                refine qN ?_
                intro wq hSq
                (try dsimp only at hSq)
                have hbq := bel_trans HbW.out hSq.2.2.2.2
                have g0 := hSq.1
                have g1 := hSq.2.1
                clear hSq hS4 kp0 kp1
                go_wp2_with fail
                go_ret
                exact ⟨ret_bool (by rw [HR.out]), hbq⟩
              · have HS := hid (show ∀ i, i < k + 1 → stepOk ps i from fun i hi => by
                  have := HKJ.out
                  have := HK0.out
                  by_cases hij : i = k
                  · subst hij
                    exact ⟨by rw [HX.out]; omega, by rw [HY.out]; omega, fun h => by omega, fun _ => by rw [HX.out, HY.out, HU.out, HV.out]; omega⟩
                  · exact HF.out i (by omega))
                have hdx : decide (x ≤ ux) = false := decide_eq_false hxu
                have hdy : decide (y ≤ vy) = false := decide_eq_false hyv
                clear hxu hyv
                go_wp2_with fail
                refine qB (S := (fun v => v.cell? ⟨wr.heap.size, 0, none⟩ = some (.int .i64 x) ∧ v.cell? ⟨wr.heap.size, 1, none⟩ = some (.int .i64 y) ∧ v.cell? ⟨b, off + j * 2, none⟩ = some (.int .i64 ux) ∧ v.cell? ⟨b, off + j * 2 + 1, none⟩ = some (.int .i64 vy) ∧ Below (wr.alloc (.cells #[.int .i64 x, .int .i64 y] 52)).heap.size (wr.alloc (.cells #[.int .i64 x, .int .i64 y] 52)) v)) (by kernel_rfl) (by kernel_rfl) (s4_drew hS4) ?_
                refine qK ?_
                refine qK ?_
                refine qK ?_
                refine qK ?_
                refine qK ?_
                refine qK ?_
                refine qK ?_
                refine qK ?_
                refine qK ?_
                refine qK ?_
                refine qK ?_
                refine qK ?_
                refine qK ?_
                refine qK ?_
                refine qK ?_
                refine qK ?_
                refine qK ?_
                refine qK ?_
                refine qK ?_
                refine qK ?_
                refine qK ?_
                refine qK ?_
                refine qK ?_
                refine qK ?_
                refine qN ?_
                intro wq hSq
                (try dsimp only at hSq)
                have hbq := bel_trans HbW.out hSq.2.2.2.2
                have g0 := hSq.1
                have g1 := hSq.2.1
                clear hSq hS4 kp0 kp1
                go_wp2_with fail
                go_roundw
                case rel => exact ⟨k + 1, by omega, by go_num, HS, hbq⟩
                case measure => simp [intOf]; omega
    · have HR := hid (show ok = true by
        rw [HK.out]
        have := HN.out
        exact decide_eq_true ⟨by omega, fun i hi => HF.out i (by omega)⟩)
      go_wp2
      go_ret
      exact ⟨ret_bool (by rw [HR.out]), by (repeat (first | with_reducible (first | assumption | exact Below.refl _ _ | refine bel_alloc ?_ _ | refine bel_drew ?_ | refine bel_drewN ?_ _ | refine bel_set ?_ (by first | omega | (simp; done) | (simp; omega)) _ | refine bel_trans ?_ (by assumption)) | assumption | refine bel_trans ?_ (by assumption)))⟩

theorem own_plcs_at {w : World} {B : Nat} {e : TypeId} {g n : Nat} {l : List Pr} (h : w.ownsRow B e 2 (.slice (some ⟨g, 0, none⟩) n n) n (prs l)) (hn : n = l.length) (hn2 : n ≤ 1048576) : PsAt w w.heap.size (some ⟨g, 0, none⟩) n l := by
  refine ⟨by omega, by unfold maxLen; omega, fun h => (by cases h), fun hn0 => ⟨g, 0, rfl, ?_, fun i p hi => ?_⟩⟩
  · have h0 := own_plc h 0 l[0] (List.getElem?_eq_getElem hn0)
    exact World.block_lt_of_cell? _ _ h0.1
  · have h0 := own_plc h i p hi
    simp only [Nat.zero_add]
    exact h0
end Go.Proofs.YtcliagnongbkmaaDoor
