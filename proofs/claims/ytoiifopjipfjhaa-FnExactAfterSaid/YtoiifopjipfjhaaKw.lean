/- Contracts of the model's KnownValid and of what it calls. No condition but that the numbers are int's. -/
import Derived.Test.YtoiifopjipfjhaaKi
namespace Go.Proofs.Ytoiifopjipfjhaa
open Go.ChangeShapes Go.WideShapes Go.ChangeAt Go.RowKit Go.Joins
set_option linter.unusedVariables false

theorem c_l2Code (o l m code : Int) (n : Nat) (w : World) (h : setOk o l m = true) (hn : n ≤ 2000000) : Calls Try.prog 176 #[.agg #[.int .i64 o, .int .i64 l, .int .i64 m], .int .i64 code, .int .i64 n] w fun e w' => e = .returned (.bool (decide (HasW (pow2 l) code n))) ∧ Below w.heap.size w w' := by
  have hp := set_bd h
  obtain ⟨_, ⟨hl1, hl2⟩, _⟩ := setOk_iff.1 h
  have HC := hid (fun (v : World) => c_l1Clear o l m v (by omega) (by omega))
  have HE := hid (fun (v : World) => c_l1End o l m v (by omega) (by omega))
  have ew1 : IntKind.i64.wrap (pow2 l - 1) = pow2 l - 1 := IntWalk.i64_in _ (by omega)
  have ew2 : IntKind.i64.wrap (pow2 l + 1 + 1) = pow2 l + 1 + 1 := IntWalk.i64_in _ (by omega)
  have ew3 : IntKind.i64.wrap (pow2 l + 1 + (n : Int)) = pow2 l + 1 + (n : Int) := IntWalk.i64_in _ (by omega)
  have kb := (Blk.new w 24 #[.int .i64 o, .int .i64 l, .int .i64 m]).cells3
  have HS := hid (And.intro kb.1 (And.intro kb.2.1 (And.intro kb.2.2 (bel_alloc (Below.refl _ w) (.cells #[.int .i64 o, .int .i64 l, .int .i64 m] 24)))))
  clear kb
  by_cases h1 : 0 ≤ code ∧ code < pow2 l
  · have HI := hid (fun (v : World) => c_l1In code 0 (pow2 l - 1) v)
    have e1 : inB code 0 (pow2 l - 1) = true := inB_iff.2 (by omega)
    rw [e1] at HI
    have HR := hid (show HasW (pow2 l) code n from Or.inl h1)
    clear h1 e1
    go_enter Try.func176, Try.ntmps176
    go_wp2_with fail
    have hS := HS.out
    refine wp_region_noPanic ?_
    refine wp_region_held_drew (S := (fun v => v.cell? ⟨w.heap.size, 0, none⟩ = some (.int .i64 o) ∧ v.cell? ⟨w.heap.size, 1, none⟩ = some (.int .i64 l) ∧ v.cell? ⟨w.heap.size, 2, none⟩ = some (.int .i64 m) ∧ Below w.heap.size w v)) (by kernel_rfl) (s3_drew hS) (fun hHeld => ?_)
    refine wpAnyH_take (i := 0) (oi := ?or10_0) (v := ?vr10_0) ?ir10_0 (by kernel_rfl) (by kernel_rfl) (by kernel_rfl) (fun _ _ _ h => h) ?yr10_0 (by assumption) ?wr10_0
    case ir10_0 => (simp only [List.getElem?_toArray, List.getElem?_cons_zero]; rfl)
    case yr10_0 => exact Or.inl ⟨by rfl, by intro v hSw; (try dsimp only at hSw); go_simp; try with_reducible rfl⟩
    try simp only [Act.put, List.setIfInBounds_toArray, List.set_cons_zero, List.set_cons_succ]
    refine wpAnyH_take (i := 1) (oi := ?or10_1) (v := ?vr10_1) ?ir10_1 (by kernel_rfl) (by kernel_rfl) (by kernel_rfl) (fun _ _ _ h => h) ?yr10_1 (by assumption) ?wr10_1
    case ir10_1 => (simp only [List.getElem?_toArray, List.getElem?_cons_succ, List.getElem?_cons_zero]; rfl)
    case yr10_1 => exact Or.inl ⟨by rfl, by intro v hSw; (try dsimp only at hSw); go_simp; try with_reducible rfl⟩
    try simp only [Act.put, List.setIfInBounds_toArray, List.set_cons_zero, List.set_cons_succ]
    refine wpAnyH_ready (rs := [2]) (by kernel_rfl) (by simp) ?_
    refine AllReadyH.cons (o := ?or10_2) ?ir10_2 (fun K hK => ?sr10_2) AllReadyH.nil
    case ir10_2 => (simp only [List.getElem?_toArray, List.getElem?_cons_succ, List.getElem?_cons_zero]; rfl)
    (first | (go_simp; (first | (go_at_call 108; refine (HC.out _).mono ?_; rintro e w1 ⟨rfl, hb1⟩) | (go_at_call 168; with_reducible refine (HI.out _).mono ?_; rintro e w1 ⟨rfl, rfl⟩) | skip)))
    refine hK.out _ _ ?kr10_2 (fun hHeld => ?_)
    case kr10_2 => (try dsimp only); (first | with_reducible assumption | exact s3_bel (by assumption) (by assumption) | assumption | exact s3_alloc (by assumption) _)
    clear hK K
    try simp only [Act.put, List.setIfInBounds_toArray, List.set_cons_zero, List.set_cons_succ]
    refine wpAnyH_take (i := 3) (oi := ?or10_3) (v := ?vr10_3) ?ir10_3 (by kernel_rfl) (by kernel_rfl) (by kernel_rfl) (fun _ _ _ h => h) ?yr10_3 (by assumption) ?wr10_3
    case ir10_3 => (simp only [List.getElem?_toArray, List.getElem?_cons_succ, List.getElem?_cons_zero]; rfl)
    case yr10_3 => exact Or.inl ⟨by rfl, by intro v hSw; (try dsimp only at hSw); go_simp; try with_reducible rfl⟩
    try simp only [Act.put, List.setIfInBounds_toArray, List.set_cons_zero, List.set_cons_succ]
    refine wpAnyH_ready (rs := [4]) (by kernel_rfl) (by simp) ?_
    refine AllReadyH.cons (o := ?or10_4) ?ir10_4 (fun K hK => ?sr10_4) AllReadyH.nil
    case ir10_4 => (simp only [List.getElem?_toArray, List.getElem?_cons_succ, List.getElem?_cons_zero]; rfl)
    (first | (go_simp; (first | (go_at_call 108; refine (HC.out _).mono ?_; rintro e w1 ⟨rfl, hb1⟩) | (go_at_call 168; with_reducible refine (HI.out _).mono ?_; rintro e w1 ⟨rfl, rfl⟩) | skip)))
    refine hK.out _ _ ?kr10_4 (fun hHeld => ?_)
    case kr10_4 => (try dsimp only); (first | with_reducible assumption | exact s3_bel (by assumption) (by assumption) | assumption | exact s3_alloc (by assumption) _)
    clear hK K
    try simp only [Act.put, List.setIfInBounds_toArray, List.set_cons_zero, List.set_cons_succ]
    refine wpAnyH_take (i := 5) (oi := ?or10_5) (v := ?vr10_5) ?ir10_5 (by kernel_rfl) (by kernel_rfl) (by kernel_rfl) (fun _ _ _ h => h) ?yr10_5 (by assumption) ?wr10_5
    case ir10_5 => (simp only [List.getElem?_toArray, List.getElem?_cons_succ, List.getElem?_cons_zero]; rfl)
    case yr10_5 => exact Or.inl ⟨by rfl, by intro v hSw; (try dsimp only at hSw); go_simp; try with_reducible rfl⟩
    try simp only [Act.put, List.setIfInBounds_toArray, List.set_cons_zero, List.set_cons_succ]
    refine wpAnyH_take (i := 6) (oi := ?or10_6) (v := undef) ?ir10_6 (by kernel_rfl) (by kernel_rfl) (by kernel_rfl) (fun _ _ _ h => h) ?yr10_6 (by assumption) ?wr10_6
    case ir10_6 => (simp only [List.getElem?_toArray, List.getElem?_cons_succ, List.getElem?_cons_zero]; rfl)
    case yr10_6 => exact Or.inr ⟨by rfl, rfl⟩
    try simp only [Act.put, List.setIfInBounds_toArray, List.set_cons_zero, List.set_cons_succ]
    refine wpAnyH_take (i := 7) (oi := ?or10_7) (v := undef) ?ir10_7 (by kernel_rfl) (by kernel_rfl) (by kernel_rfl) (fun _ _ _ h => h) ?yr10_7 (by assumption) ?wr10_7
    case ir10_7 => (simp only [List.getElem?_toArray, List.getElem?_cons_succ, List.getElem?_cons_zero]; rfl)
    case yr10_7 => exact Or.inr ⟨by rfl, rfl⟩
    try simp only [Act.put, List.setIfInBounds_toArray, List.set_cons_zero, List.set_cons_succ]
    refine wpAnyH_take (i := 8) (oi := ?or10_8) (v := undef) ?ir10_8 (by kernel_rfl) (by kernel_rfl) (by kernel_rfl) (fun _ _ _ h => h) ?yr10_8 (by assumption) ?wr10_8
    case ir10_8 => (simp only [List.getElem?_toArray, List.getElem?_cons_succ, List.getElem?_cons_zero]; rfl)
    case yr10_8 => exact Or.inr ⟨by rfl, rfl⟩
    try simp only [Act.put, List.setIfInBounds_toArray, List.set_cons_zero, List.set_cons_succ]
    refine wpAnyH_take (i := 9) (oi := ?or10_9) (v := undef) ?ir10_9 (by kernel_rfl) (by kernel_rfl) (by kernel_rfl) (fun _ _ _ h => h) ?yr10_9 (by assumption) ?wr10_9
    case ir10_9 => (simp only [List.getElem?_toArray, List.getElem?_cons_succ, List.getElem?_cons_zero]; rfl)
    case yr10_9 => exact Or.inr ⟨by rfl, rfl⟩
    try simp only [Act.put, List.setIfInBounds_toArray, List.set_cons_zero, List.set_cons_succ]
    refine wpAnyH_take (i := 10) (oi := ?or10_10) (v := undef) ?ir10_10 (by kernel_rfl) (by kernel_rfl) (by kernel_rfl) (fun _ _ _ h => h) ?yr10_10 (by assumption) ?wr10_10
    case ir10_10 => (simp only [List.getElem?_toArray, List.getElem?_cons_succ, List.getElem?_cons_zero]; rfl)
    case yr10_10 => exact Or.inr ⟨by rfl, rfl⟩
    try simp only [Act.put, List.setIfInBounds_toArray, List.set_cons_zero, List.set_cons_succ]
    refine wpAnyH_take (i := 11) (oi := ?or10_11) (v := undef) ?ir10_11 (by kernel_rfl) (by kernel_rfl) (by kernel_rfl) (fun _ _ _ h => h) ?yr10_11 (by assumption) ?wr10_11
    case ir10_11 => (simp only [List.getElem?_toArray, List.getElem?_cons_succ, List.getElem?_cons_zero]; rfl)
    case yr10_11 => exact Or.inr ⟨by rfl, rfl⟩
    try simp only [Act.put, List.setIfInBounds_toArray, List.set_cons_zero, List.set_cons_succ]
    refine wpAnyH_take (i := 12) (oi := ?or10_12) (v := undef) ?ir10_12 (by kernel_rfl) (by kernel_rfl) (by kernel_rfl) (fun _ _ _ h => h) ?yr10_12 (by assumption) ?wr10_12
    case ir10_12 => (simp only [List.getElem?_toArray, List.getElem?_cons_succ, List.getElem?_cons_zero]; rfl)
    case yr10_12 => exact Or.inr ⟨by rfl, rfl⟩
    try simp only [Act.put, List.setIfInBounds_toArray, List.set_cons_zero, List.set_cons_succ]
    refine wpAnyH_take (i := 13) (oi := ?or10_13) (v := undef) ?ir10_13 (by kernel_rfl) (by kernel_rfl) (by kernel_rfl) (fun _ _ _ h => h) ?yr10_13 (by assumption) ?wr10_13
    case ir10_13 => (simp only [List.getElem?_toArray, List.getElem?_cons_succ, List.getElem?_cons_zero]; rfl)
    case yr10_13 => exact Or.inr ⟨by rfl, rfl⟩
    try simp only [Act.put, List.setIfInBounds_toArray, List.set_cons_zero, List.set_cons_succ]
    refine wpAnyH_take (i := 14) (oi := ?or10_14) (v := undef) ?ir10_14 (by kernel_rfl) (by kernel_rfl) (by kernel_rfl) (fun _ _ _ h => h) ?yr10_14 (by assumption) ?wr10_14
    case ir10_14 => (simp only [List.getElem?_toArray, List.getElem?_cons_succ, List.getElem?_cons_zero]; rfl)
    case yr10_14 => exact Or.inr ⟨by rfl, rfl⟩
    try simp only [Act.put, List.setIfInBounds_toArray, List.set_cons_zero, List.set_cons_succ]
    refine wpAnyH_take (i := 15) (oi := ?or10_15) (v := ?vr10_15) ?ir10_15 (by kernel_rfl) (by kernel_rfl) (by kernel_rfl) (fun _ _ _ h => h) ?yr10_15 (by assumption) ?wr10_15
    case ir10_15 => (simp only [List.getElem?_toArray, List.getElem?_cons_succ, List.getElem?_cons_zero]; rfl)
    case yr10_15 => exact Or.inl ⟨by rfl, by intro v hSw; (try dsimp only at hSw); go_simp; try with_reducible rfl⟩
    try simp only [Act.put, List.setIfInBounds_toArray, List.set_cons_zero, List.set_cons_succ]
    refine wpAnyH_take (i := 16) (oi := ?or10_16) (v := ?vr10_16) ?ir10_16 (by kernel_rfl) (by kernel_rfl) (by kernel_rfl) (fun _ _ _ h => h) ?yr10_16 (by assumption) ?wr10_16
    case ir10_16 => (simp only [List.getElem?_toArray, List.getElem?_cons_succ, List.getElem?_cons_zero]; rfl)
    case yr10_16 => exact Or.inl ⟨by rfl, by intro v hSw; (try dsimp only at hSw); go_simp; try with_reducible rfl⟩
    try simp only [Act.put, List.setIfInBounds_toArray, List.set_cons_zero, List.set_cons_succ]
    refine wpAnyH_done (by kernel_rfl) ?_ _
    refine NoPanic.normal ?_
    all_goals
      go_wp2
      go_ret
      exact ⟨ret_bool (by simp [HR.out]), by (repeat (first | with_reducible assumption | with_reducible exact Below.refl _ _ | with_reducible refine bel_alloc ?_ _ | with_reducible refine bel_drew ?_ | with_reducible refine bel_drewN ?_ _ | with_reducible refine bel_set ?_ (by first | omega | (simp; done) | (simp; omega)) _ | with_reducible refine bel_trans ?_ (by with_reducible assumption) | exact Below.refl _ _ | assumption | refine bel_alloc ?_ _ | refine bel_drew ?_ | refine bel_drewN ?_ _ | refine bel_set ?_ (by first | omega | (simp; done) | (simp; omega)) _ | refine bel_trans ?_ (by assumption)))⟩
  · have HI := hid (fun (v : World) => c_l1In code 0 (pow2 l - 1) v)
    have e1 : inB code 0 (pow2 l - 1) = false := by
      cases hb : inB code 0 (pow2 l - 1) with
      | false => rfl
      | true => have := inB_iff.1 hb; omega
    rw [e1] at HI
    have HI2 := hid (fun (v : World) => c_l1In code (pow2 l + 1 + 1) (pow2 l + 1 + n) v)
    have HR := hid (show inB code (pow2 l + 1 + 1) (pow2 l + 1 + n) = decide (HasW (pow2 l) code n) by
      unfold inB; rw [decide_eq_decide]; unfold HasW; omega)
    clear h1 e1
    go_enter Try.func176, Try.ntmps176
    go_wp2_with fail
    have hS := HS.out
    refine wp_region_noPanic ?_
    refine wp_region_held_drew (S := (fun v => v.cell? ⟨w.heap.size, 0, none⟩ = some (.int .i64 o) ∧ v.cell? ⟨w.heap.size, 1, none⟩ = some (.int .i64 l) ∧ v.cell? ⟨w.heap.size, 2, none⟩ = some (.int .i64 m) ∧ Below w.heap.size w v)) (by kernel_rfl) (s3_drew hS) (fun hHeld => ?_)
    refine wpAnyH_take (i := 0) (oi := ?or11_0) (v := ?vr11_0) ?ir11_0 (by kernel_rfl) (by kernel_rfl) (by kernel_rfl) (fun _ _ _ h => h) ?yr11_0 (by assumption) ?wr11_0
    case ir11_0 => (simp only [List.getElem?_toArray, List.getElem?_cons_zero]; rfl)
    case yr11_0 => exact Or.inl ⟨by rfl, by intro v hSw; (try dsimp only at hSw); go_simp; try with_reducible rfl⟩
    try simp only [Act.put, List.setIfInBounds_toArray, List.set_cons_zero, List.set_cons_succ]
    refine wpAnyH_take (i := 1) (oi := ?or11_1) (v := ?vr11_1) ?ir11_1 (by kernel_rfl) (by kernel_rfl) (by kernel_rfl) (fun _ _ _ h => h) ?yr11_1 (by assumption) ?wr11_1
    case ir11_1 => (simp only [List.getElem?_toArray, List.getElem?_cons_succ, List.getElem?_cons_zero]; rfl)
    case yr11_1 => exact Or.inl ⟨by rfl, by intro v hSw; (try dsimp only at hSw); go_simp; try with_reducible rfl⟩
    try simp only [Act.put, List.setIfInBounds_toArray, List.set_cons_zero, List.set_cons_succ]
    refine wpAnyH_ready (rs := [2]) (by kernel_rfl) (by simp) ?_
    refine AllReadyH.cons (o := ?or11_2) ?ir11_2 (fun K hK => ?sr11_2) AllReadyH.nil
    case ir11_2 => (simp only [List.getElem?_toArray, List.getElem?_cons_succ, List.getElem?_cons_zero]; rfl)
    (first | (go_simp; (first | (go_at_call 108; refine (HC.out _).mono ?_; rintro e w1 ⟨rfl, hb1⟩) | (go_at_call 126; refine (HE.out _).mono ?_; rintro e w1 ⟨rfl, hb1⟩) | (go_at_call 168; with_reducible refine (HI.out _).mono ?_; rintro e w1 ⟨rfl, rfl⟩) | (go_at_call 168; with_reducible refine (HI2.out _).mono ?_; rintro e w1 ⟨rfl, rfl⟩) | skip)))
    refine hK.out _ _ ?kr11_2 (fun hHeld => ?_)
    case kr11_2 => (try dsimp only); (first | with_reducible assumption | exact s3_bel (by assumption) (by assumption) | assumption | exact s3_alloc (by assumption) _)
    clear hK K
    try simp only [Act.put, List.setIfInBounds_toArray, List.set_cons_zero, List.set_cons_succ]
    refine wpAnyH_take (i := 3) (oi := ?or11_3) (v := ?vr11_3) ?ir11_3 (by kernel_rfl) (by kernel_rfl) (by kernel_rfl) (fun _ _ _ h => h) ?yr11_3 (by assumption) ?wr11_3
    case ir11_3 => (simp only [List.getElem?_toArray, List.getElem?_cons_succ, List.getElem?_cons_zero]; rfl)
    case yr11_3 => exact Or.inl ⟨by rfl, by intro v hSw; (try dsimp only at hSw); go_simp; try with_reducible rfl⟩
    try simp only [Act.put, List.setIfInBounds_toArray, List.set_cons_zero, List.set_cons_succ]
    refine wpAnyH_ready (rs := [4]) (by kernel_rfl) (by simp) ?_
    refine AllReadyH.cons (o := ?or11_4) ?ir11_4 (fun K hK => ?sr11_4) AllReadyH.nil
    case ir11_4 => (simp only [List.getElem?_toArray, List.getElem?_cons_succ, List.getElem?_cons_zero]; rfl)
    (first | (go_simp; (first | (go_at_call 108; refine (HC.out _).mono ?_; rintro e w1 ⟨rfl, hb1⟩) | (go_at_call 126; refine (HE.out _).mono ?_; rintro e w1 ⟨rfl, hb1⟩) | (go_at_call 168; with_reducible refine (HI.out _).mono ?_; rintro e w1 ⟨rfl, rfl⟩) | (go_at_call 168; with_reducible refine (HI2.out _).mono ?_; rintro e w1 ⟨rfl, rfl⟩) | skip)))
    refine hK.out _ _ ?kr11_4 (fun hHeld => ?_)
    case kr11_4 => (try dsimp only); (first | with_reducible assumption | exact s3_bel (by assumption) (by assumption) | assumption | exact s3_alloc (by assumption) _)
    clear hK K
    try simp only [Act.put, List.setIfInBounds_toArray, List.set_cons_zero, List.set_cons_succ]
    refine wpAnyH_take (i := 5) (oi := ?or11_5) (v := ?vr11_5) ?ir11_5 (by kernel_rfl) (by kernel_rfl) (by kernel_rfl) (fun _ _ _ h => h) ?yr11_5 (by assumption) ?wr11_5
    case ir11_5 => (simp only [List.getElem?_toArray, List.getElem?_cons_succ, List.getElem?_cons_zero]; rfl)
    case yr11_5 => exact Or.inl ⟨by rfl, by intro v hSw; (try dsimp only at hSw); go_simp; try with_reducible rfl⟩
    try simp only [Act.put, List.setIfInBounds_toArray, List.set_cons_zero, List.set_cons_succ]
    refine wpAnyH_take (i := 6) (oi := ?or11_6) (v := ?vr11_6) ?ir11_6 (by kernel_rfl) (by kernel_rfl) (by kernel_rfl) (fun _ _ _ h => h) ?yr11_6 (by assumption) ?wr11_6
    case ir11_6 => (simp only [List.getElem?_toArray, List.getElem?_cons_succ, List.getElem?_cons_zero]; rfl)
    case yr11_6 => exact Or.inl ⟨by rfl, by intro v hSw; (try dsimp only at hSw); go_simp; try with_reducible rfl⟩
    try simp only [Act.put, List.setIfInBounds_toArray, List.set_cons_zero, List.set_cons_succ]
    refine wpAnyH_take (i := 7) (oi := ?or11_7) (v := ?vr11_7) ?ir11_7 (by kernel_rfl) (by kernel_rfl) (by kernel_rfl) (fun _ _ _ h => h) ?yr11_7 (by assumption) ?wr11_7
    case ir11_7 => (simp only [List.getElem?_toArray, List.getElem?_cons_succ, List.getElem?_cons_zero]; rfl)
    case yr11_7 => exact Or.inl ⟨by rfl, by intro v hSw; (try dsimp only at hSw); go_simp; try with_reducible rfl⟩
    try simp only [Act.put, List.setIfInBounds_toArray, List.set_cons_zero, List.set_cons_succ]
    refine wpAnyH_take (i := 10) (oi := ?or11_10) (v := ?vr11_10) ?ir11_10 (by kernel_rfl) (by kernel_rfl) (by kernel_rfl) (fun _ _ _ h => h) ?yr11_10 (by assumption) ?wr11_10
    case ir11_10 => (simp only [List.getElem?_toArray, List.getElem?_cons_succ, List.getElem?_cons_zero]; rfl)
    case yr11_10 => exact Or.inl ⟨by rfl, by intro v hSw; (try dsimp only at hSw); go_simp; try with_reducible rfl⟩
    try simp only [Act.put, List.setIfInBounds_toArray, List.set_cons_zero, List.set_cons_succ]
    refine wpAnyH_take (i := 12) (oi := ?or11_12) (v := ?vr11_12) ?ir11_12 (by kernel_rfl) (by kernel_rfl) (by kernel_rfl) (fun _ _ _ h => h) ?yr11_12 (by assumption) ?wr11_12
    case ir11_12 => (simp only [List.getElem?_toArray, List.getElem?_cons_succ, List.getElem?_cons_zero]; rfl)
    case yr11_12 => exact Or.inl ⟨by rfl, by intro v hSw; (try dsimp only at hSw); go_simp; try with_reducible rfl⟩
    try simp only [Act.put, List.setIfInBounds_toArray, List.set_cons_zero, List.set_cons_succ]
    refine wpAnyH_ready (rs := [8]) (by kernel_rfl) (by simp) ?_
    refine AllReadyH.cons (o := ?or11_8) ?ir11_8 (fun K hK => ?sr11_8) AllReadyH.nil
    case ir11_8 => (simp only [List.getElem?_toArray, List.getElem?_cons_succ, List.getElem?_cons_zero]; rfl)
    (first | (go_simp; (first | (go_at_call 108; refine (HC.out _).mono ?_; rintro e w1 ⟨rfl, hb1⟩) | (go_at_call 126; refine (HE.out _).mono ?_; rintro e w1 ⟨rfl, hb1⟩) | (go_at_call 168; with_reducible refine (HI.out _).mono ?_; rintro e w1 ⟨rfl, rfl⟩) | (go_at_call 168; with_reducible refine (HI2.out _).mono ?_; rintro e w1 ⟨rfl, rfl⟩) | skip)))
    refine hK.out _ _ ?kr11_8 (fun hHeld => ?_)
    case kr11_8 => (try dsimp only); (first | with_reducible assumption | exact s3_bel (by assumption) (by assumption) | assumption | exact s3_alloc (by assumption) _)
    clear hK K
    try simp only [Act.put, List.setIfInBounds_toArray, List.set_cons_zero, List.set_cons_succ]
    refine wpAnyH_take (i := 9) (oi := ?or11_9) (v := ?vr11_9) ?ir11_9 (by kernel_rfl) (by kernel_rfl) (by kernel_rfl) (fun _ _ _ h => h) ?yr11_9 (by assumption) ?wr11_9
    case ir11_9 => (simp only [List.getElem?_toArray, List.getElem?_cons_succ, List.getElem?_cons_zero]; rfl)
    case yr11_9 => exact Or.inl ⟨by rfl, by intro v hSw; (try dsimp only at hSw); go_simp; try with_reducible rfl⟩
    try simp only [Act.put, List.setIfInBounds_toArray, List.set_cons_zero, List.set_cons_succ]
    refine wpAnyH_ready (rs := [11]) (by kernel_rfl) (by simp) ?_
    refine AllReadyH.cons (o := ?or11_11) ?ir11_11 (fun K hK => ?sr11_11) AllReadyH.nil
    case ir11_11 => (simp only [List.getElem?_toArray, List.getElem?_cons_succ, List.getElem?_cons_zero]; rfl)
    (first | (go_simp; (first | (go_at_call 108; refine (HC.out _).mono ?_; rintro e w1 ⟨rfl, hb1⟩) | (go_at_call 126; refine (HE.out _).mono ?_; rintro e w1 ⟨rfl, hb1⟩) | (go_at_call 168; with_reducible refine (HI.out _).mono ?_; rintro e w1 ⟨rfl, rfl⟩) | (go_at_call 168; with_reducible refine (HI2.out _).mono ?_; rintro e w1 ⟨rfl, rfl⟩) | skip)))
    refine hK.out _ _ ?kr11_11 (fun hHeld => ?_)
    case kr11_11 => (try dsimp only); (first | with_reducible assumption | exact s3_bel (by assumption) (by assumption) | assumption | exact s3_alloc (by assumption) _)
    clear hK K
    try simp only [Act.put, List.setIfInBounds_toArray, List.set_cons_zero, List.set_cons_succ]
    refine wpAnyH_take (i := 13) (oi := ?or11_13) (v := ?vr11_13) ?ir11_13 (by kernel_rfl) (by kernel_rfl) (by kernel_rfl) (fun _ _ _ h => h) ?yr11_13 (by assumption) ?wr11_13
    case ir11_13 => (simp only [List.getElem?_toArray, List.getElem?_cons_succ, List.getElem?_cons_zero]; rfl)
    case yr11_13 => exact Or.inl ⟨by rfl, by intro v hSw; (try dsimp only at hSw); go_simp; try with_reducible rfl⟩
    try simp only [Act.put, List.setIfInBounds_toArray, List.set_cons_zero, List.set_cons_succ]
    refine wpAnyH_ready (rs := [14]) (by kernel_rfl) (by simp) ?_
    refine AllReadyH.cons (o := ?or11_14) ?ir11_14 (fun K hK => ?sr11_14) AllReadyH.nil
    case ir11_14 => (simp only [List.getElem?_toArray, List.getElem?_cons_succ, List.getElem?_cons_zero]; rfl)
    (first | (go_simp; (first | (go_at_call 108; refine (HC.out _).mono ?_; rintro e w1 ⟨rfl, hb1⟩) | (go_at_call 126; refine (HE.out _).mono ?_; rintro e w1 ⟨rfl, hb1⟩) | (go_at_call 168; with_reducible refine (HI.out _).mono ?_; rintro e w1 ⟨rfl, rfl⟩) | (go_at_call 168; with_reducible refine (HI2.out _).mono ?_; rintro e w1 ⟨rfl, rfl⟩) | skip)))
    refine hK.out _ _ ?kr11_14 (fun hHeld => ?_)
    case kr11_14 => (try dsimp only); (first | with_reducible assumption | exact s3_bel (by assumption) (by assumption) | assumption | exact s3_alloc (by assumption) _)
    clear hK K
    try simp only [Act.put, List.setIfInBounds_toArray, List.set_cons_zero, List.set_cons_succ]
    refine wpAnyH_take (i := 15) (oi := ?or11_15) (v := ?vr11_15) ?ir11_15 (by kernel_rfl) (by kernel_rfl) (by kernel_rfl) (fun _ _ _ h => h) ?yr11_15 (by assumption) ?wr11_15
    case ir11_15 => (simp only [List.getElem?_toArray, List.getElem?_cons_succ, List.getElem?_cons_zero]; rfl)
    case yr11_15 => exact Or.inl ⟨by rfl, by intro v hSw; (try dsimp only at hSw); go_simp; try with_reducible rfl⟩
    try simp only [Act.put, List.setIfInBounds_toArray, List.set_cons_zero, List.set_cons_succ]
    refine wpAnyH_take (i := 16) (oi := ?or11_16) (v := ?vr11_16) ?ir11_16 (by kernel_rfl) (by kernel_rfl) (by kernel_rfl) (fun _ _ _ h => h) ?yr11_16 (by assumption) ?wr11_16
    case ir11_16 => (simp only [List.getElem?_toArray, List.getElem?_cons_succ, List.getElem?_cons_zero]; rfl)
    case yr11_16 => exact Or.inl ⟨by rfl, by intro v hSw; (try dsimp only at hSw); go_simp; try with_reducible rfl⟩
    try simp only [Act.put, List.setIfInBounds_toArray, List.set_cons_zero, List.set_cons_succ]
    refine wpAnyH_done (by kernel_rfl) ?_ _
    refine NoPanic.normal ?_
    all_goals
      go_wp2
      go_ret
      exact ⟨ret_bool HR.out, by (repeat (first | with_reducible assumption | with_reducible exact Below.refl _ _ | with_reducible refine bel_alloc ?_ _ | with_reducible refine bel_drew ?_ | with_reducible refine bel_drewN ?_ _ | with_reducible refine bel_set ?_ (by first | omega | (simp; done) | (simp; omega)) _ | with_reducible refine bel_trans ?_ (by with_reducible assumption) | exact Below.refl _ _ | assumption | refine bel_alloc ?_ _ | refine bel_drew ?_ | refine bel_drewN ?_ _ | refine bel_set ?_ (by first | omega | (simp; done) | (simp; omega)) _ | refine bel_trans ?_ (by assumption)))⟩

/-- the model's box of what is known, and its copy of the setting -/
def Box9 (w v : World) (k : Kn) (A : Option Addr) (cap : Nat) : Prop := v.cell? ⟨w.heap.size, 0, none⟩ = some (.int .i64 k.o) ∧ v.cell? ⟨w.heap.size, 1, none⟩ = some (.int .i64 k.l) ∧ v.cell? ⟨w.heap.size, 2, none⟩ = some (.int .i64 k.m) ∧ v.cell? ⟨w.heap.size, 3, none⟩ = some (.slice A k.ps.length cap) ∧ v.cell? ⟨w.heap.size, 4, none⟩ = some (.int .i64 k.base) ∧ v.cell? ⟨w.heap.size, 5, none⟩ = some (.int .i64 k.last) ∧ v.cell? ⟨w.heap.size + 1, 0, none⟩ = some (.int .i64 k.o) ∧ v.cell? ⟨w.heap.size + 1, 1, none⟩ = some (.int .i64 k.l) ∧ v.cell? ⟨w.heap.size + 1, 2, none⟩ = some (.int .i64 k.m) ∧ Below w.heap.size w v
theorem Box9.on {w v v' : World} {k : Kn} {A : Option Addr} {cap : Nat} (h : Box9 w v k A cap) (hb : Below v.heap.size v v') : Box9 w v' k A cap := s9_bel hb h

set_option maxHeartbeats 1000000 in
theorem c_sKnownValid_gen (k : Kn) (A : Option Addr) (cap L i0 : Nat) (w : World) (h : PsAt w L A cap k.ps) (hL : L ≤ w.heap.size) (hw : k.Wf) (hi : FirstBad k.c k.ps i0) :
    Calls Try.prog 112 #[.agg #[.int .i64 k.o, .int .i64 k.l, .int .i64 k.m, .slice A k.ps.length cap, .int .i64 k.base, .int .i64 k.last]] w fun e w' => e = .returned (.bool (kB k i0)) ∧ Below w.heap.size w w' := by
  have HH := hid h
  have HF := hid hi
  have hi0 := hi.1
  have hlen := hw.len
  obtain ⟨hbase1, hbase2⟩ := hw.base
  obtain ⟨hlast1, hlast2⟩ := hw.last
  clear h hi hw
  have HB0 : Box9 w (((w.alloc (.cells #[.int .i64 k.o, .int .i64 k.l, .int .i64 k.m, .slice A k.ps.length cap, .int .i64 k.base, .int .i64 k.last] 28)).alloc (.cells #[.int .i64 k.o, .int .i64 k.l, .int .i64 k.m] 24))) k A cap := by
    have k6 := ((Blk.new w 28 #[.int .i64 k.o, .int .i64 k.l, .int .i64 k.m, .slice A k.ps.length cap, .int .i64 k.base, .int .i64 k.last]).alloc (.cells #[.int .i64 k.o, .int .i64 k.l, .int .i64 k.m] 24)).cells6
    have k3 := (Blk.top w (.cells #[.int .i64 k.o, .int .i64 k.l, .int .i64 k.m, .slice A k.ps.length cap, .int .i64 k.base, .int .i64 k.last] 28) 24 #[.int .i64 k.o, .int .i64 k.l, .int .i64 k.m]).cells3
    exact ⟨k6.1, k6.2.1, k6.2.2.1, k6.2.2.2.1, k6.2.2.2.2.1, k6.2.2.2.2.2, k3.1, k3.2.1, k3.2.2, bel_alloc (bel_alloc (Below.refl _ w) _) _⟩
  have HV := hid (fun (v : World) => c_sSettingValid k.o k.l k.m v)
  have HB0 := hid HB0
  cases hs : setOk k.o k.l k.m with
  | false =>
    rw [hs] at HV
    have HR := hid (show kB k i0 = false by simp [kB, hs])
    clear hs
    go_enter Try.func112, Try.ntmps112
    go_wp2_with fail
    have hS := HB0.out
    refine wp_region_noPanic ?_
    refine wp_region_held_drew (S := (fun v => v.cell? ⟨w.heap.size, 0, none⟩ = some (.int .i64 k.o) ∧ v.cell? ⟨w.heap.size, 1, none⟩ = some (.int .i64 k.l) ∧ v.cell? ⟨w.heap.size, 2, none⟩ = some (.int .i64 k.m) ∧ v.cell? ⟨w.heap.size, 3, none⟩ = some (.slice A k.ps.length cap) ∧ v.cell? ⟨w.heap.size, 4, none⟩ = some (.int .i64 k.base) ∧ v.cell? ⟨w.heap.size, 5, none⟩ = some (.int .i64 k.last) ∧ v.cell? ⟨w.heap.size + 1, 0, none⟩ = some (.int .i64 k.o) ∧ v.cell? ⟨w.heap.size + 1, 1, none⟩ = some (.int .i64 k.l) ∧ v.cell? ⟨w.heap.size + 1, 2, none⟩ = some (.int .i64 k.m) ∧ Below w.heap.size w v)) (by kernel_rfl) (s9_drew hS) (fun hHeld => ?_)
    refine wpAnyH_take (i := 0) (oi := ?or12_0) (v := ?vr12_0) ?ir12_0 (by kernel_rfl) (by kernel_rfl) (by kernel_rfl) (fun _ _ _ h => h) ?yr12_0 (by assumption) ?wr12_0
    case ir12_0 => (simp only [List.getElem?_toArray, List.getElem?_cons_zero]; rfl)
    case yr12_0 => exact Or.inl ⟨by rfl, by intro v hSw; (try dsimp only at hSw); go_simp; try with_reducible rfl⟩
    try simp only [Act.put, List.setIfInBounds_toArray, List.set_cons_zero, List.set_cons_succ]
    refine wpAnyH_ready (rs := [1]) (by kernel_rfl) (by simp) ?_
    refine AllReadyH.cons (o := ?or12_1) ?ir12_1 (fun K hK => ?sr12_1) AllReadyH.nil
    case ir12_1 => (simp only [List.getElem?_toArray, List.getElem?_cons_succ, List.getElem?_cons_zero]; rfl)
    (first | (go_simp; (first | (go_at_call 100; refine (HV.out _).mono ?_; rintro e w1 ⟨rfl, hb1⟩) | (go_at_call 175; refine (HC.out _).mono ?_; rintro e w1 ⟨rfl, hb1⟩) | (go_at_call 126; refine (HE.out _).mono ?_; rintro e w1 ⟨rfl, hb1⟩) | (go_at_call 168; with_reducible refine (HI.out _).mono ?_; rintro e w1 ⟨rfl, rfl⟩) | skip)))
    refine hK.out _ _ ?kr12_1 (fun hHeld => ?_)
    case kr12_1 => (try dsimp only); (first | with_reducible assumption | exact s9_bel (by assumption) (by assumption) | assumption | exact s9_alloc (by assumption) _)
    clear hK K
    try simp only [Act.put, List.setIfInBounds_toArray, List.set_cons_zero, List.set_cons_succ]
    refine wpAnyH_take (i := 2) (oi := ?or12_2) (v := ?vr12_2) ?ir12_2 (by kernel_rfl) (by kernel_rfl) (by kernel_rfl) (fun _ _ _ h => h) ?yr12_2 (by assumption) ?wr12_2
    case ir12_2 => (simp only [List.getElem?_toArray, List.getElem?_cons_succ, List.getElem?_cons_zero]; rfl)
    case yr12_2 => exact Or.inl ⟨by rfl, by intro v hSw; (try dsimp only at hSw); go_simp; try with_reducible rfl⟩
    try simp only [Act.put, List.setIfInBounds_toArray, List.set_cons_zero, List.set_cons_succ]
    refine wpAnyH_take (i := 3) (oi := ?or12_3) (v := ?vr12_3) ?ir12_3 (by kernel_rfl) (by kernel_rfl) (by kernel_rfl) (fun _ _ _ h => h) ?yr12_3 (by assumption) ?wr12_3
    case ir12_3 => (simp only [List.getElem?_toArray, List.getElem?_cons_succ, List.getElem?_cons_zero]; rfl)
    case yr12_3 => exact Or.inl ⟨by rfl, by intro v hSw; (try dsimp only at hSw); go_simp; try with_reducible rfl⟩
    try simp only [Act.put, List.setIfInBounds_toArray, List.set_cons_zero, List.set_cons_succ]
    refine wpAnyH_take (i := 4) (oi := ?or12_4) (v := undef) ?ir12_4 (by kernel_rfl) (by kernel_rfl) (by kernel_rfl) (fun _ _ _ h => h) ?yr12_4 (by assumption) ?wr12_4
    case ir12_4 => (simp only [List.getElem?_toArray, List.getElem?_cons_succ, List.getElem?_cons_zero]; rfl)
    case yr12_4 => exact Or.inr ⟨by rfl, rfl⟩
    try simp only [Act.put, List.setIfInBounds_toArray, List.set_cons_zero, List.set_cons_succ]
    refine wpAnyH_take (i := 5) (oi := ?or12_5) (v := undef) ?ir12_5 (by kernel_rfl) (by kernel_rfl) (by kernel_rfl) (fun _ _ _ h => h) ?yr12_5 (by assumption) ?wr12_5
    case ir12_5 => (simp only [List.getElem?_toArray, List.getElem?_cons_succ, List.getElem?_cons_zero]; rfl)
    case yr12_5 => exact Or.inr ⟨by rfl, rfl⟩
    try simp only [Act.put, List.setIfInBounds_toArray, List.set_cons_zero, List.set_cons_succ]
    refine wpAnyH_take (i := 6) (oi := ?or12_6) (v := undef) ?ir12_6 (by kernel_rfl) (by kernel_rfl) (by kernel_rfl) (fun _ _ _ h => h) ?yr12_6 (by assumption) ?wr12_6
    case ir12_6 => (simp only [List.getElem?_toArray, List.getElem?_cons_succ, List.getElem?_cons_zero]; rfl)
    case yr12_6 => exact Or.inr ⟨by rfl, rfl⟩
    try simp only [Act.put, List.setIfInBounds_toArray, List.set_cons_zero, List.set_cons_succ]
    refine wpAnyH_take (i := 7) (oi := ?or12_7) (v := undef) ?ir12_7 (by kernel_rfl) (by kernel_rfl) (by kernel_rfl) (fun _ _ _ h => h) ?yr12_7 (by assumption) ?wr12_7
    case ir12_7 => (simp only [List.getElem?_toArray, List.getElem?_cons_succ, List.getElem?_cons_zero]; rfl)
    case yr12_7 => exact Or.inr ⟨by rfl, rfl⟩
    try simp only [Act.put, List.setIfInBounds_toArray, List.set_cons_zero, List.set_cons_succ]
    refine wpAnyH_take (i := 8) (oi := ?or12_8) (v := undef) ?ir12_8 (by kernel_rfl) (by kernel_rfl) (by kernel_rfl) (fun _ _ _ h => h) ?yr12_8 (by assumption) ?wr12_8
    case ir12_8 => (simp only [List.getElem?_toArray, List.getElem?_cons_succ, List.getElem?_cons_zero]; rfl)
    case yr12_8 => exact Or.inr ⟨by rfl, rfl⟩
    try simp only [Act.put, List.setIfInBounds_toArray, List.set_cons_zero, List.set_cons_succ]
    refine wpAnyH_take (i := 9) (oi := ?or12_9) (v := undef) ?ir12_9 (by kernel_rfl) (by kernel_rfl) (by kernel_rfl) (fun _ _ _ h => h) ?yr12_9 (by assumption) ?wr12_9
    case ir12_9 => (simp only [List.getElem?_toArray, List.getElem?_cons_succ, List.getElem?_cons_zero]; rfl)
    case yr12_9 => exact Or.inr ⟨by rfl, rfl⟩
    try simp only [Act.put, List.setIfInBounds_toArray, List.set_cons_zero, List.set_cons_succ]
    refine wpAnyH_take (i := 10) (oi := ?or12_10) (v := undef) ?ir12_10 (by kernel_rfl) (by kernel_rfl) (by kernel_rfl) (fun _ _ _ h => h) ?yr12_10 (by assumption) ?wr12_10
    case ir12_10 => (simp only [List.getElem?_toArray, List.getElem?_cons_succ, List.getElem?_cons_zero]; rfl)
    case yr12_10 => exact Or.inr ⟨by rfl, rfl⟩
    try simp only [Act.put, List.setIfInBounds_toArray, List.set_cons_zero, List.set_cons_succ]
    refine wpAnyH_take (i := 11) (oi := ?or12_11) (v := undef) ?ir12_11 (by kernel_rfl) (by kernel_rfl) (by kernel_rfl) (fun _ _ _ h => h) ?yr12_11 (by assumption) ?wr12_11
    case ir12_11 => (simp only [List.getElem?_toArray, List.getElem?_cons_succ, List.getElem?_cons_zero]; rfl)
    case yr12_11 => exact Or.inr ⟨by rfl, rfl⟩
    try simp only [Act.put, List.setIfInBounds_toArray, List.set_cons_zero, List.set_cons_succ]
    refine wpAnyH_take (i := 12) (oi := ?or12_12) (v := undef) ?ir12_12 (by kernel_rfl) (by kernel_rfl) (by kernel_rfl) (fun _ _ _ h => h) ?yr12_12 (by assumption) ?wr12_12
    case ir12_12 => (simp only [List.getElem?_toArray, List.getElem?_cons_succ, List.getElem?_cons_zero]; rfl)
    case yr12_12 => exact Or.inr ⟨by rfl, rfl⟩
    try simp only [Act.put, List.setIfInBounds_toArray, List.set_cons_zero, List.set_cons_succ]
    refine wpAnyH_take (i := 13) (oi := ?or12_13) (v := ?vr12_13) ?ir12_13 (by kernel_rfl) (by kernel_rfl) (by kernel_rfl) (fun _ _ _ h => h) ?yr12_13 (by assumption) ?wr12_13
    case ir12_13 => (simp only [List.getElem?_toArray, List.getElem?_cons_succ, List.getElem?_cons_zero]; rfl)
    case yr12_13 => exact Or.inl ⟨by rfl, by intro v hSw; (try dsimp only at hSw); go_simp; try with_reducible rfl⟩
    try simp only [Act.put, List.setIfInBounds_toArray, List.set_cons_zero, List.set_cons_succ]
    refine wpAnyH_take (i := 14) (oi := ?or12_14) (v := ?vr12_14) ?ir12_14 (by kernel_rfl) (by kernel_rfl) (by kernel_rfl) (fun _ _ _ h => h) ?yr12_14 (by assumption) ?wr12_14
    case ir12_14 => (simp only [List.getElem?_toArray, List.getElem?_cons_succ, List.getElem?_cons_zero]; rfl)
    case yr12_14 => exact Or.inl ⟨by rfl, by intro v hSw; (try dsimp only at hSw); go_simp; try with_reducible rfl⟩
    try simp only [Act.put, List.setIfInBounds_toArray, List.set_cons_zero, List.set_cons_succ]
    refine wpAnyH_take (i := 15) (oi := ?or12_15) (v := undef) ?ir12_15 (by kernel_rfl) (by kernel_rfl) (by kernel_rfl) (fun _ _ _ h => h) ?yr12_15 (by assumption) ?wr12_15
    case ir12_15 => (simp only [List.getElem?_toArray, List.getElem?_cons_succ, List.getElem?_cons_zero]; rfl)
    case yr12_15 => exact Or.inr ⟨by rfl, rfl⟩
    try simp only [Act.put, List.setIfInBounds_toArray, List.set_cons_zero, List.set_cons_succ]
    refine wpAnyH_take (i := 16) (oi := ?or12_16) (v := undef) ?ir12_16 (by kernel_rfl) (by kernel_rfl) (by kernel_rfl) (fun _ _ _ h => h) ?yr12_16 (by assumption) ?wr12_16
    case ir12_16 => (simp only [List.getElem?_toArray, List.getElem?_cons_succ, List.getElem?_cons_zero]; rfl)
    case yr12_16 => exact Or.inr ⟨by rfl, rfl⟩
    try simp only [Act.put, List.setIfInBounds_toArray, List.set_cons_zero, List.set_cons_succ]
    refine wpAnyH_take (i := 17) (oi := ?or12_17) (v := undef) ?ir12_17 (by kernel_rfl) (by kernel_rfl) (by kernel_rfl) (fun _ _ _ h => h) ?yr12_17 (by assumption) ?wr12_17
    case ir12_17 => (simp only [List.getElem?_toArray, List.getElem?_cons_succ, List.getElem?_cons_zero]; rfl)
    case yr12_17 => exact Or.inr ⟨by rfl, rfl⟩
    try simp only [Act.put, List.setIfInBounds_toArray, List.set_cons_zero, List.set_cons_succ]
    refine wpAnyH_take (i := 18) (oi := ?or12_18) (v := undef) ?ir12_18 (by kernel_rfl) (by kernel_rfl) (by kernel_rfl) (fun _ _ _ h => h) ?yr12_18 (by assumption) ?wr12_18
    case ir12_18 => (simp only [List.getElem?_toArray, List.getElem?_cons_succ, List.getElem?_cons_zero]; rfl)
    case yr12_18 => exact Or.inr ⟨by rfl, rfl⟩
    try simp only [Act.put, List.setIfInBounds_toArray, List.set_cons_zero, List.set_cons_succ]
    refine wpAnyH_take (i := 19) (oi := ?or12_19) (v := undef) ?ir12_19 (by kernel_rfl) (by kernel_rfl) (by kernel_rfl) (fun _ _ _ h => h) ?yr12_19 (by assumption) ?wr12_19
    case ir12_19 => (simp only [List.getElem?_toArray, List.getElem?_cons_succ, List.getElem?_cons_zero]; rfl)
    case yr12_19 => exact Or.inr ⟨by rfl, rfl⟩
    try simp only [Act.put, List.setIfInBounds_toArray, List.set_cons_zero, List.set_cons_succ]
    refine wpAnyH_take (i := 20) (oi := ?or12_20) (v := undef) ?ir12_20 (by kernel_rfl) (by kernel_rfl) (by kernel_rfl) (fun _ _ _ h => h) ?yr12_20 (by assumption) ?wr12_20
    case ir12_20 => (simp only [List.getElem?_toArray, List.getElem?_cons_succ, List.getElem?_cons_zero]; rfl)
    case yr12_20 => exact Or.inr ⟨by rfl, rfl⟩
    try simp only [Act.put, List.setIfInBounds_toArray, List.set_cons_zero, List.set_cons_succ]
    refine wpAnyH_take (i := 21) (oi := ?or12_21) (v := undef) ?ir12_21 (by kernel_rfl) (by kernel_rfl) (by kernel_rfl) (fun _ _ _ h => h) ?yr12_21 (by assumption) ?wr12_21
    case ir12_21 => (simp only [List.getElem?_toArray, List.getElem?_cons_succ, List.getElem?_cons_zero]; rfl)
    case yr12_21 => exact Or.inr ⟨by rfl, rfl⟩
    try simp only [Act.put, List.setIfInBounds_toArray, List.set_cons_zero, List.set_cons_succ]
    refine wpAnyH_take (i := 22) (oi := ?or12_22) (v := ?vr12_22) ?ir12_22 (by kernel_rfl) (by kernel_rfl) (by kernel_rfl) (fun _ _ _ h => h) ?yr12_22 (by assumption) ?wr12_22
    case ir12_22 => (simp only [List.getElem?_toArray, List.getElem?_cons_succ, List.getElem?_cons_zero]; rfl)
    case yr12_22 => exact Or.inl ⟨by rfl, by intro v hSw; (try dsimp only at hSw); go_simp; try with_reducible rfl⟩
    try simp only [Act.put, List.setIfInBounds_toArray, List.set_cons_zero, List.set_cons_succ]
    refine wpAnyH_done (by kernel_rfl) ?_ _
    refine NoPanic.normal ?_
    go_wp2
    go_ret
    exact ⟨ret_bool HR.out.symm, by (repeat (first | with_reducible assumption | with_reducible exact Below.refl _ _ | with_reducible refine bel_alloc ?_ _ | with_reducible refine bel_drew ?_ | with_reducible refine bel_drewN ?_ _ | with_reducible refine bel_set ?_ (by first | omega | (simp; done) | (simp; omega)) _ | with_reducible refine bel_trans ?_ (by with_reducible assumption) | exact Below.refl _ _ | assumption | refine bel_alloc ?_ _ | refine bel_drew ?_ | refine bel_drewN ?_ _ | refine bel_set ?_ (by first | omega | (simp; done) | (simp; omega)) _ | refine bel_trans ?_ (by assumption)))⟩
  | true =>
    rw [hs] at HV
    have hp := set_bd hs
    obtain ⟨_, ⟨hl1, hl2⟩, hm1, hm2⟩ := setOk_iff.1 hs
    have HC := hid (fun (v : World) => c_l1Last k.o k.l k.m v (by omega) (by omega))
    have HE := hid (fun (v : World) => c_l1End k.o k.l k.m v (by omega) (by omega))
    have ew : IntKind.i64.wrap (pow2 k.m - 1 - (pow2 k.l + 1)) = pow2 k.m - 1 - (pow2 k.l + 1) := IntWalk.i64_in _ (by omega)
    have HI := hid (fun (v : World) => c_l1In k.base 0 k.ps.length v)
    cases hr : room k with
    | false =>
      have HR := hid (show kB k i0 = false by simp [kB, hr])
      have hr3 : decide (pow2 k.m - 1 - (pow2 k.l + 1) < (k.ps.length : Int)) = true := by simp [room] at hr; simp; omega
      clear hr
      go_enter Try.func112, Try.ntmps112
      go_wp2_with fail
      have hS := HB0.out
      refine wp_region_noPanic ?_
      refine wp_region_held_drew (S := (fun v => v.cell? ⟨w.heap.size, 0, none⟩ = some (.int .i64 k.o) ∧ v.cell? ⟨w.heap.size, 1, none⟩ = some (.int .i64 k.l) ∧ v.cell? ⟨w.heap.size, 2, none⟩ = some (.int .i64 k.m) ∧ v.cell? ⟨w.heap.size, 3, none⟩ = some (.slice A k.ps.length cap) ∧ v.cell? ⟨w.heap.size, 4, none⟩ = some (.int .i64 k.base) ∧ v.cell? ⟨w.heap.size, 5, none⟩ = some (.int .i64 k.last) ∧ v.cell? ⟨w.heap.size + 1, 0, none⟩ = some (.int .i64 k.o) ∧ v.cell? ⟨w.heap.size + 1, 1, none⟩ = some (.int .i64 k.l) ∧ v.cell? ⟨w.heap.size + 1, 2, none⟩ = some (.int .i64 k.m) ∧ Below w.heap.size w v)) (by kernel_rfl) (s9_drew hS) (fun hHeld => ?_)
      refine wpAnyH_take (i := 0) (oi := ?or13_0) (v := ?vr13_0) ?ir13_0 (by kernel_rfl) (by kernel_rfl) (by kernel_rfl) (fun _ _ _ h => h) ?yr13_0 (by assumption) ?wr13_0
      case ir13_0 => (simp only [List.getElem?_toArray, List.getElem?_cons_zero]; rfl)
      case yr13_0 => exact Or.inl ⟨by rfl, by intro v hSw; (try dsimp only at hSw); go_simp; try with_reducible rfl⟩
      try simp only [Act.put, List.setIfInBounds_toArray, List.set_cons_zero, List.set_cons_succ]
      refine wpAnyH_ready (rs := [1]) (by kernel_rfl) (by simp) ?_
      refine AllReadyH.cons (o := ?or13_1) ?ir13_1 (fun K hK => ?sr13_1) AllReadyH.nil
      case ir13_1 => (simp only [List.getElem?_toArray, List.getElem?_cons_succ, List.getElem?_cons_zero]; rfl)
      (first | (go_simp; (first | (go_at_call 100; refine (HV.out _).mono ?_; rintro e w1 ⟨rfl, hb1⟩) | (go_at_call 175; refine (HC.out _).mono ?_; rintro e w1 ⟨rfl, hb1⟩) | (go_at_call 126; refine (HE.out _).mono ?_; rintro e w1 ⟨rfl, hb1⟩) | (go_at_call 168; with_reducible refine (HI.out _).mono ?_; rintro e w1 ⟨rfl, rfl⟩) | skip)))
      refine hK.out _ _ ?kr13_1 (fun hHeld => ?_)
      case kr13_1 => (try dsimp only); (first | with_reducible assumption | exact s9_bel (by assumption) (by assumption) | assumption | exact s9_alloc (by assumption) _)
      clear hK K
      try simp only [Act.put, List.setIfInBounds_toArray, List.set_cons_zero, List.set_cons_succ]
      refine wpAnyH_take (i := 2) (oi := ?or13_2) (v := ?vr13_2) ?ir13_2 (by kernel_rfl) (by kernel_rfl) (by kernel_rfl) (fun _ _ _ h => h) ?yr13_2 (by assumption) ?wr13_2
      case ir13_2 => (simp only [List.getElem?_toArray, List.getElem?_cons_succ, List.getElem?_cons_zero]; rfl)
      case yr13_2 => exact Or.inl ⟨by rfl, by intro v hSw; (try dsimp only at hSw); go_simp; try with_reducible rfl⟩
      try simp only [Act.put, List.setIfInBounds_toArray, List.set_cons_zero, List.set_cons_succ]
      refine wpAnyH_take (i := 3) (oi := ?or13_3) (v := ?vr13_3) ?ir13_3 (by kernel_rfl) (by kernel_rfl) (by kernel_rfl) (fun _ _ _ h => h) ?yr13_3 (by assumption) ?wr13_3
      case ir13_3 => (simp only [List.getElem?_toArray, List.getElem?_cons_succ, List.getElem?_cons_zero]; rfl)
      case yr13_3 => exact Or.inl ⟨by rfl, by intro v hSw; (try dsimp only at hSw); go_simp; try with_reducible rfl⟩
      try simp only [Act.put, List.setIfInBounds_toArray, List.set_cons_zero, List.set_cons_succ]
      refine wpAnyH_take (i := 4) (oi := ?or13_4) (v := ?vr13_4) ?ir13_4 (by kernel_rfl) (by kernel_rfl) (by kernel_rfl) (fun _ _ _ h => h) ?yr13_4 (by assumption) ?wr13_4
      case ir13_4 => (simp only [List.getElem?_toArray, List.getElem?_cons_succ, List.getElem?_cons_zero]; rfl)
      case yr13_4 => exact Or.inl ⟨by rfl, by intro v hSw; (try dsimp only at hSw); go_simp; try with_reducible rfl⟩
      try simp only [Act.put, List.setIfInBounds_toArray, List.set_cons_zero, List.set_cons_succ]
      refine wpAnyH_take (i := 5) (oi := ?or13_5) (v := ?vr13_5) ?ir13_5 (by kernel_rfl) (by kernel_rfl) (by kernel_rfl) (fun _ _ _ h => h) ?yr13_5 (by assumption) ?wr13_5
      case ir13_5 => (simp only [List.getElem?_toArray, List.getElem?_cons_succ, List.getElem?_cons_zero]; rfl)
      case yr13_5 => exact Or.inl ⟨by rfl, by intro v hSw; (try dsimp only at hSw); go_simp; try with_reducible rfl⟩
      try simp only [Act.put, List.setIfInBounds_toArray, List.set_cons_zero, List.set_cons_succ]
      refine wpAnyH_take (i := 6) (oi := ?or13_6) (v := ?vr13_6) ?ir13_6 (by kernel_rfl) (by kernel_rfl) (by kernel_rfl) (fun _ _ _ h => h) ?yr13_6 (by assumption) ?wr13_6
      case ir13_6 => (simp only [List.getElem?_toArray, List.getElem?_cons_succ, List.getElem?_cons_zero]; rfl)
      case yr13_6 => exact Or.inl ⟨by rfl, by intro v hSw; (try dsimp only at hSw); go_simp; try with_reducible rfl⟩
      try simp only [Act.put, List.setIfInBounds_toArray, List.set_cons_zero, List.set_cons_succ]
      refine wpAnyH_take (i := 7) (oi := ?or13_7) (v := ?vr13_7) ?ir13_7 (by kernel_rfl) (by kernel_rfl) (by kernel_rfl) (fun _ _ _ h => h) ?yr13_7 (by assumption) ?wr13_7
      case ir13_7 => (simp only [List.getElem?_toArray, List.getElem?_cons_succ, List.getElem?_cons_zero]; rfl)
      case yr13_7 => exact Or.inl ⟨by rfl, by intro v hSw; (try dsimp only at hSw); go_simp; try with_reducible rfl⟩
      try simp only [Act.put, List.setIfInBounds_toArray, List.set_cons_zero, List.set_cons_succ]
      refine wpAnyH_take (i := 9) (oi := ?or13_9) (v := ?vr13_9) ?ir13_9 (by kernel_rfl) (by kernel_rfl) (by kernel_rfl) (fun _ _ _ h => h) ?yr13_9 (by assumption) ?wr13_9
      case ir13_9 => (simp only [List.getElem?_toArray, List.getElem?_cons_succ, List.getElem?_cons_zero]; rfl)
      case yr13_9 => exact Or.inl ⟨by rfl, by intro v hSw; (try dsimp only at hSw); go_simp; try with_reducible rfl⟩
      try simp only [Act.put, List.setIfInBounds_toArray, List.set_cons_zero, List.set_cons_succ]
      refine wpAnyH_ready (rs := [8]) (by kernel_rfl) (by simp) ?_
      refine AllReadyH.cons (o := ?or13_8) ?ir13_8 (fun K hK => ?sr13_8) AllReadyH.nil
      case ir13_8 => (simp only [List.getElem?_toArray, List.getElem?_cons_succ, List.getElem?_cons_zero]; rfl)
      (first | (go_simp; (first | (go_at_call 100; refine (HV.out _).mono ?_; rintro e w1 ⟨rfl, hb1⟩) | (go_at_call 175; refine (HC.out _).mono ?_; rintro e w1 ⟨rfl, hb1⟩) | (go_at_call 126; refine (HE.out _).mono ?_; rintro e w1 ⟨rfl, hb1⟩) | (go_at_call 168; with_reducible refine (HI.out _).mono ?_; rintro e w1 ⟨rfl, rfl⟩) | skip)))
      refine hK.out _ _ ?kr13_8 (fun hHeld => ?_)
      case kr13_8 => (try dsimp only); (first | with_reducible assumption | exact s9_bel (by assumption) (by assumption) | assumption | exact s9_alloc (by assumption) _)
      clear hK K
      try simp only [Act.put, List.setIfInBounds_toArray, List.set_cons_zero, List.set_cons_succ]
      refine wpAnyH_ready (rs := [10]) (by kernel_rfl) (by simp) ?_
      refine AllReadyH.cons (o := ?or13_10) ?ir13_10 (fun K hK => ?sr13_10) AllReadyH.nil
      case ir13_10 => (simp only [List.getElem?_toArray, List.getElem?_cons_succ, List.getElem?_cons_zero]; rfl)
      (first | (go_simp; (first | (go_at_call 100; refine (HV.out _).mono ?_; rintro e w1 ⟨rfl, hb1⟩) | (go_at_call 175; refine (HC.out _).mono ?_; rintro e w1 ⟨rfl, hb1⟩) | (go_at_call 126; refine (HE.out _).mono ?_; rintro e w1 ⟨rfl, hb1⟩) | (go_at_call 168; with_reducible refine (HI.out _).mono ?_; rintro e w1 ⟨rfl, rfl⟩) | skip)))
      refine hK.out _ _ ?kr13_10 (fun hHeld => ?_)
      case kr13_10 => (try dsimp only); (first | with_reducible assumption | exact s9_bel (by assumption) (by assumption) | assumption | exact s9_alloc (by assumption) _)
      clear hK K
      try simp only [Act.put, List.setIfInBounds_toArray, List.set_cons_zero, List.set_cons_succ]
      refine wpAnyH_take (i := 11) (oi := ?or13_11) (v := ?vr13_11) ?ir13_11 (by kernel_rfl) (by kernel_rfl) (by kernel_rfl) (fun _ _ _ h => h) ?yr13_11 (by assumption) ?wr13_11
      case ir13_11 => (simp only [List.getElem?_toArray, List.getElem?_cons_succ, List.getElem?_cons_zero]; rfl)
      case yr13_11 => exact Or.inl ⟨by rfl, by intro v hSw; (try dsimp only at hSw); go_simp; try with_reducible rfl⟩
      try simp only [Act.put, List.setIfInBounds_toArray, List.set_cons_zero, List.set_cons_succ]
      refine wpAnyH_take (i := 12) (oi := ?or13_12) (v := ?vr13_12) ?ir13_12 (by kernel_rfl) (by kernel_rfl) (by kernel_rfl) (fun _ _ _ h => h) ?yr13_12 (by assumption) ?wr13_12
      case ir13_12 => (simp only [List.getElem?_toArray, List.getElem?_cons_succ, List.getElem?_cons_zero]; rfl)
      case yr13_12 => exact Or.inl ⟨by rfl, by intro v hSw; (try dsimp only at hSw); go_simp; try with_reducible rfl⟩
      try simp only [Act.put, List.setIfInBounds_toArray, List.set_cons_zero, List.set_cons_succ]
      refine wpAnyH_take (i := 13) (oi := ?or13_13) (v := ?vr13_13) ?ir13_13 (by kernel_rfl) (by kernel_rfl) (by kernel_rfl) (fun _ _ _ h => h) ?yr13_13 (by assumption) ?wr13_13
      case ir13_13 => (simp only [List.getElem?_toArray, List.getElem?_cons_succ, List.getElem?_cons_zero]; rfl)
      case yr13_13 => exact Or.inl ⟨by rfl, by intro v hSw; (try dsimp only at hSw); go_simp; try with_reducible rfl⟩
      try simp only [Act.put, List.setIfInBounds_toArray, List.set_cons_zero, List.set_cons_succ]
      refine wpAnyH_take (i := 14) (oi := ?or13_14) (v := ?vr13_14) ?ir13_14 (by kernel_rfl) (by kernel_rfl) (by kernel_rfl) (fun _ _ _ h => h) ?yr13_14 (by assumption) ?wr13_14
      case ir13_14 => (simp only [List.getElem?_toArray, List.getElem?_cons_succ, List.getElem?_cons_zero]; rfl)
      case yr13_14 => exact Or.inl ⟨by rfl, by intro v hSw; (try dsimp only at hSw); go_simp; try with_reducible rfl⟩
      try simp only [Act.put, List.setIfInBounds_toArray, List.set_cons_zero, List.set_cons_succ]
      refine wpAnyH_take (i := 15) (oi := ?or13_15) (v := undef) ?ir13_15 (by kernel_rfl) (by kernel_rfl) (by kernel_rfl) (fun _ _ _ h => h) ?yr13_15 (by assumption) ?wr13_15
      case ir13_15 => (simp only [List.getElem?_toArray, List.getElem?_cons_succ, List.getElem?_cons_zero]; rfl)
      case yr13_15 => exact Or.inr ⟨by rfl, rfl⟩
      try simp only [Act.put, List.setIfInBounds_toArray, List.set_cons_zero, List.set_cons_succ]
      refine wpAnyH_take (i := 16) (oi := ?or13_16) (v := undef) ?ir13_16 (by kernel_rfl) (by kernel_rfl) (by kernel_rfl) (fun _ _ _ h => h) ?yr13_16 (by assumption) ?wr13_16
      case ir13_16 => (simp only [List.getElem?_toArray, List.getElem?_cons_succ, List.getElem?_cons_zero]; rfl)
      case yr13_16 => exact Or.inr ⟨by rfl, rfl⟩
      try simp only [Act.put, List.setIfInBounds_toArray, List.set_cons_zero, List.set_cons_succ]
      refine wpAnyH_take (i := 17) (oi := ?or13_17) (v := undef) ?ir13_17 (by kernel_rfl) (by kernel_rfl) (by kernel_rfl) (fun _ _ _ h => h) ?yr13_17 (by assumption) ?wr13_17
      case ir13_17 => (simp only [List.getElem?_toArray, List.getElem?_cons_succ, List.getElem?_cons_zero]; rfl)
      case yr13_17 => exact Or.inr ⟨by rfl, rfl⟩
      try simp only [Act.put, List.setIfInBounds_toArray, List.set_cons_zero, List.set_cons_succ]
      refine wpAnyH_take (i := 18) (oi := ?or13_18) (v := undef) ?ir13_18 (by kernel_rfl) (by kernel_rfl) (by kernel_rfl) (fun _ _ _ h => h) ?yr13_18 (by assumption) ?wr13_18
      case ir13_18 => (simp only [List.getElem?_toArray, List.getElem?_cons_succ, List.getElem?_cons_zero]; rfl)
      case yr13_18 => exact Or.inr ⟨by rfl, rfl⟩
      try simp only [Act.put, List.setIfInBounds_toArray, List.set_cons_zero, List.set_cons_succ]
      refine wpAnyH_take (i := 19) (oi := ?or13_19) (v := undef) ?ir13_19 (by kernel_rfl) (by kernel_rfl) (by kernel_rfl) (fun _ _ _ h => h) ?yr13_19 (by assumption) ?wr13_19
      case ir13_19 => (simp only [List.getElem?_toArray, List.getElem?_cons_succ, List.getElem?_cons_zero]; rfl)
      case yr13_19 => exact Or.inr ⟨by rfl, rfl⟩
      try simp only [Act.put, List.setIfInBounds_toArray, List.set_cons_zero, List.set_cons_succ]
      refine wpAnyH_take (i := 20) (oi := ?or13_20) (v := undef) ?ir13_20 (by kernel_rfl) (by kernel_rfl) (by kernel_rfl) (fun _ _ _ h => h) ?yr13_20 (by assumption) ?wr13_20
      case ir13_20 => (simp only [List.getElem?_toArray, List.getElem?_cons_succ, List.getElem?_cons_zero]; rfl)
      case yr13_20 => exact Or.inr ⟨by rfl, rfl⟩
      try simp only [Act.put, List.setIfInBounds_toArray, List.set_cons_zero, List.set_cons_succ]
      refine wpAnyH_take (i := 21) (oi := ?or13_21) (v := undef) ?ir13_21 (by kernel_rfl) (by kernel_rfl) (by kernel_rfl) (fun _ _ _ h => h) ?yr13_21 (by assumption) ?wr13_21
      case ir13_21 => (simp only [List.getElem?_toArray, List.getElem?_cons_succ, List.getElem?_cons_zero]; rfl)
      case yr13_21 => exact Or.inr ⟨by rfl, rfl⟩
      try simp only [Act.put, List.setIfInBounds_toArray, List.set_cons_zero, List.set_cons_succ]
      refine wpAnyH_take (i := 22) (oi := ?or13_22) (v := ?vr13_22) ?ir13_22 (by kernel_rfl) (by kernel_rfl) (by kernel_rfl) (fun _ _ _ h => h) ?yr13_22 (by assumption) ?wr13_22
      case ir13_22 => (simp only [List.getElem?_toArray, List.getElem?_cons_succ, List.getElem?_cons_zero]; rfl)
      case yr13_22 => exact Or.inl ⟨by rfl, by intro v hSw; (try dsimp only at hSw); go_simp; try with_reducible rfl⟩
      try simp only [Act.put, List.setIfInBounds_toArray, List.set_cons_zero, List.set_cons_succ]
      refine wpAnyH_done (by kernel_rfl) ?_ _
      refine NoPanic.normal ?_
      go_wp2
      go_ret
      exact ⟨ret_bool HR.out.symm, by (repeat (first | with_reducible assumption | with_reducible exact Below.refl _ _ | with_reducible refine bel_alloc ?_ _ | with_reducible refine bel_drew ?_ | with_reducible refine bel_drewN ?_ _ | with_reducible refine bel_set ?_ (by first | omega | (simp; done) | (simp; omega)) _ | with_reducible refine bel_trans ?_ (by with_reducible assumption) | exact Below.refl _ _ | assumption | refine bel_alloc ?_ _ | refine bel_drew ?_ | refine bel_drewN ?_ _ | refine bel_set ?_ (by first | omega | (simp; done) | (simp; omega)) _ | refine bel_trans ?_ (by assumption)))⟩
    | true =>
      have hr3 : decide (pow2 k.m - 1 - (pow2 k.l + 1) < (k.ps.length : Int)) = false := by simp [room] at hr; simp; omega
      by_cases hd : 0 ≤ k.base ∧ k.base ≤ (k.ps.length : Int)
      · have e1 : inB k.base 0 k.ps.length = true := inB_iff.2 hd
        rw [e1] at HI
        have HK := hid (show kB k i0 = (decide (i0 = k.ps.length) && decide (LastOk k)) by simp [kB, hs, hr, hd.1, hd.2])
        clear hr hd e1
        go_enter Try.func112, Try.ntmps112
        go_wp2_with fail
        have hS := HB0.out
        refine wp_region_noPanic ?_
        refine wp_region_held_drew (S := (fun v => v.cell? ⟨w.heap.size, 0, none⟩ = some (.int .i64 k.o) ∧ v.cell? ⟨w.heap.size, 1, none⟩ = some (.int .i64 k.l) ∧ v.cell? ⟨w.heap.size, 2, none⟩ = some (.int .i64 k.m) ∧ v.cell? ⟨w.heap.size, 3, none⟩ = some (.slice A k.ps.length cap) ∧ v.cell? ⟨w.heap.size, 4, none⟩ = some (.int .i64 k.base) ∧ v.cell? ⟨w.heap.size, 5, none⟩ = some (.int .i64 k.last) ∧ v.cell? ⟨w.heap.size + 1, 0, none⟩ = some (.int .i64 k.o) ∧ v.cell? ⟨w.heap.size + 1, 1, none⟩ = some (.int .i64 k.l) ∧ v.cell? ⟨w.heap.size + 1, 2, none⟩ = some (.int .i64 k.m) ∧ Below w.heap.size w v)) (by kernel_rfl) (s9_drew hS) (fun hHeld => ?_)
        refine wpAnyH_take (i := 0) (oi := ?or14_0) (v := ?vr14_0) ?ir14_0 (by kernel_rfl) (by kernel_rfl) (by kernel_rfl) (fun _ _ _ h => h) ?yr14_0 (by assumption) ?wr14_0
        case ir14_0 => (simp only [List.getElem?_toArray, List.getElem?_cons_zero]; rfl)
        case yr14_0 => exact Or.inl ⟨by rfl, by intro v hSw; (try dsimp only at hSw); go_simp; try with_reducible rfl⟩
        try simp only [Act.put, List.setIfInBounds_toArray, List.set_cons_zero, List.set_cons_succ]
        refine wpAnyH_ready (rs := [1]) (by kernel_rfl) (by simp) ?_
        refine AllReadyH.cons (o := ?or14_1) ?ir14_1 (fun K hK => ?sr14_1) AllReadyH.nil
        case ir14_1 => (simp only [List.getElem?_toArray, List.getElem?_cons_succ, List.getElem?_cons_zero]; rfl)
        (first | (go_simp; (first | (go_at_call 100; refine (HV.out _).mono ?_; rintro e w1 ⟨rfl, hb1⟩) | (go_at_call 175; refine (HC.out _).mono ?_; rintro e w1 ⟨rfl, hb1⟩) | (go_at_call 126; refine (HE.out _).mono ?_; rintro e w1 ⟨rfl, hb1⟩) | (go_at_call 168; with_reducible refine (HI.out _).mono ?_; rintro e w1 ⟨rfl, rfl⟩) | skip)))
        refine hK.out _ _ ?kr14_1 (fun hHeld => ?_)
        case kr14_1 => (try dsimp only); (first | with_reducible assumption | exact s9_bel (by assumption) (by assumption) | assumption | exact s9_alloc (by assumption) _)
        clear hK K
        try simp only [Act.put, List.setIfInBounds_toArray, List.set_cons_zero, List.set_cons_succ]
        refine wpAnyH_take (i := 2) (oi := ?or14_2) (v := ?vr14_2) ?ir14_2 (by kernel_rfl) (by kernel_rfl) (by kernel_rfl) (fun _ _ _ h => h) ?yr14_2 (by assumption) ?wr14_2
        case ir14_2 => (simp only [List.getElem?_toArray, List.getElem?_cons_succ, List.getElem?_cons_zero]; rfl)
        case yr14_2 => exact Or.inl ⟨by rfl, by intro v hSw; (try dsimp only at hSw); go_simp; try with_reducible rfl⟩
        try simp only [Act.put, List.setIfInBounds_toArray, List.set_cons_zero, List.set_cons_succ]
        refine wpAnyH_take (i := 3) (oi := ?or14_3) (v := ?vr14_3) ?ir14_3 (by kernel_rfl) (by kernel_rfl) (by kernel_rfl) (fun _ _ _ h => h) ?yr14_3 (by assumption) ?wr14_3
        case ir14_3 => (simp only [List.getElem?_toArray, List.getElem?_cons_succ, List.getElem?_cons_zero]; rfl)
        case yr14_3 => exact Or.inl ⟨by rfl, by intro v hSw; (try dsimp only at hSw); go_simp; try with_reducible rfl⟩
        try simp only [Act.put, List.setIfInBounds_toArray, List.set_cons_zero, List.set_cons_succ]
        refine wpAnyH_take (i := 4) (oi := ?or14_4) (v := ?vr14_4) ?ir14_4 (by kernel_rfl) (by kernel_rfl) (by kernel_rfl) (fun _ _ _ h => h) ?yr14_4 (by assumption) ?wr14_4
        case ir14_4 => (simp only [List.getElem?_toArray, List.getElem?_cons_succ, List.getElem?_cons_zero]; rfl)
        case yr14_4 => exact Or.inl ⟨by rfl, by intro v hSw; (try dsimp only at hSw); go_simp; try with_reducible rfl⟩
        try simp only [Act.put, List.setIfInBounds_toArray, List.set_cons_zero, List.set_cons_succ]
        refine wpAnyH_take (i := 5) (oi := ?or14_5) (v := ?vr14_5) ?ir14_5 (by kernel_rfl) (by kernel_rfl) (by kernel_rfl) (fun _ _ _ h => h) ?yr14_5 (by assumption) ?wr14_5
        case ir14_5 => (simp only [List.getElem?_toArray, List.getElem?_cons_succ, List.getElem?_cons_zero]; rfl)
        case yr14_5 => exact Or.inl ⟨by rfl, by intro v hSw; (try dsimp only at hSw); go_simp; try with_reducible rfl⟩
        try simp only [Act.put, List.setIfInBounds_toArray, List.set_cons_zero, List.set_cons_succ]
        refine wpAnyH_take (i := 6) (oi := ?or14_6) (v := ?vr14_6) ?ir14_6 (by kernel_rfl) (by kernel_rfl) (by kernel_rfl) (fun _ _ _ h => h) ?yr14_6 (by assumption) ?wr14_6
        case ir14_6 => (simp only [List.getElem?_toArray, List.getElem?_cons_succ, List.getElem?_cons_zero]; rfl)
        case yr14_6 => exact Or.inl ⟨by rfl, by intro v hSw; (try dsimp only at hSw); go_simp; try with_reducible rfl⟩
        try simp only [Act.put, List.setIfInBounds_toArray, List.set_cons_zero, List.set_cons_succ]
        refine wpAnyH_take (i := 7) (oi := ?or14_7) (v := ?vr14_7) ?ir14_7 (by kernel_rfl) (by kernel_rfl) (by kernel_rfl) (fun _ _ _ h => h) ?yr14_7 (by assumption) ?wr14_7
        case ir14_7 => (simp only [List.getElem?_toArray, List.getElem?_cons_succ, List.getElem?_cons_zero]; rfl)
        case yr14_7 => exact Or.inl ⟨by rfl, by intro v hSw; (try dsimp only at hSw); go_simp; try with_reducible rfl⟩
        try simp only [Act.put, List.setIfInBounds_toArray, List.set_cons_zero, List.set_cons_succ]
        refine wpAnyH_take (i := 9) (oi := ?or14_9) (v := ?vr14_9) ?ir14_9 (by kernel_rfl) (by kernel_rfl) (by kernel_rfl) (fun _ _ _ h => h) ?yr14_9 (by assumption) ?wr14_9
        case ir14_9 => (simp only [List.getElem?_toArray, List.getElem?_cons_succ, List.getElem?_cons_zero]; rfl)
        case yr14_9 => exact Or.inl ⟨by rfl, by intro v hSw; (try dsimp only at hSw); go_simp; try with_reducible rfl⟩
        try simp only [Act.put, List.setIfInBounds_toArray, List.set_cons_zero, List.set_cons_succ]
        refine wpAnyH_ready (rs := [8]) (by kernel_rfl) (by simp) ?_
        refine AllReadyH.cons (o := ?or14_8) ?ir14_8 (fun K hK => ?sr14_8) AllReadyH.nil
        case ir14_8 => (simp only [List.getElem?_toArray, List.getElem?_cons_succ, List.getElem?_cons_zero]; rfl)
        (first | (go_simp; (first | (go_at_call 100; refine (HV.out _).mono ?_; rintro e w1 ⟨rfl, hb1⟩) | (go_at_call 175; refine (HC.out _).mono ?_; rintro e w1 ⟨rfl, hb1⟩) | (go_at_call 126; refine (HE.out _).mono ?_; rintro e w1 ⟨rfl, hb1⟩) | (go_at_call 168; with_reducible refine (HI.out _).mono ?_; rintro e w1 ⟨rfl, rfl⟩) | skip)))
        refine hK.out _ _ ?kr14_8 (fun hHeld => ?_)
        case kr14_8 => (try dsimp only); (first | with_reducible assumption | exact s9_bel (by assumption) (by assumption) | assumption | exact s9_alloc (by assumption) _)
        clear hK K
        try simp only [Act.put, List.setIfInBounds_toArray, List.set_cons_zero, List.set_cons_succ]
        refine wpAnyH_ready (rs := [10]) (by kernel_rfl) (by simp) ?_
        refine AllReadyH.cons (o := ?or14_10) ?ir14_10 (fun K hK => ?sr14_10) AllReadyH.nil
        case ir14_10 => (simp only [List.getElem?_toArray, List.getElem?_cons_succ, List.getElem?_cons_zero]; rfl)
        (first | (go_simp; (first | (go_at_call 100; refine (HV.out _).mono ?_; rintro e w1 ⟨rfl, hb1⟩) | (go_at_call 175; refine (HC.out _).mono ?_; rintro e w1 ⟨rfl, hb1⟩) | (go_at_call 126; refine (HE.out _).mono ?_; rintro e w1 ⟨rfl, hb1⟩) | (go_at_call 168; with_reducible refine (HI.out _).mono ?_; rintro e w1 ⟨rfl, rfl⟩) | skip)))
        refine hK.out _ _ ?kr14_10 (fun hHeld => ?_)
        case kr14_10 => (try dsimp only); (first | with_reducible assumption | exact s9_bel (by assumption) (by assumption) | assumption | exact s9_alloc (by assumption) _)
        clear hK K
        try simp only [Act.put, List.setIfInBounds_toArray, List.set_cons_zero, List.set_cons_succ]
        refine wpAnyH_take (i := 11) (oi := ?or14_11) (v := ?vr14_11) ?ir14_11 (by kernel_rfl) (by kernel_rfl) (by kernel_rfl) (fun _ _ _ h => h) ?yr14_11 (by assumption) ?wr14_11
        case ir14_11 => (simp only [List.getElem?_toArray, List.getElem?_cons_succ, List.getElem?_cons_zero]; rfl)
        case yr14_11 => exact Or.inl ⟨by rfl, by intro v hSw; (try dsimp only at hSw); go_simp; try with_reducible rfl⟩
        try simp only [Act.put, List.setIfInBounds_toArray, List.set_cons_zero, List.set_cons_succ]
        refine wpAnyH_take (i := 12) (oi := ?or14_12) (v := ?vr14_12) ?ir14_12 (by kernel_rfl) (by kernel_rfl) (by kernel_rfl) (fun _ _ _ h => h) ?yr14_12 (by assumption) ?wr14_12
        case ir14_12 => (simp only [List.getElem?_toArray, List.getElem?_cons_succ, List.getElem?_cons_zero]; rfl)
        case yr14_12 => exact Or.inl ⟨by rfl, by intro v hSw; (try dsimp only at hSw); go_simp; try with_reducible rfl⟩
        try simp only [Act.put, List.setIfInBounds_toArray, List.set_cons_zero, List.set_cons_succ]
        refine wpAnyH_take (i := 13) (oi := ?or14_13) (v := ?vr14_13) ?ir14_13 (by kernel_rfl) (by kernel_rfl) (by kernel_rfl) (fun _ _ _ h => h) ?yr14_13 (by assumption) ?wr14_13
        case ir14_13 => (simp only [List.getElem?_toArray, List.getElem?_cons_succ, List.getElem?_cons_zero]; rfl)
        case yr14_13 => exact Or.inl ⟨by rfl, by intro v hSw; (try dsimp only at hSw); go_simp; try with_reducible rfl⟩
        try simp only [Act.put, List.setIfInBounds_toArray, List.set_cons_zero, List.set_cons_succ]
        refine wpAnyH_take (i := 14) (oi := ?or14_14) (v := ?vr14_14) ?ir14_14 (by kernel_rfl) (by kernel_rfl) (by kernel_rfl) (fun _ _ _ h => h) ?yr14_14 (by assumption) ?wr14_14
        case ir14_14 => (simp only [List.getElem?_toArray, List.getElem?_cons_succ, List.getElem?_cons_zero]; rfl)
        case yr14_14 => exact Or.inl ⟨by rfl, by intro v hSw; (try dsimp only at hSw); go_simp; try with_reducible rfl⟩
        try simp only [Act.put, List.setIfInBounds_toArray, List.set_cons_zero, List.set_cons_succ]
        refine wpAnyH_take (i := 15) (oi := ?or14_15) (v := ?vr14_15) ?ir14_15 (by kernel_rfl) (by kernel_rfl) (by kernel_rfl) (fun _ _ _ h => h) ?yr14_15 (by assumption) ?wr14_15
        case ir14_15 => (simp only [List.getElem?_toArray, List.getElem?_cons_succ, List.getElem?_cons_zero]; rfl)
        case yr14_15 => exact Or.inl ⟨by rfl, by intro v hSw; (try dsimp only at hSw); go_simp; try with_reducible rfl⟩
        try simp only [Act.put, List.setIfInBounds_toArray, List.set_cons_zero, List.set_cons_succ]
        refine wpAnyH_take (i := 16) (oi := ?or14_16) (v := ?vr14_16) ?ir14_16 (by kernel_rfl) (by kernel_rfl) (by kernel_rfl) (fun _ _ _ h => h) ?yr14_16 (by assumption) ?wr14_16
        case ir14_16 => (simp only [List.getElem?_toArray, List.getElem?_cons_succ, List.getElem?_cons_zero]; rfl)
        case yr14_16 => exact Or.inl ⟨by rfl, by intro v hSw; (try dsimp only at hSw); go_simp; try with_reducible rfl⟩
        try simp only [Act.put, List.setIfInBounds_toArray, List.set_cons_zero, List.set_cons_succ]
        refine wpAnyH_take (i := 17) (oi := ?or14_17) (v := ?vr14_17) ?ir14_17 (by kernel_rfl) (by kernel_rfl) (by kernel_rfl) (fun _ _ _ h => h) ?yr14_17 (by assumption) ?wr14_17
        case ir14_17 => (simp only [List.getElem?_toArray, List.getElem?_cons_succ, List.getElem?_cons_zero]; rfl)
        case yr14_17 => exact Or.inl ⟨by rfl, by intro v hSw; (try dsimp only at hSw); go_simp; try with_reducible rfl⟩
        try simp only [Act.put, List.setIfInBounds_toArray, List.set_cons_zero, List.set_cons_succ]
        refine wpAnyH_take (i := 18) (oi := ?or14_18) (v := ?vr14_18) ?ir14_18 (by kernel_rfl) (by kernel_rfl) (by kernel_rfl) (fun _ _ _ h => h) ?yr14_18 (by assumption) ?wr14_18
        case ir14_18 => (simp only [List.getElem?_toArray, List.getElem?_cons_succ, List.getElem?_cons_zero]; rfl)
        case yr14_18 => exact Or.inl ⟨by rfl, by intro v hSw; (try dsimp only at hSw); go_simp; try with_reducible rfl⟩
        try simp only [Act.put, List.setIfInBounds_toArray, List.set_cons_zero, List.set_cons_succ]
        refine wpAnyH_take (i := 19) (oi := ?or14_19) (v := ?vr14_19) ?ir14_19 (by kernel_rfl) (by kernel_rfl) (by kernel_rfl) (fun _ _ _ h => h) ?yr14_19 (by assumption) ?wr14_19
        case ir14_19 => (simp only [List.getElem?_toArray, List.getElem?_cons_succ, List.getElem?_cons_zero]; rfl)
        case yr14_19 => exact Or.inl ⟨by rfl, by intro v hSw; (try dsimp only at hSw); go_simp; try with_reducible rfl⟩
        try simp only [Act.put, List.setIfInBounds_toArray, List.set_cons_zero, List.set_cons_succ]
        refine wpAnyH_ready (rs := [20]) (by kernel_rfl) (by simp) ?_
        refine AllReadyH.cons (o := ?or14_20) ?ir14_20 (fun K hK => ?sr14_20) AllReadyH.nil
        case ir14_20 => (simp only [List.getElem?_toArray, List.getElem?_cons_succ, List.getElem?_cons_zero]; rfl)
        (first | (go_simp; (first | (go_at_call 100; refine (HV.out _).mono ?_; rintro e w1 ⟨rfl, hb1⟩) | (go_at_call 175; refine (HC.out _).mono ?_; rintro e w1 ⟨rfl, hb1⟩) | (go_at_call 126; refine (HE.out _).mono ?_; rintro e w1 ⟨rfl, hb1⟩) | (go_at_call 168; with_reducible refine (HI.out _).mono ?_; rintro e w1 ⟨rfl, rfl⟩) | skip)))
        refine hK.out _ _ ?kr14_20 (fun hHeld => ?_)
        case kr14_20 => (try dsimp only); (first | with_reducible assumption | exact s9_bel (by assumption) (by assumption) | assumption | exact s9_alloc (by assumption) _)
        clear hK K
        try simp only [Act.put, List.setIfInBounds_toArray, List.set_cons_zero, List.set_cons_succ]
        refine wpAnyH_take (i := 21) (oi := ?or14_21) (v := ?vr14_21) ?ir14_21 (by kernel_rfl) (by kernel_rfl) (by kernel_rfl) (fun _ _ _ h => h) ?yr14_21 (by assumption) ?wr14_21
        case ir14_21 => (simp only [List.getElem?_toArray, List.getElem?_cons_succ, List.getElem?_cons_zero]; rfl)
        case yr14_21 => exact Or.inl ⟨by rfl, by intro v hSw; (try dsimp only at hSw); go_simp; try with_reducible rfl⟩
        try simp only [Act.put, List.setIfInBounds_toArray, List.set_cons_zero, List.set_cons_succ]
        refine wpAnyH_take (i := 22) (oi := ?or14_22) (v := ?vr14_22) ?ir14_22 (by kernel_rfl) (by kernel_rfl) (by kernel_rfl) (fun _ _ _ h => h) ?yr14_22 (by assumption) ?wr14_22
        case ir14_22 => (simp only [List.getElem?_toArray, List.getElem?_cons_succ, List.getElem?_cons_zero]; rfl)
        case yr14_22 => exact Or.inl ⟨by rfl, by intro v hSw; (try dsimp only at hSw); go_simp; try with_reducible rfl⟩
        try simp only [Act.put, List.setIfInBounds_toArray, List.set_cons_zero, List.set_cons_succ]
        refine wpAnyH_done (by kernel_rfl) ?_ _
        refine NoPanic.normal ?_
        have HS2 : Box9 w _ k A cap := hHeld
        have HWc := hid (fun (v : World) (x : Int) (n : Nat) (hn : n ≤ 2000000) => c_l2Code k.o k.l k.m x n v hs hn)
        have HCl := hid (fun (v : World) => c_l1Clear k.o k.l k.m v (by omega) (by omega))
        have ey : IntKind.i64.wrap (pow2 k.l - 1) = pow2 k.l - 1 := IntWalk.i64_in _ (by omega)
        go_wp2_with fail
        clear HV HC HE HI HB0 hr3 ew hHeld hS
        go_loopw [4] (fun i wr => ∃ n : Nat, n ≤ i0 ∧ i = .int .i64 n ∧ Box9 w wr k A cap) (fun i _ => k.ps.length - (intOf i).toNat)
        case atStart => exact ⟨0, Nat.zero_le _, rfl, HS2⟩
        case round =>
          obtain ⟨n, hn0, rfl, hbx⟩ := hrel
          have hS0 := hid hbx
          obtain ⟨q0, q1, q2, q3, q4, q5, q6, q7, q8, hbl⟩ := hbx
          by_cases hlt : n < k.ps.length
          · obtain ⟨d, off, rfl, hd, hd0, hd1⟩ := pair_at (HH.out.below hbl hL) n hlt
            have HP := hid (List.getElem?_eq_getElem hlt)
            obtain ⟨p, hp2⟩ : ∃ p, p = k.ps[n] := ⟨_, rfl⟩
            rw [← hp2] at hd0 hd1 HP
            clear hp2
            obtain ⟨x, y⟩ := p
            simp only at hd0 hd1
            have HS := hid (And.intro q0 (And.intro q1 (And.intro q2 (And.intro q3 (And.intro q4 (And.intro q5 (And.intro q6 (And.intro q7 (And.intro q8 (And.intro hd0 (And.intro hd1 hbl)))))))))))
            have HW := hid (fun (v : World) => HWc.out v x n (by omega))
            have HY := hid (fun (v : World) => c_l1In y 0 (pow2 k.l - 1) v)
            by_cases h1 : HasW (pow2 k.l) x n
            · simp only [decide_eq_true h1] at HW
              by_cases h2 : 0 ≤ y ∧ y < pow2 k.l
              · have e2 : inB y 0 (pow2 k.l - 1) = true := inB_iff.2 (by omega)
                simp only [e2] at HY
                have HN := hid (show n < i0 by
                  rcases Nat.lt_or_ge n i0 with h3 | h3
                  · exact h3
                  · have : n = i0 := by omega
                    subst this
                    exact absurd ⟨h1, h2.1, h2.2⟩ (HF.out.2.2 _ HP.out))
                clear h1 h2 e2
                go_wp2_with fail
                clear q0 q1 q2 q3 q4 q5 q6 q7 q8 hd0 hd1
                have hS := HS.out
                refine wp_region_noPanic ?_
                refine wp_region_held_drew (S := (fun v => v.cell? ⟨w.heap.size, 0, none⟩ = some (.int .i64 k.o) ∧ v.cell? ⟨w.heap.size, 1, none⟩ = some (.int .i64 k.l) ∧ v.cell? ⟨w.heap.size, 2, none⟩ = some (.int .i64 k.m) ∧ v.cell? ⟨w.heap.size, 3, none⟩ = some (.slice (some ⟨d, off, none⟩) k.ps.length cap) ∧ v.cell? ⟨w.heap.size, 4, none⟩ = some (.int .i64 k.base) ∧ v.cell? ⟨w.heap.size, 5, none⟩ = some (.int .i64 k.last) ∧ v.cell? ⟨w.heap.size + 1, 0, none⟩ = some (.int .i64 k.o) ∧ v.cell? ⟨w.heap.size + 1, 1, none⟩ = some (.int .i64 k.l) ∧ v.cell? ⟨w.heap.size + 1, 2, none⟩ = some (.int .i64 k.m) ∧ v.cell? ⟨d, off + n * 2, none⟩ = some (.int .i64 x) ∧ v.cell? ⟨d, off + n * 2 + 1, none⟩ = some (.int .i64 y) ∧ Below w.heap.size w v)) (by kernel_rfl) (s11_drew hS) (fun hHeld => ?_)
                refine wpAnyH_take (i := 0) (oi := ?or15_0) (v := ?vr15_0) ?ir15_0 (by kernel_rfl) (by kernel_rfl) (by kernel_rfl) (fun _ _ _ h => h) ?yr15_0 (by assumption) ?wr15_0
                case ir15_0 => (simp only [List.getElem?_toArray, List.getElem?_cons_zero]; rfl)
                case yr15_0 => exact Or.inl ⟨by rfl, by intro v hSw; (try dsimp only at hSw); go_simp; try with_reducible rfl⟩
                try simp only [Act.put, List.setIfInBounds_toArray, List.set_cons_zero, List.set_cons_succ]
                refine wpAnyH_take (i := 1) (oi := ?or15_1) (v := ?vr15_1) ?ir15_1 (by kernel_rfl) (by kernel_rfl) (by kernel_rfl) (fun _ _ _ h => h) ?yr15_1 (by assumption) ?wr15_1
                case ir15_1 => (simp only [List.getElem?_toArray, List.getElem?_cons_succ, List.getElem?_cons_zero]; rfl)
                case yr15_1 => exact Or.inl ⟨by rfl, by intro v hSw; (try dsimp only at hSw); go_simp; try with_reducible rfl⟩
                try simp only [Act.put, List.setIfInBounds_toArray, List.set_cons_zero, List.set_cons_succ]
                refine wpAnyH_take (i := 2) (oi := ?or15_2) (v := ?vr15_2) ?ir15_2 (by kernel_rfl) (by kernel_rfl) (by kernel_rfl) (fun _ _ _ h => h) ?yr15_2 (by assumption) ?wr15_2
                case ir15_2 => (simp only [List.getElem?_toArray, List.getElem?_cons_succ, List.getElem?_cons_zero]; rfl)
                case yr15_2 => exact Or.inl ⟨by rfl, by intro v hSw; (try dsimp only at hSw); go_simp; try with_reducible rfl⟩
                try simp only [Act.put, List.setIfInBounds_toArray, List.set_cons_zero, List.set_cons_succ]
                refine wpAnyH_take (i := 3) (oi := ?or15_3) (v := ?vr15_3) ?ir15_3 (by kernel_rfl) (by kernel_rfl) (by kernel_rfl) (fun _ _ _ h => h) ?yr15_3 (by assumption) ?wr15_3
                case ir15_3 => (simp only [List.getElem?_toArray, List.getElem?_cons_succ, List.getElem?_cons_zero]; rfl)
                case yr15_3 => exact Or.inl ⟨by rfl, by intro v hSw; (try dsimp only at hSw); go_simp; try with_reducible rfl⟩
                try simp only [Act.put, List.setIfInBounds_toArray, List.set_cons_zero, List.set_cons_succ]
                refine wpAnyH_take (i := 4) (oi := ?or15_4) (v := ?vr15_4) ?ir15_4 (by kernel_rfl) (by kernel_rfl) (by kernel_rfl) (fun _ _ _ h => h) ?yr15_4 (by assumption) ?wr15_4
                case ir15_4 => (simp only [List.getElem?_toArray, List.getElem?_cons_succ, List.getElem?_cons_zero]; rfl)
                case yr15_4 => exact Or.inl ⟨by rfl, by intro v hSw; (try dsimp only at hSw); go_simp; try with_reducible rfl⟩
                try simp only [Act.put, List.setIfInBounds_toArray, List.set_cons_zero, List.set_cons_succ]
                refine wpAnyH_take (i := 5) (oi := ?or15_5) (v := ?vr15_5) ?ir15_5 (by kernel_rfl) (by kernel_rfl) (by kernel_rfl) (fun _ _ _ h => h) ?yr15_5 (by assumption) ?wr15_5
                case ir15_5 => (simp only [List.getElem?_toArray, List.getElem?_cons_succ, List.getElem?_cons_zero]; rfl)
                case yr15_5 => exact Or.inl ⟨by rfl, by intro v hSw; (try dsimp only at hSw); go_simp; try with_reducible rfl⟩
                try simp only [Act.put, List.setIfInBounds_toArray, List.set_cons_zero, List.set_cons_succ]
                refine wpAnyH_take (i := 6) (oi := ?or15_6) (v := ?vr15_6) ?ir15_6 (by kernel_rfl) (by kernel_rfl) (by kernel_rfl) (fun _ _ _ h => h) ?yr15_6 (by assumption) ?wr15_6
                case ir15_6 => (simp only [List.getElem?_toArray, List.getElem?_cons_succ, List.getElem?_cons_zero]; rfl)
                case yr15_6 => exact Or.inl ⟨by rfl, by intro v hSw; (try dsimp only at hSw); go_simp; try with_reducible rfl⟩
                try simp only [Act.put, List.setIfInBounds_toArray, List.set_cons_zero, List.set_cons_succ]
                refine wpAnyH_take (i := 7) (oi := ?or15_7) (v := ?vr15_7) ?ir15_7 (by kernel_rfl) (by kernel_rfl) (by kernel_rfl) (fun _ _ _ h => h) ?yr15_7 (by assumption) ?wr15_7
                case ir15_7 => (simp only [List.getElem?_toArray, List.getElem?_cons_succ, List.getElem?_cons_zero]; rfl)
                case yr15_7 => exact Or.inl ⟨by rfl, by intro v hSw; (try dsimp only at hSw); go_simp; try with_reducible rfl⟩
                try simp only [Act.put, List.setIfInBounds_toArray, List.set_cons_zero, List.set_cons_succ]
                refine wpAnyH_ready (rs := [8]) (by kernel_rfl) (by simp) ?_
                refine AllReadyH.cons (o := ?or15_8) ?ir15_8 (fun K hK => ?sr15_8) AllReadyH.nil
                case ir15_8 => (simp only [List.getElem?_toArray, List.getElem?_cons_succ, List.getElem?_cons_zero]; rfl)
                (first | (go_simp; (first | (go_at_call 176; refine (HW.out _).mono ?_; rintro e w1 ⟨rfl, hb1⟩) | (go_at_call 108; refine (HCl.out _).mono ?_; rintro e w1 ⟨rfl, hb1⟩) | (go_at_call 168; with_reducible refine (HY.out _).mono ?_; rintro e w1 ⟨rfl, rfl⟩) | skip)))
                refine hK.out _ _ ?kr15_8 (fun hHeld => ?_)
                case kr15_8 => (try dsimp only); (first | with_reducible assumption | exact s11_bel (by assumption) (by assumption) | assumption | exact s11_alloc (by assumption) _)
                clear hK K
                try simp only [Act.put, List.setIfInBounds_toArray, List.set_cons_zero, List.set_cons_succ]
                refine wpAnyH_take (i := 9) (oi := ?or15_9) (v := ?vr15_9) ?ir15_9 (by kernel_rfl) (by kernel_rfl) (by kernel_rfl) (fun _ _ _ h => h) ?yr15_9 (by assumption) ?wr15_9
                case ir15_9 => (simp only [List.getElem?_toArray, List.getElem?_cons_succ, List.getElem?_cons_zero]; rfl)
                case yr15_9 => exact Or.inl ⟨by rfl, by intro v hSw; (try dsimp only at hSw); go_simp; try with_reducible rfl⟩
                try simp only [Act.put, List.setIfInBounds_toArray, List.set_cons_zero, List.set_cons_succ]
                refine wpAnyH_take (i := 10) (oi := ?or15_10) (v := ?vr15_10) ?ir15_10 (by kernel_rfl) (by kernel_rfl) (by kernel_rfl) (fun _ _ _ h => h) ?yr15_10 (by assumption) ?wr15_10
                case ir15_10 => (simp only [List.getElem?_toArray, List.getElem?_cons_succ, List.getElem?_cons_zero]; rfl)
                case yr15_10 => exact Or.inl ⟨by rfl, by intro v hSw; (try dsimp only at hSw); go_simp; try with_reducible rfl⟩
                try simp only [Act.put, List.setIfInBounds_toArray, List.set_cons_zero, List.set_cons_succ]
                refine wpAnyH_take (i := 11) (oi := ?or15_11) (v := ?vr15_11) ?ir15_11 (by kernel_rfl) (by kernel_rfl) (by kernel_rfl) (fun _ _ _ h => h) ?yr15_11 (by assumption) ?wr15_11
                case ir15_11 => (simp only [List.getElem?_toArray, List.getElem?_cons_succ, List.getElem?_cons_zero]; rfl)
                case yr15_11 => exact Or.inl ⟨by rfl, by intro v hSw; (try dsimp only at hSw); go_simp; try with_reducible rfl⟩
                try simp only [Act.put, List.setIfInBounds_toArray, List.set_cons_zero, List.set_cons_succ]
                refine wpAnyH_take (i := 12) (oi := ?or15_12) (v := ?vr15_12) ?ir15_12 (by kernel_rfl) (by kernel_rfl) (by kernel_rfl) (fun _ _ _ h => h) ?yr15_12 (by assumption) ?wr15_12
                case ir15_12 => (simp only [List.getElem?_toArray, List.getElem?_cons_succ, List.getElem?_cons_zero]; rfl)
                case yr15_12 => exact Or.inl ⟨by rfl, by intro v hSw; (try dsimp only at hSw); go_simp; try with_reducible rfl⟩
                try simp only [Act.put, List.setIfInBounds_toArray, List.set_cons_zero, List.set_cons_succ]
                refine wpAnyH_take (i := 13) (oi := ?or15_13) (v := ?vr15_13) ?ir15_13 (by kernel_rfl) (by kernel_rfl) (by kernel_rfl) (fun _ _ _ h => h) ?yr15_13 (by assumption) ?wr15_13
                case ir15_13 => (simp only [List.getElem?_toArray, List.getElem?_cons_succ, List.getElem?_cons_zero]; rfl)
                case yr15_13 => exact Or.inl ⟨by rfl, by intro v hSw; (try dsimp only at hSw); go_simp; try with_reducible rfl⟩
                try simp only [Act.put, List.setIfInBounds_toArray, List.set_cons_zero, List.set_cons_succ]
                refine wpAnyH_take (i := 14) (oi := ?or15_14) (v := ?vr15_14) ?ir15_14 (by kernel_rfl) (by kernel_rfl) (by kernel_rfl) (fun _ _ _ h => h) ?yr15_14 (by assumption) ?wr15_14
                case ir15_14 => (simp only [List.getElem?_toArray, List.getElem?_cons_succ, List.getElem?_cons_zero]; rfl)
                case yr15_14 => exact Or.inl ⟨by rfl, by intro v hSw; (try dsimp only at hSw); go_simp; try with_reducible rfl⟩
                try simp only [Act.put, List.setIfInBounds_toArray, List.set_cons_zero, List.set_cons_succ]
                refine wpAnyH_take (i := 15) (oi := ?or15_15) (v := ?vr15_15) ?ir15_15 (by kernel_rfl) (by kernel_rfl) (by kernel_rfl) (fun _ _ _ h => h) ?yr15_15 (by assumption) ?wr15_15
                case ir15_15 => (simp only [List.getElem?_toArray, List.getElem?_cons_succ, List.getElem?_cons_zero]; rfl)
                case yr15_15 => exact Or.inl ⟨by rfl, by intro v hSw; (try dsimp only at hSw); go_simp; try with_reducible rfl⟩
                try simp only [Act.put, List.setIfInBounds_toArray, List.set_cons_zero, List.set_cons_succ]
                refine wpAnyH_take (i := 16) (oi := ?or15_16) (v := ?vr15_16) ?ir15_16 (by kernel_rfl) (by kernel_rfl) (by kernel_rfl) (fun _ _ _ h => h) ?yr15_16 (by assumption) ?wr15_16
                case ir15_16 => (simp only [List.getElem?_toArray, List.getElem?_cons_succ, List.getElem?_cons_zero]; rfl)
                case yr15_16 => exact Or.inl ⟨by rfl, by intro v hSw; (try dsimp only at hSw); go_simp; try with_reducible rfl⟩
                try simp only [Act.put, List.setIfInBounds_toArray, List.set_cons_zero, List.set_cons_succ]
                refine wpAnyH_take (i := 17) (oi := ?or15_17) (v := ?vr15_17) ?ir15_17 (by kernel_rfl) (by kernel_rfl) (by kernel_rfl) (fun _ _ _ h => h) ?yr15_17 (by assumption) ?wr15_17
                case ir15_17 => (simp only [List.getElem?_toArray, List.getElem?_cons_succ, List.getElem?_cons_zero]; rfl)
                case yr15_17 => exact Or.inl ⟨by rfl, by intro v hSw; (try dsimp only at hSw); go_simp; try with_reducible rfl⟩
                try simp only [Act.put, List.setIfInBounds_toArray, List.set_cons_zero, List.set_cons_succ]
                refine wpAnyH_ready (rs := [18]) (by kernel_rfl) (by simp) ?_
                refine AllReadyH.cons (o := ?or15_18) ?ir15_18 (fun K hK => ?sr15_18) AllReadyH.nil
                case ir15_18 => (simp only [List.getElem?_toArray, List.getElem?_cons_succ, List.getElem?_cons_zero]; rfl)
                (first | (go_simp; (first | (go_at_call 176; refine (HW.out _).mono ?_; rintro e w1 ⟨rfl, hb1⟩) | (go_at_call 108; refine (HCl.out _).mono ?_; rintro e w1 ⟨rfl, hb1⟩) | (go_at_call 168; with_reducible refine (HY.out _).mono ?_; rintro e w1 ⟨rfl, rfl⟩) | skip)))
                refine hK.out _ _ ?kr15_18 (fun hHeld => ?_)
                case kr15_18 => (try dsimp only); (first | with_reducible assumption | exact s11_bel (by assumption) (by assumption) | assumption | exact s11_alloc (by assumption) _)
                clear hK K
                try simp only [Act.put, List.setIfInBounds_toArray, List.set_cons_zero, List.set_cons_succ]
                refine wpAnyH_take (i := 19) (oi := ?or15_19) (v := ?vr15_19) ?ir15_19 (by kernel_rfl) (by kernel_rfl) (by kernel_rfl) (fun _ _ _ h => h) ?yr15_19 (by assumption) ?wr15_19
                case ir15_19 => (simp only [List.getElem?_toArray, List.getElem?_cons_succ, List.getElem?_cons_zero]; rfl)
                case yr15_19 => exact Or.inl ⟨by rfl, by intro v hSw; (try dsimp only at hSw); go_simp; try with_reducible rfl⟩
                try simp only [Act.put, List.setIfInBounds_toArray, List.set_cons_zero, List.set_cons_succ]
                refine wpAnyH_ready (rs := [20]) (by kernel_rfl) (by simp) ?_
                refine AllReadyH.cons (o := ?or15_20) ?ir15_20 (fun K hK => ?sr15_20) AllReadyH.nil
                case ir15_20 => (simp only [List.getElem?_toArray, List.getElem?_cons_succ, List.getElem?_cons_zero]; rfl)
                (first | (go_simp; (first | (go_at_call 176; refine (HW.out _).mono ?_; rintro e w1 ⟨rfl, hb1⟩) | (go_at_call 108; refine (HCl.out _).mono ?_; rintro e w1 ⟨rfl, hb1⟩) | (go_at_call 168; with_reducible refine (HY.out _).mono ?_; rintro e w1 ⟨rfl, rfl⟩) | skip)))
                refine hK.out _ _ ?kr15_20 (fun hHeld => ?_)
                case kr15_20 => (try dsimp only); (first | with_reducible assumption | exact s11_bel (by assumption) (by assumption) | assumption | exact s11_alloc (by assumption) _)
                clear hK K
                try simp only [Act.put, List.setIfInBounds_toArray, List.set_cons_zero, List.set_cons_succ]
                refine wpAnyH_take (i := 21) (oi := ?or15_21) (v := ?vr15_21) ?ir15_21 (by kernel_rfl) (by kernel_rfl) (by kernel_rfl) (fun _ _ _ h => h) ?yr15_21 (by assumption) ?wr15_21
                case ir15_21 => (simp only [List.getElem?_toArray, List.getElem?_cons_succ, List.getElem?_cons_zero]; rfl)
                case yr15_21 => exact Or.inl ⟨by rfl, by intro v hSw; (try dsimp only at hSw); go_simp; try with_reducible rfl⟩
                try simp only [Act.put, List.setIfInBounds_toArray, List.set_cons_zero, List.set_cons_succ]
                refine wpAnyH_take (i := 22) (oi := ?or15_22) (v := ?vr15_22) ?ir15_22 (by kernel_rfl) (by kernel_rfl) (by kernel_rfl) (fun _ _ _ h => h) ?yr15_22 (by assumption) ?wr15_22
                case ir15_22 => (simp only [List.getElem?_toArray, List.getElem?_cons_succ, List.getElem?_cons_zero]; rfl)
                case yr15_22 => exact Or.inl ⟨by rfl, by intro v hSw; (try dsimp only at hSw); go_simp; try with_reducible rfl⟩
                try simp only [Act.put, List.setIfInBounds_toArray, List.set_cons_zero, List.set_cons_succ]
                refine wpAnyH_done (by kernel_rfl) ?_ _
                refine NoPanic.normal ?_
                have HS3 : Box9 w _ k (some ⟨d, off, none⟩) cap := ⟨hHeld.1, hHeld.2.1, hHeld.2.2.1, hHeld.2.2.2.1, hHeld.2.2.2.2.1, hHeld.2.2.2.2.2.1, hHeld.2.2.2.2.2.2.1, hHeld.2.2.2.2.2.2.2.1, hHeld.2.2.2.2.2.2.2.2.1, hHeld.2.2.2.2.2.2.2.2.2.2.2⟩
                clear hHeld hS
                go_wp2
                go_roundw
                case rel => exact ⟨n + 1, by have := HN.out; omega, by go_num, HS3⟩
                case measure => simp [intOf]; omega
              · have e2 : inB y 0 (pow2 k.l - 1) = false := by
                  cases hb : inB y 0 (pow2 k.l - 1) with
                  | false => rfl
                  | true => exact absurd (by have := inB_iff.1 hb; omega) h2
                simp only [e2] at HY
                have HN := hid (show ¬ i0 = k.ps.length by
                  rcases Nat.lt_or_ge n i0 with h3 | h3
                  · exact absurd (HF.out.2.1 n _ h3 HP.out).2 h2
                  · omega)
                clear h1 h2 e2
                go_wp2_with fail
                clear q0 q1 q2 q3 q4 q5 q6 q7 q8 hd0 hd1
                have hS := HS.out
                refine wp_region_noPanic ?_
                refine wp_region_held_drew (S := (fun v => v.cell? ⟨w.heap.size, 0, none⟩ = some (.int .i64 k.o) ∧ v.cell? ⟨w.heap.size, 1, none⟩ = some (.int .i64 k.l) ∧ v.cell? ⟨w.heap.size, 2, none⟩ = some (.int .i64 k.m) ∧ v.cell? ⟨w.heap.size, 3, none⟩ = some (.slice (some ⟨d, off, none⟩) k.ps.length cap) ∧ v.cell? ⟨w.heap.size, 4, none⟩ = some (.int .i64 k.base) ∧ v.cell? ⟨w.heap.size, 5, none⟩ = some (.int .i64 k.last) ∧ v.cell? ⟨w.heap.size + 1, 0, none⟩ = some (.int .i64 k.o) ∧ v.cell? ⟨w.heap.size + 1, 1, none⟩ = some (.int .i64 k.l) ∧ v.cell? ⟨w.heap.size + 1, 2, none⟩ = some (.int .i64 k.m) ∧ v.cell? ⟨d, off + n * 2, none⟩ = some (.int .i64 x) ∧ v.cell? ⟨d, off + n * 2 + 1, none⟩ = some (.int .i64 y) ∧ Below w.heap.size w v)) (by kernel_rfl) (s11_drew hS) (fun hHeld => ?_)
                refine wpAnyH_take (i := 0) (oi := ?or16_0) (v := ?vr16_0) ?ir16_0 (by kernel_rfl) (by kernel_rfl) (by kernel_rfl) (fun _ _ _ h => h) ?yr16_0 (by assumption) ?wr16_0
                case ir16_0 => (simp only [List.getElem?_toArray, List.getElem?_cons_zero]; rfl)
                case yr16_0 => exact Or.inl ⟨by rfl, by intro v hSw; (try dsimp only at hSw); go_simp; try with_reducible rfl⟩
                try simp only [Act.put, List.setIfInBounds_toArray, List.set_cons_zero, List.set_cons_succ]
                refine wpAnyH_take (i := 1) (oi := ?or16_1) (v := ?vr16_1) ?ir16_1 (by kernel_rfl) (by kernel_rfl) (by kernel_rfl) (fun _ _ _ h => h) ?yr16_1 (by assumption) ?wr16_1
                case ir16_1 => (simp only [List.getElem?_toArray, List.getElem?_cons_succ, List.getElem?_cons_zero]; rfl)
                case yr16_1 => exact Or.inl ⟨by rfl, by intro v hSw; (try dsimp only at hSw); go_simp; try with_reducible rfl⟩
                try simp only [Act.put, List.setIfInBounds_toArray, List.set_cons_zero, List.set_cons_succ]
                refine wpAnyH_take (i := 2) (oi := ?or16_2) (v := ?vr16_2) ?ir16_2 (by kernel_rfl) (by kernel_rfl) (by kernel_rfl) (fun _ _ _ h => h) ?yr16_2 (by assumption) ?wr16_2
                case ir16_2 => (simp only [List.getElem?_toArray, List.getElem?_cons_succ, List.getElem?_cons_zero]; rfl)
                case yr16_2 => exact Or.inl ⟨by rfl, by intro v hSw; (try dsimp only at hSw); go_simp; try with_reducible rfl⟩
                try simp only [Act.put, List.setIfInBounds_toArray, List.set_cons_zero, List.set_cons_succ]
                refine wpAnyH_take (i := 3) (oi := ?or16_3) (v := ?vr16_3) ?ir16_3 (by kernel_rfl) (by kernel_rfl) (by kernel_rfl) (fun _ _ _ h => h) ?yr16_3 (by assumption) ?wr16_3
                case ir16_3 => (simp only [List.getElem?_toArray, List.getElem?_cons_succ, List.getElem?_cons_zero]; rfl)
                case yr16_3 => exact Or.inl ⟨by rfl, by intro v hSw; (try dsimp only at hSw); go_simp; try with_reducible rfl⟩
                try simp only [Act.put, List.setIfInBounds_toArray, List.set_cons_zero, List.set_cons_succ]
                refine wpAnyH_take (i := 4) (oi := ?or16_4) (v := ?vr16_4) ?ir16_4 (by kernel_rfl) (by kernel_rfl) (by kernel_rfl) (fun _ _ _ h => h) ?yr16_4 (by assumption) ?wr16_4
                case ir16_4 => (simp only [List.getElem?_toArray, List.getElem?_cons_succ, List.getElem?_cons_zero]; rfl)
                case yr16_4 => exact Or.inl ⟨by rfl, by intro v hSw; (try dsimp only at hSw); go_simp; try with_reducible rfl⟩
                try simp only [Act.put, List.setIfInBounds_toArray, List.set_cons_zero, List.set_cons_succ]
                refine wpAnyH_take (i := 5) (oi := ?or16_5) (v := ?vr16_5) ?ir16_5 (by kernel_rfl) (by kernel_rfl) (by kernel_rfl) (fun _ _ _ h => h) ?yr16_5 (by assumption) ?wr16_5
                case ir16_5 => (simp only [List.getElem?_toArray, List.getElem?_cons_succ, List.getElem?_cons_zero]; rfl)
                case yr16_5 => exact Or.inl ⟨by rfl, by intro v hSw; (try dsimp only at hSw); go_simp; try with_reducible rfl⟩
                try simp only [Act.put, List.setIfInBounds_toArray, List.set_cons_zero, List.set_cons_succ]
                refine wpAnyH_take (i := 6) (oi := ?or16_6) (v := ?vr16_6) ?ir16_6 (by kernel_rfl) (by kernel_rfl) (by kernel_rfl) (fun _ _ _ h => h) ?yr16_6 (by assumption) ?wr16_6
                case ir16_6 => (simp only [List.getElem?_toArray, List.getElem?_cons_succ, List.getElem?_cons_zero]; rfl)
                case yr16_6 => exact Or.inl ⟨by rfl, by intro v hSw; (try dsimp only at hSw); go_simp; try with_reducible rfl⟩
                try simp only [Act.put, List.setIfInBounds_toArray, List.set_cons_zero, List.set_cons_succ]
                refine wpAnyH_take (i := 7) (oi := ?or16_7) (v := ?vr16_7) ?ir16_7 (by kernel_rfl) (by kernel_rfl) (by kernel_rfl) (fun _ _ _ h => h) ?yr16_7 (by assumption) ?wr16_7
                case ir16_7 => (simp only [List.getElem?_toArray, List.getElem?_cons_succ, List.getElem?_cons_zero]; rfl)
                case yr16_7 => exact Or.inl ⟨by rfl, by intro v hSw; (try dsimp only at hSw); go_simp; try with_reducible rfl⟩
                try simp only [Act.put, List.setIfInBounds_toArray, List.set_cons_zero, List.set_cons_succ]
                refine wpAnyH_ready (rs := [8]) (by kernel_rfl) (by simp) ?_
                refine AllReadyH.cons (o := ?or16_8) ?ir16_8 (fun K hK => ?sr16_8) AllReadyH.nil
                case ir16_8 => (simp only [List.getElem?_toArray, List.getElem?_cons_succ, List.getElem?_cons_zero]; rfl)
                (first | (go_simp; (first | (go_at_call 176; refine (HW.out _).mono ?_; rintro e w1 ⟨rfl, hb1⟩) | (go_at_call 108; refine (HCl.out _).mono ?_; rintro e w1 ⟨rfl, hb1⟩) | (go_at_call 168; with_reducible refine (HY.out _).mono ?_; rintro e w1 ⟨rfl, rfl⟩) | skip)))
                refine hK.out _ _ ?kr16_8 (fun hHeld => ?_)
                case kr16_8 => (try dsimp only); (first | with_reducible assumption | exact s11_bel (by assumption) (by assumption) | assumption | exact s11_alloc (by assumption) _)
                clear hK K
                try simp only [Act.put, List.setIfInBounds_toArray, List.set_cons_zero, List.set_cons_succ]
                refine wpAnyH_take (i := 9) (oi := ?or16_9) (v := ?vr16_9) ?ir16_9 (by kernel_rfl) (by kernel_rfl) (by kernel_rfl) (fun _ _ _ h => h) ?yr16_9 (by assumption) ?wr16_9
                case ir16_9 => (simp only [List.getElem?_toArray, List.getElem?_cons_succ, List.getElem?_cons_zero]; rfl)
                case yr16_9 => exact Or.inl ⟨by rfl, by intro v hSw; (try dsimp only at hSw); go_simp; try with_reducible rfl⟩
                try simp only [Act.put, List.setIfInBounds_toArray, List.set_cons_zero, List.set_cons_succ]
                refine wpAnyH_take (i := 10) (oi := ?or16_10) (v := ?vr16_10) ?ir16_10 (by kernel_rfl) (by kernel_rfl) (by kernel_rfl) (fun _ _ _ h => h) ?yr16_10 (by assumption) ?wr16_10
                case ir16_10 => (simp only [List.getElem?_toArray, List.getElem?_cons_succ, List.getElem?_cons_zero]; rfl)
                case yr16_10 => exact Or.inl ⟨by rfl, by intro v hSw; (try dsimp only at hSw); go_simp; try with_reducible rfl⟩
                try simp only [Act.put, List.setIfInBounds_toArray, List.set_cons_zero, List.set_cons_succ]
                refine wpAnyH_take (i := 11) (oi := ?or16_11) (v := ?vr16_11) ?ir16_11 (by kernel_rfl) (by kernel_rfl) (by kernel_rfl) (fun _ _ _ h => h) ?yr16_11 (by assumption) ?wr16_11
                case ir16_11 => (simp only [List.getElem?_toArray, List.getElem?_cons_succ, List.getElem?_cons_zero]; rfl)
                case yr16_11 => exact Or.inl ⟨by rfl, by intro v hSw; (try dsimp only at hSw); go_simp; try with_reducible rfl⟩
                try simp only [Act.put, List.setIfInBounds_toArray, List.set_cons_zero, List.set_cons_succ]
                refine wpAnyH_take (i := 12) (oi := ?or16_12) (v := ?vr16_12) ?ir16_12 (by kernel_rfl) (by kernel_rfl) (by kernel_rfl) (fun _ _ _ h => h) ?yr16_12 (by assumption) ?wr16_12
                case ir16_12 => (simp only [List.getElem?_toArray, List.getElem?_cons_succ, List.getElem?_cons_zero]; rfl)
                case yr16_12 => exact Or.inl ⟨by rfl, by intro v hSw; (try dsimp only at hSw); go_simp; try with_reducible rfl⟩
                try simp only [Act.put, List.setIfInBounds_toArray, List.set_cons_zero, List.set_cons_succ]
                refine wpAnyH_take (i := 13) (oi := ?or16_13) (v := ?vr16_13) ?ir16_13 (by kernel_rfl) (by kernel_rfl) (by kernel_rfl) (fun _ _ _ h => h) ?yr16_13 (by assumption) ?wr16_13
                case ir16_13 => (simp only [List.getElem?_toArray, List.getElem?_cons_succ, List.getElem?_cons_zero]; rfl)
                case yr16_13 => exact Or.inl ⟨by rfl, by intro v hSw; (try dsimp only at hSw); go_simp; try with_reducible rfl⟩
                try simp only [Act.put, List.setIfInBounds_toArray, List.set_cons_zero, List.set_cons_succ]
                refine wpAnyH_take (i := 14) (oi := ?or16_14) (v := ?vr16_14) ?ir16_14 (by kernel_rfl) (by kernel_rfl) (by kernel_rfl) (fun _ _ _ h => h) ?yr16_14 (by assumption) ?wr16_14
                case ir16_14 => (simp only [List.getElem?_toArray, List.getElem?_cons_succ, List.getElem?_cons_zero]; rfl)
                case yr16_14 => exact Or.inl ⟨by rfl, by intro v hSw; (try dsimp only at hSw); go_simp; try with_reducible rfl⟩
                try simp only [Act.put, List.setIfInBounds_toArray, List.set_cons_zero, List.set_cons_succ]
                refine wpAnyH_take (i := 15) (oi := ?or16_15) (v := ?vr16_15) ?ir16_15 (by kernel_rfl) (by kernel_rfl) (by kernel_rfl) (fun _ _ _ h => h) ?yr16_15 (by assumption) ?wr16_15
                case ir16_15 => (simp only [List.getElem?_toArray, List.getElem?_cons_succ, List.getElem?_cons_zero]; rfl)
                case yr16_15 => exact Or.inl ⟨by rfl, by intro v hSw; (try dsimp only at hSw); go_simp; try with_reducible rfl⟩
                try simp only [Act.put, List.setIfInBounds_toArray, List.set_cons_zero, List.set_cons_succ]
                refine wpAnyH_take (i := 16) (oi := ?or16_16) (v := ?vr16_16) ?ir16_16 (by kernel_rfl) (by kernel_rfl) (by kernel_rfl) (fun _ _ _ h => h) ?yr16_16 (by assumption) ?wr16_16
                case ir16_16 => (simp only [List.getElem?_toArray, List.getElem?_cons_succ, List.getElem?_cons_zero]; rfl)
                case yr16_16 => exact Or.inl ⟨by rfl, by intro v hSw; (try dsimp only at hSw); go_simp; try with_reducible rfl⟩
                try simp only [Act.put, List.setIfInBounds_toArray, List.set_cons_zero, List.set_cons_succ]
                refine wpAnyH_take (i := 17) (oi := ?or16_17) (v := ?vr16_17) ?ir16_17 (by kernel_rfl) (by kernel_rfl) (by kernel_rfl) (fun _ _ _ h => h) ?yr16_17 (by assumption) ?wr16_17
                case ir16_17 => (simp only [List.getElem?_toArray, List.getElem?_cons_succ, List.getElem?_cons_zero]; rfl)
                case yr16_17 => exact Or.inl ⟨by rfl, by intro v hSw; (try dsimp only at hSw); go_simp; try with_reducible rfl⟩
                try simp only [Act.put, List.setIfInBounds_toArray, List.set_cons_zero, List.set_cons_succ]
                refine wpAnyH_ready (rs := [18]) (by kernel_rfl) (by simp) ?_
                refine AllReadyH.cons (o := ?or16_18) ?ir16_18 (fun K hK => ?sr16_18) AllReadyH.nil
                case ir16_18 => (simp only [List.getElem?_toArray, List.getElem?_cons_succ, List.getElem?_cons_zero]; rfl)
                (first | (go_simp; (first | (go_at_call 176; refine (HW.out _).mono ?_; rintro e w1 ⟨rfl, hb1⟩) | (go_at_call 108; refine (HCl.out _).mono ?_; rintro e w1 ⟨rfl, hb1⟩) | (go_at_call 168; with_reducible refine (HY.out _).mono ?_; rintro e w1 ⟨rfl, rfl⟩) | skip)))
                refine hK.out _ _ ?kr16_18 (fun hHeld => ?_)
                case kr16_18 => (try dsimp only); (first | with_reducible assumption | exact s11_bel (by assumption) (by assumption) | assumption | exact s11_alloc (by assumption) _)
                clear hK K
                try simp only [Act.put, List.setIfInBounds_toArray, List.set_cons_zero, List.set_cons_succ]
                refine wpAnyH_take (i := 19) (oi := ?or16_19) (v := ?vr16_19) ?ir16_19 (by kernel_rfl) (by kernel_rfl) (by kernel_rfl) (fun _ _ _ h => h) ?yr16_19 (by assumption) ?wr16_19
                case ir16_19 => (simp only [List.getElem?_toArray, List.getElem?_cons_succ, List.getElem?_cons_zero]; rfl)
                case yr16_19 => exact Or.inl ⟨by rfl, by intro v hSw; (try dsimp only at hSw); go_simp; try with_reducible rfl⟩
                try simp only [Act.put, List.setIfInBounds_toArray, List.set_cons_zero, List.set_cons_succ]
                refine wpAnyH_ready (rs := [20]) (by kernel_rfl) (by simp) ?_
                refine AllReadyH.cons (o := ?or16_20) ?ir16_20 (fun K hK => ?sr16_20) AllReadyH.nil
                case ir16_20 => (simp only [List.getElem?_toArray, List.getElem?_cons_succ, List.getElem?_cons_zero]; rfl)
                (first | (go_simp; (first | (go_at_call 176; refine (HW.out _).mono ?_; rintro e w1 ⟨rfl, hb1⟩) | (go_at_call 108; refine (HCl.out _).mono ?_; rintro e w1 ⟨rfl, hb1⟩) | (go_at_call 168; with_reducible refine (HY.out _).mono ?_; rintro e w1 ⟨rfl, rfl⟩) | skip)))
                refine hK.out _ _ ?kr16_20 (fun hHeld => ?_)
                case kr16_20 => (try dsimp only); (first | with_reducible assumption | exact s11_bel (by assumption) (by assumption) | assumption | exact s11_alloc (by assumption) _)
                clear hK K
                try simp only [Act.put, List.setIfInBounds_toArray, List.set_cons_zero, List.set_cons_succ]
                refine wpAnyH_take (i := 21) (oi := ?or16_21) (v := ?vr16_21) ?ir16_21 (by kernel_rfl) (by kernel_rfl) (by kernel_rfl) (fun _ _ _ h => h) ?yr16_21 (by assumption) ?wr16_21
                case ir16_21 => (simp only [List.getElem?_toArray, List.getElem?_cons_succ, List.getElem?_cons_zero]; rfl)
                case yr16_21 => exact Or.inl ⟨by rfl, by intro v hSw; (try dsimp only at hSw); go_simp; try with_reducible rfl⟩
                try simp only [Act.put, List.setIfInBounds_toArray, List.set_cons_zero, List.set_cons_succ]
                refine wpAnyH_take (i := 22) (oi := ?or16_22) (v := ?vr16_22) ?ir16_22 (by kernel_rfl) (by kernel_rfl) (by kernel_rfl) (fun _ _ _ h => h) ?yr16_22 (by assumption) ?wr16_22
                case ir16_22 => (simp only [List.getElem?_toArray, List.getElem?_cons_succ, List.getElem?_cons_zero]; rfl)
                case yr16_22 => exact Or.inl ⟨by rfl, by intro v hSw; (try dsimp only at hSw); go_simp; try with_reducible rfl⟩
                try simp only [Act.put, List.setIfInBounds_toArray, List.set_cons_zero, List.set_cons_succ]
                refine wpAnyH_done (by kernel_rfl) ?_ _
                refine NoPanic.normal ?_
                go_wp2
                go_ret
                exact ⟨ret_bool (by rw [HK.out]; simp [HN.out]), by (repeat (first | with_reducible assumption | with_reducible exact Below.refl _ _ | with_reducible refine bel_alloc ?_ _ | with_reducible refine bel_drew ?_ | with_reducible refine bel_drewN ?_ _ | with_reducible refine bel_set ?_ (by first | omega | (simp; done) | (simp; omega)) _ | with_reducible refine bel_trans ?_ (by with_reducible assumption) | exact Below.refl _ _ | assumption | refine bel_alloc ?_ _ | refine bel_drew ?_ | refine bel_drewN ?_ _ | refine bel_set ?_ (by first | omega | (simp; done) | (simp; omega)) _ | refine bel_trans ?_ (by assumption)))⟩
            · simp only [decide_eq_false h1] at HW
              have HN := hid (show ¬ i0 = k.ps.length by
                rcases Nat.lt_or_ge n i0 with h3 | h3
                · exact absurd (HF.out.2.1 n _ h3 HP.out).1 h1
                · omega)
              clear h1
              go_wp2_with fail
              clear q0 q1 q2 q3 q4 q5 q6 q7 q8 hd0 hd1
              have hS := HS.out
              refine wp_region_noPanic ?_
              refine wp_region_held_drew (S := (fun v => v.cell? ⟨w.heap.size, 0, none⟩ = some (.int .i64 k.o) ∧ v.cell? ⟨w.heap.size, 1, none⟩ = some (.int .i64 k.l) ∧ v.cell? ⟨w.heap.size, 2, none⟩ = some (.int .i64 k.m) ∧ v.cell? ⟨w.heap.size, 3, none⟩ = some (.slice (some ⟨d, off, none⟩) k.ps.length cap) ∧ v.cell? ⟨w.heap.size, 4, none⟩ = some (.int .i64 k.base) ∧ v.cell? ⟨w.heap.size, 5, none⟩ = some (.int .i64 k.last) ∧ v.cell? ⟨w.heap.size + 1, 0, none⟩ = some (.int .i64 k.o) ∧ v.cell? ⟨w.heap.size + 1, 1, none⟩ = some (.int .i64 k.l) ∧ v.cell? ⟨w.heap.size + 1, 2, none⟩ = some (.int .i64 k.m) ∧ v.cell? ⟨d, off + n * 2, none⟩ = some (.int .i64 x) ∧ v.cell? ⟨d, off + n * 2 + 1, none⟩ = some (.int .i64 y) ∧ Below w.heap.size w v)) (by kernel_rfl) (s11_drew hS) (fun hHeld => ?_)
              refine wpAnyH_take (i := 0) (oi := ?or17_0) (v := ?vr17_0) ?ir17_0 (by kernel_rfl) (by kernel_rfl) (by kernel_rfl) (fun _ _ _ h => h) ?yr17_0 (by assumption) ?wr17_0
              case ir17_0 => (simp only [List.getElem?_toArray, List.getElem?_cons_zero]; rfl)
              case yr17_0 => exact Or.inl ⟨by rfl, by intro v hSw; (try dsimp only at hSw); go_simp; try with_reducible rfl⟩
              try simp only [Act.put, List.setIfInBounds_toArray, List.set_cons_zero, List.set_cons_succ]
              refine wpAnyH_take (i := 1) (oi := ?or17_1) (v := ?vr17_1) ?ir17_1 (by kernel_rfl) (by kernel_rfl) (by kernel_rfl) (fun _ _ _ h => h) ?yr17_1 (by assumption) ?wr17_1
              case ir17_1 => (simp only [List.getElem?_toArray, List.getElem?_cons_succ, List.getElem?_cons_zero]; rfl)
              case yr17_1 => exact Or.inl ⟨by rfl, by intro v hSw; (try dsimp only at hSw); go_simp; try with_reducible rfl⟩
              try simp only [Act.put, List.setIfInBounds_toArray, List.set_cons_zero, List.set_cons_succ]
              refine wpAnyH_take (i := 2) (oi := ?or17_2) (v := ?vr17_2) ?ir17_2 (by kernel_rfl) (by kernel_rfl) (by kernel_rfl) (fun _ _ _ h => h) ?yr17_2 (by assumption) ?wr17_2
              case ir17_2 => (simp only [List.getElem?_toArray, List.getElem?_cons_succ, List.getElem?_cons_zero]; rfl)
              case yr17_2 => exact Or.inl ⟨by rfl, by intro v hSw; (try dsimp only at hSw); go_simp; try with_reducible rfl⟩
              try simp only [Act.put, List.setIfInBounds_toArray, List.set_cons_zero, List.set_cons_succ]
              refine wpAnyH_take (i := 3) (oi := ?or17_3) (v := ?vr17_3) ?ir17_3 (by kernel_rfl) (by kernel_rfl) (by kernel_rfl) (fun _ _ _ h => h) ?yr17_3 (by assumption) ?wr17_3
              case ir17_3 => (simp only [List.getElem?_toArray, List.getElem?_cons_succ, List.getElem?_cons_zero]; rfl)
              case yr17_3 => exact Or.inl ⟨by rfl, by intro v hSw; (try dsimp only at hSw); go_simp; try with_reducible rfl⟩
              try simp only [Act.put, List.setIfInBounds_toArray, List.set_cons_zero, List.set_cons_succ]
              refine wpAnyH_take (i := 4) (oi := ?or17_4) (v := ?vr17_4) ?ir17_4 (by kernel_rfl) (by kernel_rfl) (by kernel_rfl) (fun _ _ _ h => h) ?yr17_4 (by assumption) ?wr17_4
              case ir17_4 => (simp only [List.getElem?_toArray, List.getElem?_cons_succ, List.getElem?_cons_zero]; rfl)
              case yr17_4 => exact Or.inl ⟨by rfl, by intro v hSw; (try dsimp only at hSw); go_simp; try with_reducible rfl⟩
              try simp only [Act.put, List.setIfInBounds_toArray, List.set_cons_zero, List.set_cons_succ]
              refine wpAnyH_take (i := 5) (oi := ?or17_5) (v := ?vr17_5) ?ir17_5 (by kernel_rfl) (by kernel_rfl) (by kernel_rfl) (fun _ _ _ h => h) ?yr17_5 (by assumption) ?wr17_5
              case ir17_5 => (simp only [List.getElem?_toArray, List.getElem?_cons_succ, List.getElem?_cons_zero]; rfl)
              case yr17_5 => exact Or.inl ⟨by rfl, by intro v hSw; (try dsimp only at hSw); go_simp; try with_reducible rfl⟩
              try simp only [Act.put, List.setIfInBounds_toArray, List.set_cons_zero, List.set_cons_succ]
              refine wpAnyH_take (i := 6) (oi := ?or17_6) (v := ?vr17_6) ?ir17_6 (by kernel_rfl) (by kernel_rfl) (by kernel_rfl) (fun _ _ _ h => h) ?yr17_6 (by assumption) ?wr17_6
              case ir17_6 => (simp only [List.getElem?_toArray, List.getElem?_cons_succ, List.getElem?_cons_zero]; rfl)
              case yr17_6 => exact Or.inl ⟨by rfl, by intro v hSw; (try dsimp only at hSw); go_simp; try with_reducible rfl⟩
              try simp only [Act.put, List.setIfInBounds_toArray, List.set_cons_zero, List.set_cons_succ]
              refine wpAnyH_take (i := 7) (oi := ?or17_7) (v := ?vr17_7) ?ir17_7 (by kernel_rfl) (by kernel_rfl) (by kernel_rfl) (fun _ _ _ h => h) ?yr17_7 (by assumption) ?wr17_7
              case ir17_7 => (simp only [List.getElem?_toArray, List.getElem?_cons_succ, List.getElem?_cons_zero]; rfl)
              case yr17_7 => exact Or.inl ⟨by rfl, by intro v hSw; (try dsimp only at hSw); go_simp; try with_reducible rfl⟩
              try simp only [Act.put, List.setIfInBounds_toArray, List.set_cons_zero, List.set_cons_succ]
              refine wpAnyH_ready (rs := [8]) (by kernel_rfl) (by simp) ?_
              refine AllReadyH.cons (o := ?or17_8) ?ir17_8 (fun K hK => ?sr17_8) AllReadyH.nil
              case ir17_8 => (simp only [List.getElem?_toArray, List.getElem?_cons_succ, List.getElem?_cons_zero]; rfl)
              (first | (go_simp; (first | (go_at_call 176; refine (HW.out _).mono ?_; rintro e w1 ⟨rfl, hb1⟩) | (go_at_call 108; refine (HCl.out _).mono ?_; rintro e w1 ⟨rfl, hb1⟩) | (go_at_call 168; with_reducible refine (HY.out _).mono ?_; rintro e w1 ⟨rfl, rfl⟩) | skip)))
              refine hK.out _ _ ?kr17_8 (fun hHeld => ?_)
              case kr17_8 => (try dsimp only); (first | with_reducible assumption | exact s11_bel (by assumption) (by assumption) | assumption | exact s11_alloc (by assumption) _)
              clear hK K
              try simp only [Act.put, List.setIfInBounds_toArray, List.set_cons_zero, List.set_cons_succ]
              refine wpAnyH_take (i := 9) (oi := ?or17_9) (v := ?vr17_9) ?ir17_9 (by kernel_rfl) (by kernel_rfl) (by kernel_rfl) (fun _ _ _ h => h) ?yr17_9 (by assumption) ?wr17_9
              case ir17_9 => (simp only [List.getElem?_toArray, List.getElem?_cons_succ, List.getElem?_cons_zero]; rfl)
              case yr17_9 => exact Or.inl ⟨by rfl, by intro v hSw; (try dsimp only at hSw); go_simp; try with_reducible rfl⟩
              try simp only [Act.put, List.setIfInBounds_toArray, List.set_cons_zero, List.set_cons_succ]
              refine wpAnyH_take (i := 10) (oi := ?or17_10) (v := ?vr17_10) ?ir17_10 (by kernel_rfl) (by kernel_rfl) (by kernel_rfl) (fun _ _ _ h => h) ?yr17_10 (by assumption) ?wr17_10
              case ir17_10 => (simp only [List.getElem?_toArray, List.getElem?_cons_succ, List.getElem?_cons_zero]; rfl)
              case yr17_10 => exact Or.inl ⟨by rfl, by intro v hSw; (try dsimp only at hSw); go_simp; try with_reducible rfl⟩
              try simp only [Act.put, List.setIfInBounds_toArray, List.set_cons_zero, List.set_cons_succ]
              refine wpAnyH_take (i := 11) (oi := ?or17_11) (v := undef) ?ir17_11 (by kernel_rfl) (by kernel_rfl) (by kernel_rfl) (fun _ _ _ h => h) ?yr17_11 (by assumption) ?wr17_11
              case ir17_11 => (simp only [List.getElem?_toArray, List.getElem?_cons_succ, List.getElem?_cons_zero]; rfl)
              case yr17_11 => exact Or.inr ⟨by rfl, rfl⟩
              try simp only [Act.put, List.setIfInBounds_toArray, List.set_cons_zero, List.set_cons_succ]
              refine wpAnyH_take (i := 12) (oi := ?or17_12) (v := undef) ?ir17_12 (by kernel_rfl) (by kernel_rfl) (by kernel_rfl) (fun _ _ _ h => h) ?yr17_12 (by assumption) ?wr17_12
              case ir17_12 => (simp only [List.getElem?_toArray, List.getElem?_cons_succ, List.getElem?_cons_zero]; rfl)
              case yr17_12 => exact Or.inr ⟨by rfl, rfl⟩
              try simp only [Act.put, List.setIfInBounds_toArray, List.set_cons_zero, List.set_cons_succ]
              refine wpAnyH_take (i := 13) (oi := ?or17_13) (v := undef) ?ir17_13 (by kernel_rfl) (by kernel_rfl) (by kernel_rfl) (fun _ _ _ h => h) ?yr17_13 (by assumption) ?wr17_13
              case ir17_13 => (simp only [List.getElem?_toArray, List.getElem?_cons_succ, List.getElem?_cons_zero]; rfl)
              case yr17_13 => exact Or.inr ⟨by rfl, rfl⟩
              try simp only [Act.put, List.setIfInBounds_toArray, List.set_cons_zero, List.set_cons_succ]
              refine wpAnyH_take (i := 14) (oi := ?or17_14) (v := undef) ?ir17_14 (by kernel_rfl) (by kernel_rfl) (by kernel_rfl) (fun _ _ _ h => h) ?yr17_14 (by assumption) ?wr17_14
              case ir17_14 => (simp only [List.getElem?_toArray, List.getElem?_cons_succ, List.getElem?_cons_zero]; rfl)
              case yr17_14 => exact Or.inr ⟨by rfl, rfl⟩
              try simp only [Act.put, List.setIfInBounds_toArray, List.set_cons_zero, List.set_cons_succ]
              refine wpAnyH_take (i := 15) (oi := ?or17_15) (v := undef) ?ir17_15 (by kernel_rfl) (by kernel_rfl) (by kernel_rfl) (fun _ _ _ h => h) ?yr17_15 (by assumption) ?wr17_15
              case ir17_15 => (simp only [List.getElem?_toArray, List.getElem?_cons_succ, List.getElem?_cons_zero]; rfl)
              case yr17_15 => exact Or.inr ⟨by rfl, rfl⟩
              try simp only [Act.put, List.setIfInBounds_toArray, List.set_cons_zero, List.set_cons_succ]
              refine wpAnyH_take (i := 16) (oi := ?or17_16) (v := undef) ?ir17_16 (by kernel_rfl) (by kernel_rfl) (by kernel_rfl) (fun _ _ _ h => h) ?yr17_16 (by assumption) ?wr17_16
              case ir17_16 => (simp only [List.getElem?_toArray, List.getElem?_cons_succ, List.getElem?_cons_zero]; rfl)
              case yr17_16 => exact Or.inr ⟨by rfl, rfl⟩
              try simp only [Act.put, List.setIfInBounds_toArray, List.set_cons_zero, List.set_cons_succ]
              refine wpAnyH_take (i := 17) (oi := ?or17_17) (v := undef) ?ir17_17 (by kernel_rfl) (by kernel_rfl) (by kernel_rfl) (fun _ _ _ h => h) ?yr17_17 (by assumption) ?wr17_17
              case ir17_17 => (simp only [List.getElem?_toArray, List.getElem?_cons_succ, List.getElem?_cons_zero]; rfl)
              case yr17_17 => exact Or.inr ⟨by rfl, rfl⟩
              try simp only [Act.put, List.setIfInBounds_toArray, List.set_cons_zero, List.set_cons_succ]
              refine wpAnyH_take (i := 18) (oi := ?or17_18) (v := undef) ?ir17_18 (by kernel_rfl) (by kernel_rfl) (by kernel_rfl) (fun _ _ _ h => h) ?yr17_18 (by assumption) ?wr17_18
              case ir17_18 => (simp only [List.getElem?_toArray, List.getElem?_cons_succ, List.getElem?_cons_zero]; rfl)
              case yr17_18 => exact Or.inr ⟨by rfl, rfl⟩
              try simp only [Act.put, List.setIfInBounds_toArray, List.set_cons_zero, List.set_cons_succ]
              refine wpAnyH_take (i := 19) (oi := ?or17_19) (v := undef) ?ir17_19 (by kernel_rfl) (by kernel_rfl) (by kernel_rfl) (fun _ _ _ h => h) ?yr17_19 (by assumption) ?wr17_19
              case ir17_19 => (simp only [List.getElem?_toArray, List.getElem?_cons_succ, List.getElem?_cons_zero]; rfl)
              case yr17_19 => exact Or.inr ⟨by rfl, rfl⟩
              try simp only [Act.put, List.setIfInBounds_toArray, List.set_cons_zero, List.set_cons_succ]
              refine wpAnyH_take (i := 20) (oi := ?or17_20) (v := undef) ?ir17_20 (by kernel_rfl) (by kernel_rfl) (by kernel_rfl) (fun _ _ _ h => h) ?yr17_20 (by assumption) ?wr17_20
              case ir17_20 => (simp only [List.getElem?_toArray, List.getElem?_cons_succ, List.getElem?_cons_zero]; rfl)
              case yr17_20 => exact Or.inr ⟨by rfl, rfl⟩
              try simp only [Act.put, List.setIfInBounds_toArray, List.set_cons_zero, List.set_cons_succ]
              refine wpAnyH_take (i := 21) (oi := ?or17_21) (v := undef) ?ir17_21 (by kernel_rfl) (by kernel_rfl) (by kernel_rfl) (fun _ _ _ h => h) ?yr17_21 (by assumption) ?wr17_21
              case ir17_21 => (simp only [List.getElem?_toArray, List.getElem?_cons_succ, List.getElem?_cons_zero]; rfl)
              case yr17_21 => exact Or.inr ⟨by rfl, rfl⟩
              try simp only [Act.put, List.setIfInBounds_toArray, List.set_cons_zero, List.set_cons_succ]
              refine wpAnyH_take (i := 22) (oi := ?or17_22) (v := ?vr17_22) ?ir17_22 (by kernel_rfl) (by kernel_rfl) (by kernel_rfl) (fun _ _ _ h => h) ?yr17_22 (by assumption) ?wr17_22
              case ir17_22 => (simp only [List.getElem?_toArray, List.getElem?_cons_succ, List.getElem?_cons_zero]; rfl)
              case yr17_22 => exact Or.inl ⟨by rfl, by intro v hSw; (try dsimp only at hSw); go_simp; try with_reducible rfl⟩
              try simp only [Act.put, List.setIfInBounds_toArray, List.set_cons_zero, List.set_cons_succ]
              refine wpAnyH_done (by kernel_rfl) ?_ _
              refine NoPanic.normal ?_
              go_wp2
              go_ret
              exact ⟨ret_bool (by rw [HK.out]; simp [HN.out]), by (repeat (first | with_reducible assumption | with_reducible exact Below.refl _ _ | with_reducible refine bel_alloc ?_ _ | with_reducible refine bel_drew ?_ | with_reducible refine bel_drewN ?_ _ | with_reducible refine bel_set ?_ (by first | omega | (simp; done) | (simp; omega)) _ | with_reducible refine bel_trans ?_ (by with_reducible assumption) | exact Below.refl _ _ | assumption | refine bel_alloc ?_ _ | refine bel_drew ?_ | refine bel_drewN ?_ _ | refine bel_set ?_ (by first | omega | (simp; done) | (simp; omega)) _ | refine bel_trans ?_ (by assumption)))⟩
          · have HN := hid (show i0 = k.ps.length by omega)
            have hz : w.heap.size + 1 < wr.heap.size := World.block_lt_of_cell? wr _ q6
            have hz0 : w.heap.size < wr.heap.size := by omega
            have HW := hid (fun (v : World) => HWc.out v k.last k.ps.length (by omega))
            by_cases h1 : HasW (pow2 k.l) k.last k.ps.length
            · simp only [decide_eq_true h1] at HW
              have HL := hid (show decide (LastOk k) = true by simp [LastOk, Kn.c, h1])
              clear h1
              go_wp2_with (go_at_call 176; refine (HW.out _).mono ?_; rintro e w3 ⟨rfl, hb3⟩; have hc3 := bcell hb3; have hz3_0 : w.heap.size < w3.heap.size := (by have := hb3.size; first | omega | (simp at this; omega)); have hz3_1 : w.heap.size + 1 < w3.heap.size := (by have := hb3.size; first | omega | (simp at this; omega)))
              go_ret
              exact ⟨ret_bool (by rw [HK.out, HL.out]; simp [HN.out]), by (repeat (first | with_reducible assumption | with_reducible exact Below.refl _ _ | with_reducible refine bel_alloc ?_ _ | with_reducible refine bel_drew ?_ | with_reducible refine bel_drewN ?_ _ | with_reducible refine bel_set ?_ (by first | omega | (simp; done) | (simp; omega)) _ | with_reducible refine bel_trans ?_ (by with_reducible assumption) | exact Below.refl _ _ | assumption | refine bel_alloc ?_ _ | refine bel_drew ?_ | refine bel_drewN ?_ _ | refine bel_set ?_ (by first | omega | (simp; done) | (simp; omega)) _ | refine bel_trans ?_ (by assumption)))⟩
            · simp only [decide_eq_false h1] at HW
              by_cases h2 : k.last = -1
              · have HL := hid (show decide (LastOk k) = (k.base == (k.ps.length : Int)) by
                  have hi : LastOk k ↔ k.base = (k.ps.length : Int) := ⟨fun h => h.elim (fun h => absurd h h1) (·.2), fun h => Or.inr ⟨h2, h⟩⟩
                  rw [Bool.eq_iff_iff]; simp [hi])
                clear h1
                rw [h2] at q5
                have HW2 := HW.out
                rw [h2] at HW2
                have HW3 := hid HW2
                clear h2 HW2
                go_wp2_with (go_at_call 176; refine (HW3.out _).mono ?_; rintro e w3 ⟨rfl, hb3⟩; have hc3 := bcell hb3; have hz3_0 : w.heap.size < w3.heap.size := (by have := hb3.size; first | omega | (simp at this; omega)); have hz3_1 : w.heap.size + 1 < w3.heap.size := (by have := hb3.size; first | omega | (simp at this; omega)))
                go_ret
                exact ⟨ret_bool (by rw [HK.out, HL.out]; simp [HN.out]), by (repeat (first | with_reducible assumption | with_reducible exact Below.refl _ _ | with_reducible refine bel_alloc ?_ _ | with_reducible refine bel_drew ?_ | with_reducible refine bel_drewN ?_ _ | with_reducible refine bel_set ?_ (by first | omega | (simp; done) | (simp; omega)) _ | with_reducible refine bel_trans ?_ (by with_reducible assumption) | exact Below.refl _ _ | assumption | refine bel_alloc ?_ _ | refine bel_drew ?_ | refine bel_drewN ?_ _ | refine bel_set ?_ (by first | omega | (simp; done) | (simp; omega)) _ | refine bel_trans ?_ (by assumption)))⟩
              · have HL := hid (show decide (LastOk k) = false by simp [LastOk, Kn.c, h1, h2])
                have e2 : (k.last == -1) = false := by simpa using h2
                clear h1 h2
                go_wp2_with (go_at_call 176; refine (HW.out _).mono ?_; rintro e w3 ⟨rfl, hb3⟩; have hc3 := bcell hb3; have hz3_0 : w.heap.size < w3.heap.size := (by have := hb3.size; first | omega | (simp at this; omega)); have hz3_1 : w.heap.size + 1 < w3.heap.size := (by have := hb3.size; first | omega | (simp at this; omega)))
                go_ret
                exact ⟨ret_bool (by rw [HK.out, HL.out]; simp), by (repeat (first | with_reducible assumption | with_reducible exact Below.refl _ _ | with_reducible refine bel_alloc ?_ _ | with_reducible refine bel_drew ?_ | with_reducible refine bel_drewN ?_ _ | with_reducible refine bel_set ?_ (by first | omega | (simp; done) | (simp; omega)) _ | with_reducible refine bel_trans ?_ (by with_reducible assumption) | exact Below.refl _ _ | assumption | refine bel_alloc ?_ _ | refine bel_drew ?_ | refine bel_drewN ?_ _ | refine bel_set ?_ (by first | omega | (simp; done) | (simp; omega)) _ | refine bel_trans ?_ (by assumption)))⟩
      · have e1 : inB k.base 0 k.ps.length = false := by
          cases hb : inB k.base 0 k.ps.length with
          | false => rfl
          | true => exact absurd (inB_iff.1 hb) hd
        rw [e1] at HI
        have HR := hid (show kB k i0 = false by
          rcases (show ¬ (0 ≤ k.base) ∨ ¬ (k.base ≤ (k.ps.length : Int)) by omega) with h | h <;> simp [kB, h])
        clear hr hd e1
        go_enter Try.func112, Try.ntmps112
        go_wp2_with fail
        have hS := HB0.out
        refine wp_region_noPanic ?_
        refine wp_region_held_drew (S := (fun v => v.cell? ⟨w.heap.size, 0, none⟩ = some (.int .i64 k.o) ∧ v.cell? ⟨w.heap.size, 1, none⟩ = some (.int .i64 k.l) ∧ v.cell? ⟨w.heap.size, 2, none⟩ = some (.int .i64 k.m) ∧ v.cell? ⟨w.heap.size, 3, none⟩ = some (.slice A k.ps.length cap) ∧ v.cell? ⟨w.heap.size, 4, none⟩ = some (.int .i64 k.base) ∧ v.cell? ⟨w.heap.size, 5, none⟩ = some (.int .i64 k.last) ∧ v.cell? ⟨w.heap.size + 1, 0, none⟩ = some (.int .i64 k.o) ∧ v.cell? ⟨w.heap.size + 1, 1, none⟩ = some (.int .i64 k.l) ∧ v.cell? ⟨w.heap.size + 1, 2, none⟩ = some (.int .i64 k.m) ∧ Below w.heap.size w v)) (by kernel_rfl) (s9_drew hS) (fun hHeld => ?_)
        refine wpAnyH_take (i := 0) (oi := ?or18_0) (v := ?vr18_0) ?ir18_0 (by kernel_rfl) (by kernel_rfl) (by kernel_rfl) (fun _ _ _ h => h) ?yr18_0 (by assumption) ?wr18_0
        case ir18_0 => (simp only [List.getElem?_toArray, List.getElem?_cons_zero]; rfl)
        case yr18_0 => exact Or.inl ⟨by rfl, by intro v hSw; (try dsimp only at hSw); go_simp; try with_reducible rfl⟩
        try simp only [Act.put, List.setIfInBounds_toArray, List.set_cons_zero, List.set_cons_succ]
        refine wpAnyH_ready (rs := [1]) (by kernel_rfl) (by simp) ?_
        refine AllReadyH.cons (o := ?or18_1) ?ir18_1 (fun K hK => ?sr18_1) AllReadyH.nil
        case ir18_1 => (simp only [List.getElem?_toArray, List.getElem?_cons_succ, List.getElem?_cons_zero]; rfl)
        (first | (go_simp; (first | (go_at_call 100; refine (HV.out _).mono ?_; rintro e w1 ⟨rfl, hb1⟩) | (go_at_call 175; refine (HC.out _).mono ?_; rintro e w1 ⟨rfl, hb1⟩) | (go_at_call 126; refine (HE.out _).mono ?_; rintro e w1 ⟨rfl, hb1⟩) | (go_at_call 168; with_reducible refine (HI.out _).mono ?_; rintro e w1 ⟨rfl, rfl⟩) | skip)))
        refine hK.out _ _ ?kr18_1 (fun hHeld => ?_)
        case kr18_1 => (try dsimp only); (first | with_reducible assumption | exact s9_bel (by assumption) (by assumption) | assumption | exact s9_alloc (by assumption) _)
        clear hK K
        try simp only [Act.put, List.setIfInBounds_toArray, List.set_cons_zero, List.set_cons_succ]
        refine wpAnyH_take (i := 2) (oi := ?or18_2) (v := ?vr18_2) ?ir18_2 (by kernel_rfl) (by kernel_rfl) (by kernel_rfl) (fun _ _ _ h => h) ?yr18_2 (by assumption) ?wr18_2
        case ir18_2 => (simp only [List.getElem?_toArray, List.getElem?_cons_succ, List.getElem?_cons_zero]; rfl)
        case yr18_2 => exact Or.inl ⟨by rfl, by intro v hSw; (try dsimp only at hSw); go_simp; try with_reducible rfl⟩
        try simp only [Act.put, List.setIfInBounds_toArray, List.set_cons_zero, List.set_cons_succ]
        refine wpAnyH_take (i := 3) (oi := ?or18_3) (v := ?vr18_3) ?ir18_3 (by kernel_rfl) (by kernel_rfl) (by kernel_rfl) (fun _ _ _ h => h) ?yr18_3 (by assumption) ?wr18_3
        case ir18_3 => (simp only [List.getElem?_toArray, List.getElem?_cons_succ, List.getElem?_cons_zero]; rfl)
        case yr18_3 => exact Or.inl ⟨by rfl, by intro v hSw; (try dsimp only at hSw); go_simp; try with_reducible rfl⟩
        try simp only [Act.put, List.setIfInBounds_toArray, List.set_cons_zero, List.set_cons_succ]
        refine wpAnyH_take (i := 4) (oi := ?or18_4) (v := ?vr18_4) ?ir18_4 (by kernel_rfl) (by kernel_rfl) (by kernel_rfl) (fun _ _ _ h => h) ?yr18_4 (by assumption) ?wr18_4
        case ir18_4 => (simp only [List.getElem?_toArray, List.getElem?_cons_succ, List.getElem?_cons_zero]; rfl)
        case yr18_4 => exact Or.inl ⟨by rfl, by intro v hSw; (try dsimp only at hSw); go_simp; try with_reducible rfl⟩
        try simp only [Act.put, List.setIfInBounds_toArray, List.set_cons_zero, List.set_cons_succ]
        refine wpAnyH_take (i := 5) (oi := ?or18_5) (v := ?vr18_5) ?ir18_5 (by kernel_rfl) (by kernel_rfl) (by kernel_rfl) (fun _ _ _ h => h) ?yr18_5 (by assumption) ?wr18_5
        case ir18_5 => (simp only [List.getElem?_toArray, List.getElem?_cons_succ, List.getElem?_cons_zero]; rfl)
        case yr18_5 => exact Or.inl ⟨by rfl, by intro v hSw; (try dsimp only at hSw); go_simp; try with_reducible rfl⟩
        try simp only [Act.put, List.setIfInBounds_toArray, List.set_cons_zero, List.set_cons_succ]
        refine wpAnyH_take (i := 6) (oi := ?or18_6) (v := ?vr18_6) ?ir18_6 (by kernel_rfl) (by kernel_rfl) (by kernel_rfl) (fun _ _ _ h => h) ?yr18_6 (by assumption) ?wr18_6
        case ir18_6 => (simp only [List.getElem?_toArray, List.getElem?_cons_succ, List.getElem?_cons_zero]; rfl)
        case yr18_6 => exact Or.inl ⟨by rfl, by intro v hSw; (try dsimp only at hSw); go_simp; try with_reducible rfl⟩
        try simp only [Act.put, List.setIfInBounds_toArray, List.set_cons_zero, List.set_cons_succ]
        refine wpAnyH_take (i := 7) (oi := ?or18_7) (v := ?vr18_7) ?ir18_7 (by kernel_rfl) (by kernel_rfl) (by kernel_rfl) (fun _ _ _ h => h) ?yr18_7 (by assumption) ?wr18_7
        case ir18_7 => (simp only [List.getElem?_toArray, List.getElem?_cons_succ, List.getElem?_cons_zero]; rfl)
        case yr18_7 => exact Or.inl ⟨by rfl, by intro v hSw; (try dsimp only at hSw); go_simp; try with_reducible rfl⟩
        try simp only [Act.put, List.setIfInBounds_toArray, List.set_cons_zero, List.set_cons_succ]
        refine wpAnyH_take (i := 9) (oi := ?or18_9) (v := ?vr18_9) ?ir18_9 (by kernel_rfl) (by kernel_rfl) (by kernel_rfl) (fun _ _ _ h => h) ?yr18_9 (by assumption) ?wr18_9
        case ir18_9 => (simp only [List.getElem?_toArray, List.getElem?_cons_succ, List.getElem?_cons_zero]; rfl)
        case yr18_9 => exact Or.inl ⟨by rfl, by intro v hSw; (try dsimp only at hSw); go_simp; try with_reducible rfl⟩
        try simp only [Act.put, List.setIfInBounds_toArray, List.set_cons_zero, List.set_cons_succ]
        refine wpAnyH_ready (rs := [8]) (by kernel_rfl) (by simp) ?_
        refine AllReadyH.cons (o := ?or18_8) ?ir18_8 (fun K hK => ?sr18_8) AllReadyH.nil
        case ir18_8 => (simp only [List.getElem?_toArray, List.getElem?_cons_succ, List.getElem?_cons_zero]; rfl)
        (first | (go_simp; (first | (go_at_call 100; refine (HV.out _).mono ?_; rintro e w1 ⟨rfl, hb1⟩) | (go_at_call 175; refine (HC.out _).mono ?_; rintro e w1 ⟨rfl, hb1⟩) | (go_at_call 126; refine (HE.out _).mono ?_; rintro e w1 ⟨rfl, hb1⟩) | (go_at_call 168; with_reducible refine (HI.out _).mono ?_; rintro e w1 ⟨rfl, rfl⟩) | skip)))
        refine hK.out _ _ ?kr18_8 (fun hHeld => ?_)
        case kr18_8 => (try dsimp only); (first | with_reducible assumption | exact s9_bel (by assumption) (by assumption) | assumption | exact s9_alloc (by assumption) _)
        clear hK K
        try simp only [Act.put, List.setIfInBounds_toArray, List.set_cons_zero, List.set_cons_succ]
        refine wpAnyH_ready (rs := [10]) (by kernel_rfl) (by simp) ?_
        refine AllReadyH.cons (o := ?or18_10) ?ir18_10 (fun K hK => ?sr18_10) AllReadyH.nil
        case ir18_10 => (simp only [List.getElem?_toArray, List.getElem?_cons_succ, List.getElem?_cons_zero]; rfl)
        (first | (go_simp; (first | (go_at_call 100; refine (HV.out _).mono ?_; rintro e w1 ⟨rfl, hb1⟩) | (go_at_call 175; refine (HC.out _).mono ?_; rintro e w1 ⟨rfl, hb1⟩) | (go_at_call 126; refine (HE.out _).mono ?_; rintro e w1 ⟨rfl, hb1⟩) | (go_at_call 168; with_reducible refine (HI.out _).mono ?_; rintro e w1 ⟨rfl, rfl⟩) | skip)))
        refine hK.out _ _ ?kr18_10 (fun hHeld => ?_)
        case kr18_10 => (try dsimp only); (first | with_reducible assumption | exact s9_bel (by assumption) (by assumption) | assumption | exact s9_alloc (by assumption) _)
        clear hK K
        try simp only [Act.put, List.setIfInBounds_toArray, List.set_cons_zero, List.set_cons_succ]
        refine wpAnyH_take (i := 11) (oi := ?or18_11) (v := ?vr18_11) ?ir18_11 (by kernel_rfl) (by kernel_rfl) (by kernel_rfl) (fun _ _ _ h => h) ?yr18_11 (by assumption) ?wr18_11
        case ir18_11 => (simp only [List.getElem?_toArray, List.getElem?_cons_succ, List.getElem?_cons_zero]; rfl)
        case yr18_11 => exact Or.inl ⟨by rfl, by intro v hSw; (try dsimp only at hSw); go_simp; try with_reducible rfl⟩
        try simp only [Act.put, List.setIfInBounds_toArray, List.set_cons_zero, List.set_cons_succ]
        refine wpAnyH_take (i := 12) (oi := ?or18_12) (v := ?vr18_12) ?ir18_12 (by kernel_rfl) (by kernel_rfl) (by kernel_rfl) (fun _ _ _ h => h) ?yr18_12 (by assumption) ?wr18_12
        case ir18_12 => (simp only [List.getElem?_toArray, List.getElem?_cons_succ, List.getElem?_cons_zero]; rfl)
        case yr18_12 => exact Or.inl ⟨by rfl, by intro v hSw; (try dsimp only at hSw); go_simp; try with_reducible rfl⟩
        try simp only [Act.put, List.setIfInBounds_toArray, List.set_cons_zero, List.set_cons_succ]
        refine wpAnyH_take (i := 13) (oi := ?or18_13) (v := ?vr18_13) ?ir18_13 (by kernel_rfl) (by kernel_rfl) (by kernel_rfl) (fun _ _ _ h => h) ?yr18_13 (by assumption) ?wr18_13
        case ir18_13 => (simp only [List.getElem?_toArray, List.getElem?_cons_succ, List.getElem?_cons_zero]; rfl)
        case yr18_13 => exact Or.inl ⟨by rfl, by intro v hSw; (try dsimp only at hSw); go_simp; try with_reducible rfl⟩
        try simp only [Act.put, List.setIfInBounds_toArray, List.set_cons_zero, List.set_cons_succ]
        refine wpAnyH_take (i := 14) (oi := ?or18_14) (v := ?vr18_14) ?ir18_14 (by kernel_rfl) (by kernel_rfl) (by kernel_rfl) (fun _ _ _ h => h) ?yr18_14 (by assumption) ?wr18_14
        case ir18_14 => (simp only [List.getElem?_toArray, List.getElem?_cons_succ, List.getElem?_cons_zero]; rfl)
        case yr18_14 => exact Or.inl ⟨by rfl, by intro v hSw; (try dsimp only at hSw); go_simp; try with_reducible rfl⟩
        try simp only [Act.put, List.setIfInBounds_toArray, List.set_cons_zero, List.set_cons_succ]
        refine wpAnyH_take (i := 15) (oi := ?or18_15) (v := ?vr18_15) ?ir18_15 (by kernel_rfl) (by kernel_rfl) (by kernel_rfl) (fun _ _ _ h => h) ?yr18_15 (by assumption) ?wr18_15
        case ir18_15 => (simp only [List.getElem?_toArray, List.getElem?_cons_succ, List.getElem?_cons_zero]; rfl)
        case yr18_15 => exact Or.inl ⟨by rfl, by intro v hSw; (try dsimp only at hSw); go_simp; try with_reducible rfl⟩
        try simp only [Act.put, List.setIfInBounds_toArray, List.set_cons_zero, List.set_cons_succ]
        refine wpAnyH_take (i := 16) (oi := ?or18_16) (v := ?vr18_16) ?ir18_16 (by kernel_rfl) (by kernel_rfl) (by kernel_rfl) (fun _ _ _ h => h) ?yr18_16 (by assumption) ?wr18_16
        case ir18_16 => (simp only [List.getElem?_toArray, List.getElem?_cons_succ, List.getElem?_cons_zero]; rfl)
        case yr18_16 => exact Or.inl ⟨by rfl, by intro v hSw; (try dsimp only at hSw); go_simp; try with_reducible rfl⟩
        try simp only [Act.put, List.setIfInBounds_toArray, List.set_cons_zero, List.set_cons_succ]
        refine wpAnyH_take (i := 17) (oi := ?or18_17) (v := ?vr18_17) ?ir18_17 (by kernel_rfl) (by kernel_rfl) (by kernel_rfl) (fun _ _ _ h => h) ?yr18_17 (by assumption) ?wr18_17
        case ir18_17 => (simp only [List.getElem?_toArray, List.getElem?_cons_succ, List.getElem?_cons_zero]; rfl)
        case yr18_17 => exact Or.inl ⟨by rfl, by intro v hSw; (try dsimp only at hSw); go_simp; try with_reducible rfl⟩
        try simp only [Act.put, List.setIfInBounds_toArray, List.set_cons_zero, List.set_cons_succ]
        refine wpAnyH_take (i := 18) (oi := ?or18_18) (v := ?vr18_18) ?ir18_18 (by kernel_rfl) (by kernel_rfl) (by kernel_rfl) (fun _ _ _ h => h) ?yr18_18 (by assumption) ?wr18_18
        case ir18_18 => (simp only [List.getElem?_toArray, List.getElem?_cons_succ, List.getElem?_cons_zero]; rfl)
        case yr18_18 => exact Or.inl ⟨by rfl, by intro v hSw; (try dsimp only at hSw); go_simp; try with_reducible rfl⟩
        try simp only [Act.put, List.setIfInBounds_toArray, List.set_cons_zero, List.set_cons_succ]
        refine wpAnyH_take (i := 19) (oi := ?or18_19) (v := ?vr18_19) ?ir18_19 (by kernel_rfl) (by kernel_rfl) (by kernel_rfl) (fun _ _ _ h => h) ?yr18_19 (by assumption) ?wr18_19
        case ir18_19 => (simp only [List.getElem?_toArray, List.getElem?_cons_succ, List.getElem?_cons_zero]; rfl)
        case yr18_19 => exact Or.inl ⟨by rfl, by intro v hSw; (try dsimp only at hSw); go_simp; try with_reducible rfl⟩
        try simp only [Act.put, List.setIfInBounds_toArray, List.set_cons_zero, List.set_cons_succ]
        refine wpAnyH_ready (rs := [20]) (by kernel_rfl) (by simp) ?_
        refine AllReadyH.cons (o := ?or18_20) ?ir18_20 (fun K hK => ?sr18_20) AllReadyH.nil
        case ir18_20 => (simp only [List.getElem?_toArray, List.getElem?_cons_succ, List.getElem?_cons_zero]; rfl)
        (first | (go_simp; (first | (go_at_call 100; refine (HV.out _).mono ?_; rintro e w1 ⟨rfl, hb1⟩) | (go_at_call 175; refine (HC.out _).mono ?_; rintro e w1 ⟨rfl, hb1⟩) | (go_at_call 126; refine (HE.out _).mono ?_; rintro e w1 ⟨rfl, hb1⟩) | (go_at_call 168; with_reducible refine (HI.out _).mono ?_; rintro e w1 ⟨rfl, rfl⟩) | skip)))
        refine hK.out _ _ ?kr18_20 (fun hHeld => ?_)
        case kr18_20 => (try dsimp only); (first | with_reducible assumption | exact s9_bel (by assumption) (by assumption) | assumption | exact s9_alloc (by assumption) _)
        clear hK K
        try simp only [Act.put, List.setIfInBounds_toArray, List.set_cons_zero, List.set_cons_succ]
        refine wpAnyH_take (i := 21) (oi := ?or18_21) (v := ?vr18_21) ?ir18_21 (by kernel_rfl) (by kernel_rfl) (by kernel_rfl) (fun _ _ _ h => h) ?yr18_21 (by assumption) ?wr18_21
        case ir18_21 => (simp only [List.getElem?_toArray, List.getElem?_cons_succ, List.getElem?_cons_zero]; rfl)
        case yr18_21 => exact Or.inl ⟨by rfl, by intro v hSw; (try dsimp only at hSw); go_simp; try with_reducible rfl⟩
        try simp only [Act.put, List.setIfInBounds_toArray, List.set_cons_zero, List.set_cons_succ]
        refine wpAnyH_take (i := 22) (oi := ?or18_22) (v := ?vr18_22) ?ir18_22 (by kernel_rfl) (by kernel_rfl) (by kernel_rfl) (fun _ _ _ h => h) ?yr18_22 (by assumption) ?wr18_22
        case ir18_22 => (simp only [List.getElem?_toArray, List.getElem?_cons_succ, List.getElem?_cons_zero]; rfl)
        case yr18_22 => exact Or.inl ⟨by rfl, by intro v hSw; (try dsimp only at hSw); go_simp; try with_reducible rfl⟩
        try simp only [Act.put, List.setIfInBounds_toArray, List.set_cons_zero, List.set_cons_succ]
        refine wpAnyH_done (by kernel_rfl) ?_ _
        refine NoPanic.normal ?_
        go_wp2
        go_ret
        exact ⟨ret_bool HR.out.symm, by (repeat (first | with_reducible assumption | with_reducible exact Below.refl _ _ | with_reducible refine bel_alloc ?_ _ | with_reducible refine bel_drew ?_ | with_reducible refine bel_drewN ?_ _ | with_reducible refine bel_set ?_ (by first | omega | (simp; done) | (simp; omega)) _ | with_reducible refine bel_trans ?_ (by with_reducible assumption) | exact Below.refl _ _ | assumption | refine bel_alloc ?_ _ | refine bel_drew ?_ | refine bel_drewN ?_ _ | refine bel_set ?_ (by first | omega | (simp; done) | (simp; omega)) _ | refine bel_trans ?_ (by assumption)))⟩

theorem c_sKnownValid_yes (k : Kn) (A : Option Addr) (cap L : Nat) (w : World) (h : PsAt w L A cap k.ps) (hL : L ≤ w.heap.size) (hk : k.Ok) (hw : k.Wf) :
    Calls Try.prog 112 #[.agg #[.int .i64 k.o, .int .i64 k.l, .int .i64 k.m, .slice A k.ps.length cap, .int .i64 k.base, .int .i64 k.last]] w fun e w' => e = .returned (.bool true) ∧ Below w.heap.size w w' := by
  obtain ⟨i0, hi⟩ := firstBad_ex k.c k.ps
  have := c_sKnownValid_gen k A cap L i0 w h hL hw hi
  rwa [(kB_iff hi).2 hk] at this
theorem c_sKnownValid_no (k : Kn) (A : Option Addr) (cap L : Nat) (w : World) (h : PsAt w L A cap k.ps) (hL : L ≤ w.heap.size) (hk : ¬ k.Ok) (hw : k.Wf) :
    Calls Try.prog 112 #[.agg #[.int .i64 k.o, .int .i64 k.l, .int .i64 k.m, .slice A k.ps.length cap, .int .i64 k.base, .int .i64 k.last]] w fun e w' => e = .returned (.bool false) ∧ Below w.heap.size w w' := by
  obtain ⟨i0, hi⟩ := firstBad_ex k.c k.ps
  have := c_sKnownValid_gen k A cap L i0 w h hL hw hi
  rwa [show kB k i0 = false by cases hb : kB k i0 with | false => rfl | true => exact absurd ((kB_iff hi).1 hb) hk] at this
end Go.Proofs.Ytoiifopjipfjhaa
