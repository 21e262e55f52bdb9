/- The contract of KnownValid in the program. No condition but that the numbers are int's. Contracts of the model's KnownValid and of what it calls. No condition but that the numbers are int's. -/
import Derived.Test.YtmfnfheahehpcaaGreatDoorBc
namespace Go.Proofs.YtmfnfheahehpcaaGreatDoor
section
open Go.ChangeShapes Go.WideShapes Go.ChangeAt Go.RowKit Go.Joins
set_option linter.unusedVariables false

/-- the numbers are int's -/
structure Kn.Wf (k : Kn) : Prop where
  pairs : PsB k.ps
  base : -9223372036854775808 ≤ k.base ∧ k.base ≤ 9223372036854775807
  last : -9223372036854775808 ≤ k.last ∧ k.last ≤ 9223372036854775807
  len : k.ps.length ≤ 1048576
def room (k : Kn) : Bool := decide ((k.ps.length : Int) ≤ pow2 k.m - 1 - (pow2 k.l + 1))
def kB (k : Kn) (i0 : Nat) : Bool := setOk k.o k.l k.m && (room k && (decide (i0 = k.ps.length) && (decide (0 ≤ k.base) && (decide (k.base ≤ (k.ps.length : Int)) && decide (LastOk k)))))
theorem kB_iff {k : Kn} {i0 : Nat} (h : FirstBad k.c k.ps i0) : kB k i0 = true ↔ k.Ok := by
  have h1 := firstBad_all h
  constructor
  · intro hk
    simp only [kB, room, Bool.and_eq_true, decide_eq_true_eq] at hk
    exact ⟨hk.1, hk.2.1, h1.2 hk.2.2.1, hk.2.2.2.1, hk.2.2.2.2.1, hk.2.2.2.2.2⟩
  · intro hk
    simp only [kB, room, Bool.and_eq_true, decide_eq_true_eq]
    exact ⟨hk.set, hk.room, h1.1 hk.pairs, hk.base0, hk.base1, hk.lastOk⟩

set_option maxHeartbeats 1000000 in
theorem c_KnownValid_gen (k : Kn) (A : Option Addr) (cap L i0 : Nat) (w : World) (h : PsAt w L A cap k.ps) (hL : L ≤ w.heap.size) (hw : k.Wf) (hi : FirstBad k.c k.ps i0) :
    Calls Tryz.prog 9 #[.agg #[.int .i64 k.o, .int .i64 k.l, .int .i64 k.m, .slice A k.ps.length cap, .int .i64 k.base, .int .i64 k.last]] w fun e w' => e = .returned (.bool (kB k i0)) ∧ Below w.heap.size w w' := by
  have HH := hid h
  have HI := hid hi
  have HW := hid hw
  have hS0 := (Blk.new w 27 #[.int .i64 k.o, .int .i64 k.l, .int .i64 k.m, .slice A k.ps.length cap, .int .i64 k.base, .int .i64 k.last]).kat.held (bel_alloc (Below.refl _ w) (.cells #[.int .i64 k.o, .int .i64 k.l, .int .i64 k.m, .slice A k.ps.length cap, .int .i64 k.base, .int .i64 k.last] 27))
  have HS := hid hS0
  have hlen := hw.len
  clear h hi hw hS0
  have HV := hid (fun (v : World) => c_SettingValid k.o k.l k.m v)
  cases hs : setOk k.o k.l k.m with
  | false =>
    rw [hs] at HV
    have HR := hid (show kB k i0 = false by simp [kB, hs])
    clear hs
    go_enter Tryz.func9, Tryz.ntmps9
    go_wp2_with fail
    have hS := HS.out
    refine wp_region_noPanic ?_
    refine wp_region_held_drew (S := (fun v => v.cell? ⟨w.heap.size, 0, none⟩ = some (.int .i64 k.o) ∧ v.cell? ⟨w.heap.size, 1, none⟩ = some (.int .i64 k.l) ∧ v.cell? ⟨w.heap.size, 2, none⟩ = some (.int .i64 k.m) ∧ v.cell? ⟨w.heap.size, 3, none⟩ = some (.slice A k.ps.length cap) ∧ v.cell? ⟨w.heap.size, 4, none⟩ = some (.int .i64 k.base) ∧ v.cell? ⟨w.heap.size, 5, none⟩ = some (.int .i64 k.last) ∧ Below w.heap.size w v)) (by kernel_rfl) (s6_drew hS) (fun hHeld => ?_)
    refine tk 0 ?_
    refine tk 1 ?_
    refine wpAnyH_ready (rs := [2]) (by kernel_rfl) (by simp) ?_
    refine AllReadyH.cons (o := ?or1_2) ?ir1_2 (fun K hK => ?sr1_2) AllReadyH.nil
    case ir1_2 => (simp only [List.getElem?_toArray, List.getElem?_cons_succ, List.getElem?_cons_zero]; rfl)
    (first | (go_simp; (first | (go_at_call 32; refine (HV.out _).mono ?_; rintro e w1 ⟨rfl, hb1⟩) | skip)))
    refine hK.out _ _ ?kr1_2 (fun hHeld => ?_)
    case kr1_2 => (try dsimp only); (first | with_reducible assumption | exact s6_bel (by assumption) (by assumption) | assumption | exact s6_alloc (by assumption) _)
    clear hK K
    try simp only [Act.put, List.setIfInBounds_toArray, List.set_cons_zero, List.set_cons_succ]
    refine tk 3 ?_
    refine tu 4 ?_
    refine tu 5 ?_
    refine tu 6 ?_
    refine tu 7 ?_
    refine tu 8 ?_
    refine tu 9 ?_
    refine tu 10 ?_
    refine tu 11 ?_
    refine tu 12 ?_
    refine tu 13 ?_
    refine tu 14 ?_
    refine tk 15 ?_
    refine tk 16 ?_
    refine tu 17 ?_
    refine tk 18 ?_
    refine tk 19 ?_
    refine tu 20 ?_
    refine tu 21 ?_
    refine tu 22 ?_
    refine tk 23 ?_
    refine tk 24 ?_
    refine tu 25 ?_
    refine tu 26 ?_
    refine tu 27 ?_
    refine tu 28 ?_
    refine tu 29 ?_
    refine tu 30 ?_
    refine tk 31 ?_
    refine tk 32 ?_
    refine tu 33 ?_
    refine tk 34 ?_
    refine tk 35 ?_
    refine wpAnyH_done (by kernel_rfl) ?_ _
    refine NoPanic.normal ?_
    go_wp2
    go_ret
    exact ⟨ret_bool HR.out.symm, by exact obB⟩
  | true =>
    rw [hs] at HV
    have hp := set_bd hs
    have HC := hid (fun (v : World) => c_LastCode_yes k.o k.l k.m v hs)
    have HE := hid (fun (v : World) => c_EndCode_yes k.o k.l k.m v hs)
    have HP := hid (fun (v : World) (hv : KAt v w.heap.size k (.slice A k.ps.length cap)) (hb : Below w.heap.size w v) => c_pairsValid w.heap.size k A cap L i0 v hs hv (HH.out.below hb hL) (Nat.le_trans hL hb.size) HW.out.pairs hlen HI.out)
    have HT := hid (fun (v : World) (hv : KAt v w.heap.size k (.slice A k.ps.length cap)) => c_lastValid w.heap.size k A cap v hs hv hlen HW.out.last)
    have ew : IntKind.i64.wrap (pow2 k.m - 1 - (pow2 k.l + 1)) = pow2 k.m - 1 - (pow2 k.l + 1) := IntWalk.i64_in _ (by omega)
    cases hr : room k with
    | false =>
      have HR := hid (show kB k i0 = false by simp [kB, hr])
      rw [room] at hr
      go_enter Tryz.func9, Tryz.ntmps9
      go_wp2_with fail
      have hS := HS.out
      refine wp_region_noPanic ?_
      refine wp_region_held_drew (S := (fun v => v.cell? ⟨w.heap.size, 0, none⟩ = some (.int .i64 k.o) ∧ v.cell? ⟨w.heap.size, 1, none⟩ = some (.int .i64 k.l) ∧ v.cell? ⟨w.heap.size, 2, none⟩ = some (.int .i64 k.m) ∧ v.cell? ⟨w.heap.size, 3, none⟩ = some (.slice A k.ps.length cap) ∧ v.cell? ⟨w.heap.size, 4, none⟩ = some (.int .i64 k.base) ∧ v.cell? ⟨w.heap.size, 5, none⟩ = some (.int .i64 k.last) ∧ Below w.heap.size w v)) (by kernel_rfl) (s6_drew hS) (fun hHeld => ?_)
      refine tk 0 ?_
      refine tk 1 ?_
      refine wpAnyH_ready (rs := [2]) (by kernel_rfl) (by simp) ?_
      refine AllReadyH.cons (o := ?or2_2) ?ir2_2 (fun K hK => ?sr2_2) AllReadyH.nil
      case ir2_2 => (simp only [List.getElem?_toArray, List.getElem?_cons_succ, List.getElem?_cons_zero]; rfl)
      (first | (go_simp; (first | (go_at_call 32; refine (HV.out _).mono ?_; rintro e w1 ⟨rfl, hb1⟩) | (go_at_call 33; refine (HC.out _).mono ?_; rintro e w1 ⟨rfl, hb1⟩) | (go_at_call 34; refine (HE.out _).mono ?_; rintro e w1 ⟨rfl, hb1⟩) | skip)))
      refine hK.out _ _ ?kr2_2 (fun hHeld => ?_)
      case kr2_2 => (try dsimp only); (first | with_reducible assumption | exact s6_bel (by assumption) (by assumption) | assumption | exact s6_alloc (by assumption) _)
      clear hK K
      try simp only [Act.put, List.setIfInBounds_toArray, List.set_cons_zero, List.set_cons_succ]
      refine tk 3 ?_
      refine tk 4 ?_
      refine tk 5 ?_
      refine tk 6 ?_
      refine tk 7 ?_
      refine tk 8 ?_
      refine tk 10 ?_
      refine tk 11 ?_
      refine wpAnyH_ready (rs := [9]) (by kernel_rfl) (by simp) ?_
      refine AllReadyH.cons (o := ?or2_9) ?ir2_9 (fun K hK => ?sr2_9) AllReadyH.nil
      case ir2_9 => (simp only [List.getElem?_toArray, List.getElem?_cons_succ, List.getElem?_cons_zero]; rfl)
      (first | (go_simp; (first | (go_at_call 32; refine (HV.out _).mono ?_; rintro e w1 ⟨rfl, hb1⟩) | (go_at_call 33; refine (HC.out _).mono ?_; rintro e w1 ⟨rfl, hb1⟩) | (go_at_call 34; refine (HE.out _).mono ?_; rintro e w1 ⟨rfl, hb1⟩) | skip)))
      refine hK.out _ _ ?kr2_9 (fun hHeld => ?_)
      case kr2_9 => (try dsimp only); (first | with_reducible assumption | exact s6_bel (by assumption) (by assumption) | assumption | exact s6_alloc (by assumption) _)
      clear hK K
      try simp only [Act.put, List.setIfInBounds_toArray, List.set_cons_zero, List.set_cons_succ]
      refine wpAnyH_ready (rs := [12]) (by kernel_rfl) (by simp) ?_
      refine AllReadyH.cons (o := ?or2_12) ?ir2_12 (fun K hK => ?sr2_12) AllReadyH.nil
      case ir2_12 => (simp only [List.getElem?_toArray, List.getElem?_cons_succ, List.getElem?_cons_zero]; rfl)
      (first | (go_simp; (first | (go_at_call 32; refine (HV.out _).mono ?_; rintro e w1 ⟨rfl, hb1⟩) | (go_at_call 33; refine (HC.out _).mono ?_; rintro e w1 ⟨rfl, hb1⟩) | (go_at_call 34; refine (HE.out _).mono ?_; rintro e w1 ⟨rfl, hb1⟩) | skip)))
      refine hK.out _ _ ?kr2_12 (fun hHeld => ?_)
      case kr2_12 => (try dsimp only); (first | with_reducible assumption | exact s6_bel (by assumption) (by assumption) | assumption | exact s6_alloc (by assumption) _)
      clear hK K
      try simp only [Act.put, List.setIfInBounds_toArray, List.set_cons_zero, List.set_cons_succ]
      refine tk 13 ?_
      refine tk 14 ?_
      refine tk 15 ?_
      refine tk 16 ?_
      refine tu 17 ?_
      refine tk 18 ?_
      refine tk 19 ?_
      refine tu 20 ?_
      refine tu 21 ?_
      refine tu 22 ?_
      refine tk 23 ?_
      refine tk 24 ?_
      refine tu 25 ?_
      refine tu 26 ?_
      refine tu 27 ?_
      refine tu 28 ?_
      refine tu 29 ?_
      refine tu 30 ?_
      refine tk 31 ?_
      refine tk 32 ?_
      refine tu 33 ?_
      refine tk 34 ?_
      refine tk 35 ?_
      refine wpAnyH_done (by kernel_rfl) ?_ _
      refine NoPanic.normal ?_
      all_goals
        go_wp2
        go_ret
        exact ⟨ret_bool HR.out.symm, by exact obB⟩
    | true =>
      have hr2 := hr
      rw [room] at hr
      by_cases hc : i0 = k.ps.length
      · have hc2 : decide (i0 = k.ps.length) = true := by simp [hc]
        simp only [hc2] at HP
        by_cases hd : 0 ≤ k.base
        · have hd2 : decide (0 ≤ k.base) = true := by simp [hd]
          by_cases he : k.base ≤ (k.ps.length : Int)
          · have he2 : decide (k.base ≤ (k.ps.length : Int)) = true := by simp [he]
            have HR := hid (show kB k i0 = decide (LastOk k) by simp only [kB, hs, hr2, hc2, hd2, he2, Bool.true_and])
            clear hc hc2 hd he hr2
            go_enter Tryz.func9, Tryz.ntmps9
            go_wp2_with fail
            have hS := HS.out
            refine wp_region_noPanic ?_
            refine wp_region_held_drew (S := (fun v => v.cell? ⟨w.heap.size, 0, none⟩ = some (.int .i64 k.o) ∧ v.cell? ⟨w.heap.size, 1, none⟩ = some (.int .i64 k.l) ∧ v.cell? ⟨w.heap.size, 2, none⟩ = some (.int .i64 k.m) ∧ v.cell? ⟨w.heap.size, 3, none⟩ = some (.slice A k.ps.length cap) ∧ v.cell? ⟨w.heap.size, 4, none⟩ = some (.int .i64 k.base) ∧ v.cell? ⟨w.heap.size, 5, none⟩ = some (.int .i64 k.last) ∧ Below w.heap.size w v)) (by kernel_rfl) (s6_drew hS) (fun hHeld => ?_)
            refine tk 0 ?_
            refine tk 1 ?_
            refine wpAnyH_ready (rs := [2]) (by kernel_rfl) (by simp) ?_
            refine AllReadyH.cons (o := ?or3_2) ?ir3_2 (fun K hK => ?sr3_2) AllReadyH.nil
            case ir3_2 => (simp only [List.getElem?_toArray, List.getElem?_cons_succ, List.getElem?_cons_zero]; rfl)
            (first | (go_simp; (first | (go_at_call 32; refine (HV.out _).mono ?_; rintro e w1 ⟨rfl, hb1⟩) | (go_at_call 33; refine (HC.out _).mono ?_; rintro e w1 ⟨rfl, hb1⟩) | (go_at_call 34; refine (HE.out _).mono ?_; rintro e w1 ⟨rfl, hb1⟩) | (go_at_call 35; refine (HP.out _ (kat6 hHeld).1 (kat6 hHeld).2).mono ?_; rintro e w1 ⟨rfl, hb1⟩) | (go_at_call 36; refine (HT.out _ (kat6 hHeld).1).mono ?_; rintro e w1 ⟨rfl, hb1⟩) | skip)))
            refine hK.out _ _ ?kr3_2 (fun hHeld => ?_)
            case kr3_2 => (try dsimp only); (first | with_reducible assumption | exact s6_bel (by assumption) (by assumption) | assumption | exact s6_alloc (by assumption) _)
            clear hK K
            try simp only [Act.put, List.setIfInBounds_toArray, List.set_cons_zero, List.set_cons_succ]
            refine tk 3 ?_
            refine tk 4 ?_
            refine tk 5 ?_
            refine tk 6 ?_
            refine tk 7 ?_
            refine tk 8 ?_
            refine tk 10 ?_
            refine tk 11 ?_
            refine wpAnyH_ready (rs := [9]) (by kernel_rfl) (by simp) ?_
            refine AllReadyH.cons (o := ?or3_9) ?ir3_9 (fun K hK => ?sr3_9) AllReadyH.nil
            case ir3_9 => (simp only [List.getElem?_toArray, List.getElem?_cons_succ, List.getElem?_cons_zero]; rfl)
            (first | (go_simp; (first | (go_at_call 32; refine (HV.out _).mono ?_; rintro e w1 ⟨rfl, hb1⟩) | (go_at_call 33; refine (HC.out _).mono ?_; rintro e w1 ⟨rfl, hb1⟩) | (go_at_call 34; refine (HE.out _).mono ?_; rintro e w1 ⟨rfl, hb1⟩) | (go_at_call 35; refine (HP.out _ (kat6 hHeld).1 (kat6 hHeld).2).mono ?_; rintro e w1 ⟨rfl, hb1⟩) | (go_at_call 36; refine (HT.out _ (kat6 hHeld).1).mono ?_; rintro e w1 ⟨rfl, hb1⟩) | skip)))
            refine hK.out _ _ ?kr3_9 (fun hHeld => ?_)
            case kr3_9 => (try dsimp only); (first | with_reducible assumption | exact s6_bel (by assumption) (by assumption) | assumption | exact s6_alloc (by assumption) _)
            clear hK K
            try simp only [Act.put, List.setIfInBounds_toArray, List.set_cons_zero, List.set_cons_succ]
            refine wpAnyH_ready (rs := [12]) (by kernel_rfl) (by simp) ?_
            refine AllReadyH.cons (o := ?or3_12) ?ir3_12 (fun K hK => ?sr3_12) AllReadyH.nil
            case ir3_12 => (simp only [List.getElem?_toArray, List.getElem?_cons_succ, List.getElem?_cons_zero]; rfl)
            (first | (go_simp; (first | (go_at_call 32; refine (HV.out _).mono ?_; rintro e w1 ⟨rfl, hb1⟩) | (go_at_call 33; refine (HC.out _).mono ?_; rintro e w1 ⟨rfl, hb1⟩) | (go_at_call 34; refine (HE.out _).mono ?_; rintro e w1 ⟨rfl, hb1⟩) | (go_at_call 35; refine (HP.out _ (kat6 hHeld).1 (kat6 hHeld).2).mono ?_; rintro e w1 ⟨rfl, hb1⟩) | (go_at_call 36; refine (HT.out _ (kat6 hHeld).1).mono ?_; rintro e w1 ⟨rfl, hb1⟩) | skip)))
            refine hK.out _ _ ?kr3_12 (fun hHeld => ?_)
            case kr3_12 => (try dsimp only); (first | with_reducible assumption | exact s6_bel (by assumption) (by assumption) | assumption | exact s6_alloc (by assumption) _)
            clear hK K
            try simp only [Act.put, List.setIfInBounds_toArray, List.set_cons_zero, List.set_cons_succ]
            refine tk 13 ?_
            refine tk 14 ?_
            refine tk 15 ?_
            refine tk 16 ?_
            refine wpAnyH_ready (rs := [17]) (by kernel_rfl) (by simp) ?_
            refine AllReadyH.cons (o := ?or3_17) ?ir3_17 (fun K hK => ?sr3_17) AllReadyH.nil
            case ir3_17 => (simp only [List.getElem?_toArray, List.getElem?_cons_succ, List.getElem?_cons_zero]; rfl)
            (first | (go_simp; (first | (go_at_call 32; refine (HV.out _).mono ?_; rintro e w1 ⟨rfl, hb1⟩) | (go_at_call 33; refine (HC.out _).mono ?_; rintro e w1 ⟨rfl, hb1⟩) | (go_at_call 34; refine (HE.out _).mono ?_; rintro e w1 ⟨rfl, hb1⟩) | (go_at_call 35; refine (HP.out _ (kat6 hHeld).1 (kat6 hHeld).2).mono ?_; rintro e w1 ⟨rfl, hb1⟩) | (go_at_call 36; refine (HT.out _ (kat6 hHeld).1).mono ?_; rintro e w1 ⟨rfl, hb1⟩) | skip)))
            refine hK.out _ _ ?kr3_17 (fun hHeld => ?_)
            case kr3_17 => (try dsimp only); (first | with_reducible assumption | exact s6_bel (by assumption) (by assumption) | assumption | exact s6_alloc (by assumption) _)
            clear hK K
            try simp only [Act.put, List.setIfInBounds_toArray, List.set_cons_zero, List.set_cons_succ]
            refine tk 18 ?_
            refine tk 19 ?_
            refine tk 20 ?_
            refine tk 21 ?_
            refine tk 22 ?_
            refine tk 23 ?_
            refine tk 24 ?_
            refine tk 25 ?_
            refine tk 26 ?_
            refine tk 27 ?_
            refine tk 28 ?_
            refine tk 29 ?_
            refine tk 30 ?_
            refine tk 31 ?_
            refine tk 32 ?_
            refine wpAnyH_ready (rs := [33]) (by kernel_rfl) (by simp) ?_
            refine AllReadyH.cons (o := ?or3_33) ?ir3_33 (fun K hK => ?sr3_33) AllReadyH.nil
            case ir3_33 => (simp only [List.getElem?_toArray, List.getElem?_cons_succ, List.getElem?_cons_zero]; rfl)
            (first | (go_simp; (first | (go_at_call 32; refine (HV.out _).mono ?_; rintro e w1 ⟨rfl, hb1⟩) | (go_at_call 33; refine (HC.out _).mono ?_; rintro e w1 ⟨rfl, hb1⟩) | (go_at_call 34; refine (HE.out _).mono ?_; rintro e w1 ⟨rfl, hb1⟩) | (go_at_call 35; refine (HP.out _ (kat6 hHeld).1 (kat6 hHeld).2).mono ?_; rintro e w1 ⟨rfl, hb1⟩) | (go_at_call 36; refine (HT.out _ (kat6 hHeld).1).mono ?_; rintro e w1 ⟨rfl, hb1⟩) | skip)))
            refine hK.out _ _ ?kr3_33 (fun hHeld => ?_)
            case kr3_33 => (try dsimp only); (first | with_reducible assumption | exact s6_bel (by assumption) (by assumption) | assumption | exact s6_alloc (by assumption) _)
            clear hK K
            try simp only [Act.put, List.setIfInBounds_toArray, List.set_cons_zero, List.set_cons_succ]
            refine tk 34 ?_
            refine tk 35 ?_
            refine wpAnyH_done (by kernel_rfl) ?_ _
            refine NoPanic.normal ?_
            all_goals
              go_wp2
              go_ret
              exact ⟨ret_bool HR.out.symm, by exact obB⟩
          · have he2 : decide (k.base ≤ (k.ps.length : Int)) = false := by simp; omega
            have HR := hid (show kB k i0 = false by simp only [kB, he2, Bool.false_and, Bool.and_false])
            clear hc hc2 hd he hr2
            go_enter Tryz.func9, Tryz.ntmps9
            go_wp2_with fail
            have hS := HS.out
            refine wp_region_noPanic ?_
            refine wp_region_held_drew (S := (fun v => v.cell? ⟨w.heap.size, 0, none⟩ = some (.int .i64 k.o) ∧ v.cell? ⟨w.heap.size, 1, none⟩ = some (.int .i64 k.l) ∧ v.cell? ⟨w.heap.size, 2, none⟩ = some (.int .i64 k.m) ∧ v.cell? ⟨w.heap.size, 3, none⟩ = some (.slice A k.ps.length cap) ∧ v.cell? ⟨w.heap.size, 4, none⟩ = some (.int .i64 k.base) ∧ v.cell? ⟨w.heap.size, 5, none⟩ = some (.int .i64 k.last) ∧ Below w.heap.size w v)) (by kernel_rfl) (s6_drew hS) (fun hHeld => ?_)
            refine tk 0 ?_
            refine tk 1 ?_
            refine wpAnyH_ready (rs := [2]) (by kernel_rfl) (by simp) ?_
            refine AllReadyH.cons (o := ?or4_2) ?ir4_2 (fun K hK => ?sr4_2) AllReadyH.nil
            case ir4_2 => (simp only [List.getElem?_toArray, List.getElem?_cons_succ, List.getElem?_cons_zero]; rfl)
            (first | (go_simp; (first | (go_at_call 32; refine (HV.out _).mono ?_; rintro e w1 ⟨rfl, hb1⟩) | (go_at_call 33; refine (HC.out _).mono ?_; rintro e w1 ⟨rfl, hb1⟩) | (go_at_call 34; refine (HE.out _).mono ?_; rintro e w1 ⟨rfl, hb1⟩) | (go_at_call 35; refine (HP.out _ (kat6 hHeld).1 (kat6 hHeld).2).mono ?_; rintro e w1 ⟨rfl, hb1⟩) | (go_at_call 36; refine (HT.out _ (kat6 hHeld).1).mono ?_; rintro e w1 ⟨rfl, hb1⟩) | skip)))
            refine hK.out _ _ ?kr4_2 (fun hHeld => ?_)
            case kr4_2 => (try dsimp only); (first | with_reducible assumption | exact s6_bel (by assumption) (by assumption) | assumption | exact s6_alloc (by assumption) _)
            clear hK K
            try simp only [Act.put, List.setIfInBounds_toArray, List.set_cons_zero, List.set_cons_succ]
            refine tk 3 ?_
            refine tk 4 ?_
            refine tk 5 ?_
            refine tk 6 ?_
            refine tk 7 ?_
            refine tk 8 ?_
            refine tk 10 ?_
            refine tk 11 ?_
            refine wpAnyH_ready (rs := [9]) (by kernel_rfl) (by simp) ?_
            refine AllReadyH.cons (o := ?or4_9) ?ir4_9 (fun K hK => ?sr4_9) AllReadyH.nil
            case ir4_9 => (simp only [List.getElem?_toArray, List.getElem?_cons_succ, List.getElem?_cons_zero]; rfl)
            (first | (go_simp; (first | (go_at_call 32; refine (HV.out _).mono ?_; rintro e w1 ⟨rfl, hb1⟩) | (go_at_call 33; refine (HC.out _).mono ?_; rintro e w1 ⟨rfl, hb1⟩) | (go_at_call 34; refine (HE.out _).mono ?_; rintro e w1 ⟨rfl, hb1⟩) | (go_at_call 35; refine (HP.out _ (kat6 hHeld).1 (kat6 hHeld).2).mono ?_; rintro e w1 ⟨rfl, hb1⟩) | (go_at_call 36; refine (HT.out _ (kat6 hHeld).1).mono ?_; rintro e w1 ⟨rfl, hb1⟩) | skip)))
            refine hK.out _ _ ?kr4_9 (fun hHeld => ?_)
            case kr4_9 => (try dsimp only); (first | with_reducible assumption | exact s6_bel (by assumption) (by assumption) | assumption | exact s6_alloc (by assumption) _)
            clear hK K
            try simp only [Act.put, List.setIfInBounds_toArray, List.set_cons_zero, List.set_cons_succ]
            refine wpAnyH_ready (rs := [12]) (by kernel_rfl) (by simp) ?_
            refine AllReadyH.cons (o := ?or4_12) ?ir4_12 (fun K hK => ?sr4_12) AllReadyH.nil
            case ir4_12 => (simp only [List.getElem?_toArray, List.getElem?_cons_succ, List.getElem?_cons_zero]; rfl)
            (first | (go_simp; (first | (go_at_call 32; refine (HV.out _).mono ?_; rintro e w1 ⟨rfl, hb1⟩) | (go_at_call 33; refine (HC.out _).mono ?_; rintro e w1 ⟨rfl, hb1⟩) | (go_at_call 34; refine (HE.out _).mono ?_; rintro e w1 ⟨rfl, hb1⟩) | (go_at_call 35; refine (HP.out _ (kat6 hHeld).1 (kat6 hHeld).2).mono ?_; rintro e w1 ⟨rfl, hb1⟩) | (go_at_call 36; refine (HT.out _ (kat6 hHeld).1).mono ?_; rintro e w1 ⟨rfl, hb1⟩) | skip)))
            refine hK.out _ _ ?kr4_12 (fun hHeld => ?_)
            case kr4_12 => (try dsimp only); (first | with_reducible assumption | exact s6_bel (by assumption) (by assumption) | assumption | exact s6_alloc (by assumption) _)
            clear hK K
            try simp only [Act.put, List.setIfInBounds_toArray, List.set_cons_zero, List.set_cons_succ]
            refine tk 13 ?_
            refine tk 14 ?_
            refine tk 15 ?_
            refine tk 16 ?_
            refine wpAnyH_ready (rs := [17]) (by kernel_rfl) (by simp) ?_
            refine AllReadyH.cons (o := ?or4_17) ?ir4_17 (fun K hK => ?sr4_17) AllReadyH.nil
            case ir4_17 => (simp only [List.getElem?_toArray, List.getElem?_cons_succ, List.getElem?_cons_zero]; rfl)
            (first | (go_simp; (first | (go_at_call 32; refine (HV.out _).mono ?_; rintro e w1 ⟨rfl, hb1⟩) | (go_at_call 33; refine (HC.out _).mono ?_; rintro e w1 ⟨rfl, hb1⟩) | (go_at_call 34; refine (HE.out _).mono ?_; rintro e w1 ⟨rfl, hb1⟩) | (go_at_call 35; refine (HP.out _ (kat6 hHeld).1 (kat6 hHeld).2).mono ?_; rintro e w1 ⟨rfl, hb1⟩) | (go_at_call 36; refine (HT.out _ (kat6 hHeld).1).mono ?_; rintro e w1 ⟨rfl, hb1⟩) | skip)))
            refine hK.out _ _ ?kr4_17 (fun hHeld => ?_)
            case kr4_17 => (try dsimp only); (first | with_reducible assumption | exact s6_bel (by assumption) (by assumption) | assumption | exact s6_alloc (by assumption) _)
            clear hK K
            try simp only [Act.put, List.setIfInBounds_toArray, List.set_cons_zero, List.set_cons_succ]
            refine tk 18 ?_
            refine tk 19 ?_
            refine tk 20 ?_
            refine tk 21 ?_
            refine tk 22 ?_
            refine tk 23 ?_
            refine tk 24 ?_
            refine tk 25 ?_
            refine tk 26 ?_
            refine tk 27 ?_
            refine tk 28 ?_
            refine tk 29 ?_
            refine tk 30 ?_
            refine tk 31 ?_
            refine tk 32 ?_
            refine tu 33 ?_
            refine tk 34 ?_
            refine tk 35 ?_
            refine wpAnyH_done (by kernel_rfl) ?_ _
            refine NoPanic.normal ?_
            all_goals
              go_wp2
              go_ret
              exact ⟨ret_bool HR.out.symm, by exact obB⟩
        · have hd2 : decide (0 ≤ k.base) = false := by simp; omega
          have HR := hid (show kB k i0 = false by simp only [kB, hd2, Bool.false_and, Bool.and_false])
          clear hc hc2 hd hr2
          go_enter Tryz.func9, Tryz.ntmps9
          go_wp2_with fail
          have hS := HS.out
          refine wp_region_noPanic ?_
          refine wp_region_held_drew (S := (fun v => v.cell? ⟨w.heap.size, 0, none⟩ = some (.int .i64 k.o) ∧ v.cell? ⟨w.heap.size, 1, none⟩ = some (.int .i64 k.l) ∧ v.cell? ⟨w.heap.size, 2, none⟩ = some (.int .i64 k.m) ∧ v.cell? ⟨w.heap.size, 3, none⟩ = some (.slice A k.ps.length cap) ∧ v.cell? ⟨w.heap.size, 4, none⟩ = some (.int .i64 k.base) ∧ v.cell? ⟨w.heap.size, 5, none⟩ = some (.int .i64 k.last) ∧ Below w.heap.size w v)) (by kernel_rfl) (s6_drew hS) (fun hHeld => ?_)
          refine tk 0 ?_
          refine tk 1 ?_
          refine wpAnyH_ready (rs := [2]) (by kernel_rfl) (by simp) ?_
          refine AllReadyH.cons (o := ?or5_2) ?ir5_2 (fun K hK => ?sr5_2) AllReadyH.nil
          case ir5_2 => (simp only [List.getElem?_toArray, List.getElem?_cons_succ, List.getElem?_cons_zero]; rfl)
          (first | (go_simp; (first | (go_at_call 32; refine (HV.out _).mono ?_; rintro e w1 ⟨rfl, hb1⟩) | (go_at_call 33; refine (HC.out _).mono ?_; rintro e w1 ⟨rfl, hb1⟩) | (go_at_call 34; refine (HE.out _).mono ?_; rintro e w1 ⟨rfl, hb1⟩) | (go_at_call 35; refine (HP.out _ (kat6 hHeld).1 (kat6 hHeld).2).mono ?_; rintro e w1 ⟨rfl, hb1⟩) | (go_at_call 36; refine (HT.out _ (kat6 hHeld).1).mono ?_; rintro e w1 ⟨rfl, hb1⟩) | skip)))
          refine hK.out _ _ ?kr5_2 (fun hHeld => ?_)
          case kr5_2 => (try dsimp only); (first | with_reducible assumption | exact s6_bel (by assumption) (by assumption) | assumption | exact s6_alloc (by assumption) _)
          clear hK K
          try simp only [Act.put, List.setIfInBounds_toArray, List.set_cons_zero, List.set_cons_succ]
          refine tk 3 ?_
          refine tk 4 ?_
          refine tk 5 ?_
          refine tk 6 ?_
          refine tk 7 ?_
          refine tk 8 ?_
          refine tk 10 ?_
          refine tk 11 ?_
          refine wpAnyH_ready (rs := [9]) (by kernel_rfl) (by simp) ?_
          refine AllReadyH.cons (o := ?or5_9) ?ir5_9 (fun K hK => ?sr5_9) AllReadyH.nil
          case ir5_9 => (simp only [List.getElem?_toArray, List.getElem?_cons_succ, List.getElem?_cons_zero]; rfl)
          (first | (go_simp; (first | (go_at_call 32; refine (HV.out _).mono ?_; rintro e w1 ⟨rfl, hb1⟩) | (go_at_call 33; refine (HC.out _).mono ?_; rintro e w1 ⟨rfl, hb1⟩) | (go_at_call 34; refine (HE.out _).mono ?_; rintro e w1 ⟨rfl, hb1⟩) | (go_at_call 35; refine (HP.out _ (kat6 hHeld).1 (kat6 hHeld).2).mono ?_; rintro e w1 ⟨rfl, hb1⟩) | (go_at_call 36; refine (HT.out _ (kat6 hHeld).1).mono ?_; rintro e w1 ⟨rfl, hb1⟩) | skip)))
          refine hK.out _ _ ?kr5_9 (fun hHeld => ?_)
          case kr5_9 => (try dsimp only); (first | with_reducible assumption | exact s6_bel (by assumption) (by assumption) | assumption | exact s6_alloc (by assumption) _)
          clear hK K
          try simp only [Act.put, List.setIfInBounds_toArray, List.set_cons_zero, List.set_cons_succ]
          refine wpAnyH_ready (rs := [12]) (by kernel_rfl) (by simp) ?_
          refine AllReadyH.cons (o := ?or5_12) ?ir5_12 (fun K hK => ?sr5_12) AllReadyH.nil
          case ir5_12 => (simp only [List.getElem?_toArray, List.getElem?_cons_succ, List.getElem?_cons_zero]; rfl)
          (first | (go_simp; (first | (go_at_call 32; refine (HV.out _).mono ?_; rintro e w1 ⟨rfl, hb1⟩) | (go_at_call 33; refine (HC.out _).mono ?_; rintro e w1 ⟨rfl, hb1⟩) | (go_at_call 34; refine (HE.out _).mono ?_; rintro e w1 ⟨rfl, hb1⟩) | (go_at_call 35; refine (HP.out _ (kat6 hHeld).1 (kat6 hHeld).2).mono ?_; rintro e w1 ⟨rfl, hb1⟩) | (go_at_call 36; refine (HT.out _ (kat6 hHeld).1).mono ?_; rintro e w1 ⟨rfl, hb1⟩) | skip)))
          refine hK.out _ _ ?kr5_12 (fun hHeld => ?_)
          case kr5_12 => (try dsimp only); (first | with_reducible assumption | exact s6_bel (by assumption) (by assumption) | assumption | exact s6_alloc (by assumption) _)
          clear hK K
          try simp only [Act.put, List.setIfInBounds_toArray, List.set_cons_zero, List.set_cons_succ]
          refine tk 13 ?_
          refine tk 14 ?_
          refine tk 15 ?_
          refine tk 16 ?_
          refine wpAnyH_ready (rs := [17]) (by kernel_rfl) (by simp) ?_
          refine AllReadyH.cons (o := ?or5_17) ?ir5_17 (fun K hK => ?sr5_17) AllReadyH.nil
          case ir5_17 => (simp only [List.getElem?_toArray, List.getElem?_cons_succ, List.getElem?_cons_zero]; rfl)
          (first | (go_simp; (first | (go_at_call 32; refine (HV.out _).mono ?_; rintro e w1 ⟨rfl, hb1⟩) | (go_at_call 33; refine (HC.out _).mono ?_; rintro e w1 ⟨rfl, hb1⟩) | (go_at_call 34; refine (HE.out _).mono ?_; rintro e w1 ⟨rfl, hb1⟩) | (go_at_call 35; refine (HP.out _ (kat6 hHeld).1 (kat6 hHeld).2).mono ?_; rintro e w1 ⟨rfl, hb1⟩) | (go_at_call 36; refine (HT.out _ (kat6 hHeld).1).mono ?_; rintro e w1 ⟨rfl, hb1⟩) | skip)))
          refine hK.out _ _ ?kr5_17 (fun hHeld => ?_)
          case kr5_17 => (try dsimp only); (first | with_reducible assumption | exact s6_bel (by assumption) (by assumption) | assumption | exact s6_alloc (by assumption) _)
          clear hK K
          try simp only [Act.put, List.setIfInBounds_toArray, List.set_cons_zero, List.set_cons_succ]
          refine tk 18 ?_
          refine tk 19 ?_
          refine tk 20 ?_
          refine tk 21 ?_
          refine tk 22 ?_
          refine tk 23 ?_
          refine tk 24 ?_
          refine tu 25 ?_
          refine tu 26 ?_
          refine tu 27 ?_
          refine tu 28 ?_
          refine tu 29 ?_
          refine tu 30 ?_
          refine tk 31 ?_
          refine tk 32 ?_
          refine tu 33 ?_
          refine tk 34 ?_
          refine tk 35 ?_
          refine wpAnyH_done (by kernel_rfl) ?_ _
          refine NoPanic.normal ?_
          all_goals
            go_wp2
            go_ret
            exact ⟨ret_bool HR.out.symm, by exact obB⟩
      · have hc2 : decide (i0 = k.ps.length) = false := by simp [hc]
        simp only [hc2] at HP
        have HR := hid (show kB k i0 = false by simp only [kB, hc2, Bool.false_and, Bool.and_false])
        clear hc hc2 hr2
        go_enter Tryz.func9, Tryz.ntmps9
        go_wp2_with fail
        have hS := HS.out
        refine wp_region_noPanic ?_
        refine wp_region_held_drew (S := (fun v => v.cell? ⟨w.heap.size, 0, none⟩ = some (.int .i64 k.o) ∧ v.cell? ⟨w.heap.size, 1, none⟩ = some (.int .i64 k.l) ∧ v.cell? ⟨w.heap.size, 2, none⟩ = some (.int .i64 k.m) ∧ v.cell? ⟨w.heap.size, 3, none⟩ = some (.slice A k.ps.length cap) ∧ v.cell? ⟨w.heap.size, 4, none⟩ = some (.int .i64 k.base) ∧ v.cell? ⟨w.heap.size, 5, none⟩ = some (.int .i64 k.last) ∧ Below w.heap.size w v)) (by kernel_rfl) (s6_drew hS) (fun hHeld => ?_)
        refine tk 0 ?_
        refine tk 1 ?_
        refine wpAnyH_ready (rs := [2]) (by kernel_rfl) (by simp) ?_
        refine AllReadyH.cons (o := ?or6_2) ?ir6_2 (fun K hK => ?sr6_2) AllReadyH.nil
        case ir6_2 => (simp only [List.getElem?_toArray, List.getElem?_cons_succ, List.getElem?_cons_zero]; rfl)
        (first | (go_simp; (first | (go_at_call 32; refine (HV.out _).mono ?_; rintro e w1 ⟨rfl, hb1⟩) | (go_at_call 33; refine (HC.out _).mono ?_; rintro e w1 ⟨rfl, hb1⟩) | (go_at_call 34; refine (HE.out _).mono ?_; rintro e w1 ⟨rfl, hb1⟩) | (go_at_call 35; refine (HP.out _ (kat6 hHeld).1 (kat6 hHeld).2).mono ?_; rintro e w1 ⟨rfl, hb1⟩) | (go_at_call 36; refine (HT.out _ (kat6 hHeld).1).mono ?_; rintro e w1 ⟨rfl, hb1⟩) | skip)))
        refine hK.out _ _ ?kr6_2 (fun hHeld => ?_)
        case kr6_2 => (try dsimp only); (first | with_reducible assumption | exact s6_bel (by assumption) (by assumption) | assumption | exact s6_alloc (by assumption) _)
        clear hK K
        try simp only [Act.put, List.setIfInBounds_toArray, List.set_cons_zero, List.set_cons_succ]
        refine tk 3 ?_
        refine tk 4 ?_
        refine tk 5 ?_
        refine tk 6 ?_
        refine tk 7 ?_
        refine tk 8 ?_
        refine tk 10 ?_
        refine tk 11 ?_
        refine wpAnyH_ready (rs := [9]) (by kernel_rfl) (by simp) ?_
        refine AllReadyH.cons (o := ?or6_9) ?ir6_9 (fun K hK => ?sr6_9) AllReadyH.nil
        case ir6_9 => (simp only [List.getElem?_toArray, List.getElem?_cons_succ, List.getElem?_cons_zero]; rfl)
        (first | (go_simp; (first | (go_at_call 32; refine (HV.out _).mono ?_; rintro e w1 ⟨rfl, hb1⟩) | (go_at_call 33; refine (HC.out _).mono ?_; rintro e w1 ⟨rfl, hb1⟩) | (go_at_call 34; refine (HE.out _).mono ?_; rintro e w1 ⟨rfl, hb1⟩) | (go_at_call 35; refine (HP.out _ (kat6 hHeld).1 (kat6 hHeld).2).mono ?_; rintro e w1 ⟨rfl, hb1⟩) | (go_at_call 36; refine (HT.out _ (kat6 hHeld).1).mono ?_; rintro e w1 ⟨rfl, hb1⟩) | skip)))
        refine hK.out _ _ ?kr6_9 (fun hHeld => ?_)
        case kr6_9 => (try dsimp only); (first | with_reducible assumption | exact s6_bel (by assumption) (by assumption) | assumption | exact s6_alloc (by assumption) _)
        clear hK K
        try simp only [Act.put, List.setIfInBounds_toArray, List.set_cons_zero, List.set_cons_succ]
        refine wpAnyH_ready (rs := [12]) (by kernel_rfl) (by simp) ?_
        refine AllReadyH.cons (o := ?or6_12) ?ir6_12 (fun K hK => ?sr6_12) AllReadyH.nil
        case ir6_12 => (simp only [List.getElem?_toArray, List.getElem?_cons_succ, List.getElem?_cons_zero]; rfl)
        (first | (go_simp; (first | (go_at_call 32; refine (HV.out _).mono ?_; rintro e w1 ⟨rfl, hb1⟩) | (go_at_call 33; refine (HC.out _).mono ?_; rintro e w1 ⟨rfl, hb1⟩) | (go_at_call 34; refine (HE.out _).mono ?_; rintro e w1 ⟨rfl, hb1⟩) | (go_at_call 35; refine (HP.out _ (kat6 hHeld).1 (kat6 hHeld).2).mono ?_; rintro e w1 ⟨rfl, hb1⟩) | (go_at_call 36; refine (HT.out _ (kat6 hHeld).1).mono ?_; rintro e w1 ⟨rfl, hb1⟩) | skip)))
        refine hK.out _ _ ?kr6_12 (fun hHeld => ?_)
        case kr6_12 => (try dsimp only); (first | with_reducible assumption | exact s6_bel (by assumption) (by assumption) | assumption | exact s6_alloc (by assumption) _)
        clear hK K
        try simp only [Act.put, List.setIfInBounds_toArray, List.set_cons_zero, List.set_cons_succ]
        refine tk 13 ?_
        refine tk 14 ?_
        refine tk 15 ?_
        refine tk 16 ?_
        refine wpAnyH_ready (rs := [17]) (by kernel_rfl) (by simp) ?_
        refine AllReadyH.cons (o := ?or6_17) ?ir6_17 (fun K hK => ?sr6_17) AllReadyH.nil
        case ir6_17 => (simp only [List.getElem?_toArray, List.getElem?_cons_succ, List.getElem?_cons_zero]; rfl)
        (first | (go_simp; (first | (go_at_call 32; refine (HV.out _).mono ?_; rintro e w1 ⟨rfl, hb1⟩) | (go_at_call 33; refine (HC.out _).mono ?_; rintro e w1 ⟨rfl, hb1⟩) | (go_at_call 34; refine (HE.out _).mono ?_; rintro e w1 ⟨rfl, hb1⟩) | (go_at_call 35; refine (HP.out _ (kat6 hHeld).1 (kat6 hHeld).2).mono ?_; rintro e w1 ⟨rfl, hb1⟩) | (go_at_call 36; refine (HT.out _ (kat6 hHeld).1).mono ?_; rintro e w1 ⟨rfl, hb1⟩) | skip)))
        refine hK.out _ _ ?kr6_17 (fun hHeld => ?_)
        case kr6_17 => (try dsimp only); (first | with_reducible assumption | exact s6_bel (by assumption) (by assumption) | assumption | exact s6_alloc (by assumption) _)
        clear hK K
        try simp only [Act.put, List.setIfInBounds_toArray, List.set_cons_zero, List.set_cons_succ]
        refine tk 18 ?_
        refine tk 19 ?_
        refine tu 20 ?_
        refine tu 21 ?_
        refine tu 22 ?_
        refine tk 23 ?_
        refine tk 24 ?_
        refine tu 25 ?_
        refine tu 26 ?_
        refine tu 27 ?_
        refine tu 28 ?_
        refine tu 29 ?_
        refine tu 30 ?_
        refine tk 31 ?_
        refine tk 32 ?_
        refine tu 33 ?_
        refine tk 34 ?_
        refine tk 35 ?_
        refine wpAnyH_done (by kernel_rfl) ?_ _
        refine NoPanic.normal ?_
        all_goals
          go_wp2
          go_ret
          exact ⟨ret_bool HR.out.symm, by exact obB⟩

theorem c_KnownValid_yes (k : Kn) (A : Option Addr) (cap L : Nat) (w : World) (h : PsAt w L A cap k.ps) (hL : L ≤ w.heap.size) (hk : k.Ok) (hw : k.Wf) :
    Calls Tryz.prog 9 #[.agg #[.int .i64 k.o, .int .i64 k.l, .int .i64 k.m, .slice A k.ps.length cap, .int .i64 k.base, .int .i64 k.last]] w fun e w' => e = .returned (.bool true) ∧ Below w.heap.size w w' := by
  obtain ⟨i0, hi⟩ := firstBad_ex k.c k.ps
  have := c_KnownValid_gen k A cap L i0 w h hL hw hi
  rwa [(kB_iff hi).2 hk] at this
theorem c_KnownValid_no (k : Kn) (A : Option Addr) (cap L : Nat) (w : World) (h : PsAt w L A cap k.ps) (hL : L ≤ w.heap.size) (hk : ¬ k.Ok) (hw : k.Wf) :
    Calls Tryz.prog 9 #[.agg #[.int .i64 k.o, .int .i64 k.l, .int .i64 k.m, .slice A k.ps.length cap, .int .i64 k.base, .int .i64 k.last]] w fun e w' => e = .returned (.bool false) ∧ Below w.heap.size w w' := by
  obtain ⟨i0, hi⟩ := firstBad_ex k.c k.ps
  have := c_KnownValid_gen k A cap L i0 w h hL hw hi
  rwa [show kB k i0 = false by cases hb : kB k i0 with | false => rfl | true => exact absurd ((kB_iff hi).1 hb) hk] at this
/-- what is valid has int's -/
theorem Kn.Ok.wf {k : Kn} (h : k.Ok) : k.Wf := by
  have hc := h.cbd
  have hl := h.len
  have hb := h.lastBd
  refine ⟨fun i p hp => ?_, by have := h.base0; have := h.base1; omega, by unfold Kn.next at hb; omega, by omega⟩
  obtain ⟨h1, h2, h3⟩ := h.pairs i p hp
  have := get_lt hp
  unfold HasW at h1; omega
end

section
open Go.ChangeShapes Go.WideShapes Go.ChangeAt Go.RowKit Go.Joins
set_option linter.unusedVariables false

theorem c_l2Code (o l m code : Int) (n : Nat) (w : World) (h : setOk o l m = true) (hn : n ≤ 2000000) : Calls Tryz.prog 66 #[.agg #[.int .i64 o, .int .i64 l, .int .i64 m], .int .i64 code, .int .i64 n] w fun e w' => e = .returned (.bool (decide (HasW (pow2 l) code n))) ∧ Below w.heap.size w w' := by
  have hp := set_bd h
  obtain ⟨_, ⟨hl1, hl2⟩, _⟩ := setOk_iff.1 h
  have HC := hid (fun (v : World) => c_l1Clear o l m v (by omega) (by omega))
  have HE := hid (fun (v : World) => c_l1End o l m v (by omega) (by omega))
  have ew1 : IntKind.i64.wrap (pow2 l - 1) = pow2 l - 1 := IntWalk.i64_in _ (by omega)
  have ew2 : IntKind.i64.wrap (pow2 l + 1 + 1) = pow2 l + 1 + 1 := IntWalk.i64_in _ (by omega)
  have ew3 : IntKind.i64.wrap (pow2 l + 1 + (n : Int)) = pow2 l + 1 + (n : Int) := IntWalk.i64_in _ (by omega)
  have kb := (Blk.new w 24 #[.int .i64 o, .int .i64 l, .int .i64 m]).cells3
  have HS := hid (And.intro kb.1 (And.intro kb.2.1 (And.intro kb.2.2 (bel_alloc (Below.refl _ w) (.cells #[.int .i64 o, .int .i64 l, .int .i64 m] 24)))))
  clear kb
  by_cases h1 : 0 ≤ code ∧ code < pow2 l
  · have HI := hid (fun (v : World) => c_l1In code 0 (pow2 l - 1) v)
    have e1 : inB code 0 (pow2 l - 1) = true := inB_iff.2 (by omega)
    rw [e1] at HI
    have HR := hid (show HasW (pow2 l) code n from Or.inl h1)
    clear h1 e1
    go_enter Tryz.func66, Tryz.ntmps66
    go_wp2_with fail
    have hS := HS.out
    refine wp_region_noPanic ?_
    refine wp_region_held_drew (S := (fun v => v.cell? ⟨w.heap.size, 0, none⟩ = some (.int .i64 o) ∧ v.cell? ⟨w.heap.size, 1, none⟩ = some (.int .i64 l) ∧ v.cell? ⟨w.heap.size, 2, none⟩ = some (.int .i64 m) ∧ Below w.heap.size w v)) (by kernel_rfl) (s3_drew hS) (fun hHeld => ?_)
    refine tk 0 ?_
    refine tk 1 ?_
    refine wpAnyH_ready (rs := [2]) (by kernel_rfl) (by simp) ?_
    refine AllReadyH.cons (o := ?or1_2) ?ir1_2 (fun K hK => ?sr1_2) AllReadyH.nil
    case ir1_2 => (simp only [List.getElem?_toArray, List.getElem?_cons_succ, List.getElem?_cons_zero]; rfl)
    (first | (go_simp; (first | (go_at_call 67; refine (HC.out _).mono ?_; rintro e w1 ⟨rfl, hb1⟩) | (go_at_call 65; with_reducible refine (HI.out _).mono ?_; rintro e w1 ⟨rfl, rfl⟩) | skip)))
    refine hK.out _ _ ?kr1_2 (fun hHeld => ?_)
    case kr1_2 => (try dsimp only); (first | with_reducible assumption | exact s3_bel (by assumption) (by assumption) | assumption | exact s3_alloc (by assumption) _)
    clear hK K
    try simp only [Act.put, List.setIfInBounds_toArray, List.set_cons_zero, List.set_cons_succ]
    refine tk 3 ?_
    refine wpAnyH_ready (rs := [4]) (by kernel_rfl) (by simp) ?_
    refine AllReadyH.cons (o := ?or1_4) ?ir1_4 (fun K hK => ?sr1_4) AllReadyH.nil
    case ir1_4 => (simp only [List.getElem?_toArray, List.getElem?_cons_succ, List.getElem?_cons_zero]; rfl)
    (first | (go_simp; (first | (go_at_call 67; refine (HC.out _).mono ?_; rintro e w1 ⟨rfl, hb1⟩) | (go_at_call 65; with_reducible refine (HI.out _).mono ?_; rintro e w1 ⟨rfl, rfl⟩) | skip)))
    refine hK.out _ _ ?kr1_4 (fun hHeld => ?_)
    case kr1_4 => (try dsimp only); (first | with_reducible assumption | exact s3_bel (by assumption) (by assumption) | assumption | exact s3_alloc (by assumption) _)
    clear hK K
    try simp only [Act.put, List.setIfInBounds_toArray, List.set_cons_zero, List.set_cons_succ]
    refine tk 5 ?_
    refine tu 6 ?_
    refine tu 7 ?_
    refine tu 8 ?_
    refine tu 9 ?_
    refine tu 10 ?_
    refine tu 11 ?_
    refine tu 12 ?_
    refine tu 13 ?_
    refine tu 14 ?_
    refine tk 15 ?_
    refine tk 16 ?_
    refine wpAnyH_done (by kernel_rfl) ?_ _
    refine NoPanic.normal ?_
    all_goals
      go_wp2
      go_ret
      exact ⟨ret_bool (by simp [HR.out]), by exact obB⟩
  · have HI := hid (fun (v : World) => c_l1In code 0 (pow2 l - 1) v)
    have e1 : inB code 0 (pow2 l - 1) = false := by
      cases hb : inB code 0 (pow2 l - 1) with
      | false => rfl
      | true => have := inB_iff.1 hb; omega
    rw [e1] at HI
    have HI2 := hid (fun (v : World) => c_l1In code (pow2 l + 1 + 1) (pow2 l + 1 + n) v)
    have HR := hid (show inB code (pow2 l + 1 + 1) (pow2 l + 1 + n) = decide (HasW (pow2 l) code n) by
      unfold inB; rw [decide_eq_decide]; unfold HasW; omega)
    clear h1 e1
    go_enter Tryz.func66, Tryz.ntmps66
    go_wp2_with fail
    have hS := HS.out
    refine wp_region_noPanic ?_
    refine wp_region_held_drew (S := (fun v => v.cell? ⟨w.heap.size, 0, none⟩ = some (.int .i64 o) ∧ v.cell? ⟨w.heap.size, 1, none⟩ = some (.int .i64 l) ∧ v.cell? ⟨w.heap.size, 2, none⟩ = some (.int .i64 m) ∧ Below w.heap.size w v)) (by kernel_rfl) (s3_drew hS) (fun hHeld => ?_)
    refine tk 0 ?_
    refine tk 1 ?_
    refine wpAnyH_ready (rs := [2]) (by kernel_rfl) (by simp) ?_
    refine AllReadyH.cons (o := ?or2_2) ?ir2_2 (fun K hK => ?sr2_2) AllReadyH.nil
    case ir2_2 => (simp only [List.getElem?_toArray, List.getElem?_cons_succ, List.getElem?_cons_zero]; rfl)
    (first | (go_simp; (first | (go_at_call 67; refine (HC.out _).mono ?_; rintro e w1 ⟨rfl, hb1⟩) | (go_at_call 64; refine (HE.out _).mono ?_; rintro e w1 ⟨rfl, hb1⟩) | (go_at_call 65; with_reducible refine (HI.out _).mono ?_; rintro e w1 ⟨rfl, rfl⟩) | (go_at_call 65; with_reducible refine (HI2.out _).mono ?_; rintro e w1 ⟨rfl, rfl⟩) | skip)))
    refine hK.out _ _ ?kr2_2 (fun hHeld => ?_)
    case kr2_2 => (try dsimp only); (first | with_reducible assumption | exact s3_bel (by assumption) (by assumption) | assumption | exact s3_alloc (by assumption) _)
    clear hK K
    try simp only [Act.put, List.setIfInBounds_toArray, List.set_cons_zero, List.set_cons_succ]
    refine tk 3 ?_
    refine wpAnyH_ready (rs := [4]) (by kernel_rfl) (by simp) ?_
    refine AllReadyH.cons (o := ?or2_4) ?ir2_4 (fun K hK => ?sr2_4) AllReadyH.nil
    case ir2_4 => (simp only [List.getElem?_toArray, List.getElem?_cons_succ, List.getElem?_cons_zero]; rfl)
    (first | (go_simp; (first | (go_at_call 67; refine (HC.out _).mono ?_; rintro e w1 ⟨rfl, hb1⟩) | (go_at_call 64; refine (HE.out _).mono ?_; rintro e w1 ⟨rfl, hb1⟩) | (go_at_call 65; with_reducible refine (HI.out _).mono ?_; rintro e w1 ⟨rfl, rfl⟩) | (go_at_call 65; with_reducible refine (HI2.out _).mono ?_; rintro e w1 ⟨rfl, rfl⟩) | skip)))
    refine hK.out _ _ ?kr2_4 (fun hHeld => ?_)
    case kr2_4 => (try dsimp only); (first | with_reducible assumption | exact s3_bel (by assumption) (by assumption) | assumption | exact s3_alloc (by assumption) _)
    clear hK K
    try simp only [Act.put, List.setIfInBounds_toArray, List.set_cons_zero, List.set_cons_succ]
    refine tk 5 ?_
    refine tk 6 ?_
    refine tk 7 ?_
    refine tk 10 ?_
    refine tk 12 ?_
    refine wpAnyH_ready (rs := [8]) (by kernel_rfl) (by simp) ?_
    refine AllReadyH.cons (o := ?or2_8) ?ir2_8 (fun K hK => ?sr2_8) AllReadyH.nil
    case ir2_8 => (simp only [List.getElem?_toArray, List.getElem?_cons_succ, List.getElem?_cons_zero]; rfl)
    (first | (go_simp; (first | (go_at_call 67; refine (HC.out _).mono ?_; rintro e w1 ⟨rfl, hb1⟩) | (go_at_call 64; refine (HE.out _).mono ?_; rintro e w1 ⟨rfl, hb1⟩) | (go_at_call 65; with_reducible refine (HI.out _).mono ?_; rintro e w1 ⟨rfl, rfl⟩) | (go_at_call 65; with_reducible refine (HI2.out _).mono ?_; rintro e w1 ⟨rfl, rfl⟩) | skip)))
    refine hK.out _ _ ?kr2_8 (fun hHeld => ?_)
    case kr2_8 => (try dsimp only); (first | with_reducible assumption | exact s3_bel (by assumption) (by assumption) | assumption | exact s3_alloc (by assumption) _)
    clear hK K
    try simp only [Act.put, List.setIfInBounds_toArray, List.set_cons_zero, List.set_cons_succ]
    refine tk 9 ?_
    refine wpAnyH_ready (rs := [11]) (by kernel_rfl) (by simp) ?_
    refine AllReadyH.cons (o := ?or2_11) ?ir2_11 (fun K hK => ?sr2_11) AllReadyH.nil
    case ir2_11 => (simp only [List.getElem?_toArray, List.getElem?_cons_succ, List.getElem?_cons_zero]; rfl)
    (first | (go_simp; (first | (go_at_call 67; refine (HC.out _).mono ?_; rintro e w1 ⟨rfl, hb1⟩) | (go_at_call 64; refine (HE.out _).mono ?_; rintro e w1 ⟨rfl, hb1⟩) | (go_at_call 65; with_reducible refine (HI.out _).mono ?_; rintro e w1 ⟨rfl, rfl⟩) | (go_at_call 65; with_reducible refine (HI2.out _).mono ?_; rintro e w1 ⟨rfl, rfl⟩) | skip)))
    refine hK.out _ _ ?kr2_11 (fun hHeld => ?_)
    case kr2_11 => (try dsimp only); (first | with_reducible assumption | exact s3_bel (by assumption) (by assumption) | assumption | exact s3_alloc (by assumption) _)
    clear hK K
    try simp only [Act.put, List.setIfInBounds_toArray, List.set_cons_zero, List.set_cons_succ]
    refine tk 13 ?_
    refine wpAnyH_ready (rs := [14]) (by kernel_rfl) (by simp) ?_
    refine AllReadyH.cons (o := ?or2_14) ?ir2_14 (fun K hK => ?sr2_14) AllReadyH.nil
    case ir2_14 => (simp only [List.getElem?_toArray, List.getElem?_cons_succ, List.getElem?_cons_zero]; rfl)
    (first | (go_simp; (first | (go_at_call 67; refine (HC.out _).mono ?_; rintro e w1 ⟨rfl, hb1⟩) | (go_at_call 64; refine (HE.out _).mono ?_; rintro e w1 ⟨rfl, hb1⟩) | (go_at_call 65; with_reducible refine (HI.out _).mono ?_; rintro e w1 ⟨rfl, rfl⟩) | (go_at_call 65; with_reducible refine (HI2.out _).mono ?_; rintro e w1 ⟨rfl, rfl⟩) | skip)))
    refine hK.out _ _ ?kr2_14 (fun hHeld => ?_)
    case kr2_14 => (try dsimp only); (first | with_reducible assumption | exact s3_bel (by assumption) (by assumption) | assumption | exact s3_alloc (by assumption) _)
    clear hK K
    try simp only [Act.put, List.setIfInBounds_toArray, List.set_cons_zero, List.set_cons_succ]
    refine tk 15 ?_
    refine tk 16 ?_
    refine wpAnyH_done (by kernel_rfl) ?_ _
    refine NoPanic.normal ?_
    all_goals
      go_wp2
      go_ret
      exact ⟨ret_bool HR.out, by exact obB⟩

/-- the model's box of what is known, and its copy of the setting -/
def Box9 (w v : World) (k : Kn) (A : Option Addr) (cap : Nat) : Prop := v.cell? ⟨w.heap.size, 0, none⟩ = some (.int .i64 k.o) ∧ v.cell? ⟨w.heap.size, 1, none⟩ = some (.int .i64 k.l) ∧ v.cell? ⟨w.heap.size, 2, none⟩ = some (.int .i64 k.m) ∧ v.cell? ⟨w.heap.size, 3, none⟩ = some (.slice A k.ps.length cap) ∧ v.cell? ⟨w.heap.size, 4, none⟩ = some (.int .i64 k.base) ∧ v.cell? ⟨w.heap.size, 5, none⟩ = some (.int .i64 k.last) ∧ v.cell? ⟨w.heap.size + 1, 0, none⟩ = some (.int .i64 k.o) ∧ v.cell? ⟨w.heap.size + 1, 1, none⟩ = some (.int .i64 k.l) ∧ v.cell? ⟨w.heap.size + 1, 2, none⟩ = some (.int .i64 k.m) ∧ Below w.heap.size w v
theorem Box9.on {w v v' : World} {k : Kn} {A : Option Addr} {cap : Nat} (h : Box9 w v k A cap) (hb : Below v.heap.size v v') : Box9 w v' k A cap := s9_bel hb h

set_option maxHeartbeats 1000000 in
theorem c_sKnownValid_gen (k : Kn) (A : Option Addr) (cap L i0 : Nat) (w : World) (h : PsAt w L A cap k.ps) (hL : L ≤ w.heap.size) (hw : k.Wf) (hi : FirstBad k.c k.ps i0) :
    Calls Tryz.prog 28 #[.agg #[.int .i64 k.o, .int .i64 k.l, .int .i64 k.m, .slice A k.ps.length cap, .int .i64 k.base, .int .i64 k.last]] w fun e w' => e = .returned (.bool (kB k i0)) ∧ Below w.heap.size w w' := by
  have HH := hid h
  have HF := hid hi
  have hi0 := hi.1
  have hlen := hw.len
  obtain ⟨hbase1, hbase2⟩ := hw.base
  obtain ⟨hlast1, hlast2⟩ := hw.last
  clear h hi hw
  have HB0 : Box9 w (((w.alloc (.cells #[.int .i64 k.o, .int .i64 k.l, .int .i64 k.m, .slice A k.ps.length cap, .int .i64 k.base, .int .i64 k.last] 27)).alloc (.cells #[.int .i64 k.o, .int .i64 k.l, .int .i64 k.m] 24))) k A cap := by
    have k6 := ((Blk.new w 27 #[.int .i64 k.o, .int .i64 k.l, .int .i64 k.m, .slice A k.ps.length cap, .int .i64 k.base, .int .i64 k.last]).alloc (.cells #[.int .i64 k.o, .int .i64 k.l, .int .i64 k.m] 24)).cells6
    have k3 := (Blk.top w (.cells #[.int .i64 k.o, .int .i64 k.l, .int .i64 k.m, .slice A k.ps.length cap, .int .i64 k.base, .int .i64 k.last] 27) 24 #[.int .i64 k.o, .int .i64 k.l, .int .i64 k.m]).cells3
    exact ⟨k6.1, k6.2.1, k6.2.2.1, k6.2.2.2.1, k6.2.2.2.2.1, k6.2.2.2.2.2, k3.1, k3.2.1, k3.2.2, bel_alloc (bel_alloc (Below.refl _ w) _) _⟩
  have HV := hid (fun (v : World) => c_sSettingValid k.o k.l k.m v)
  have HB0 := hid HB0
  cases hs : setOk k.o k.l k.m with
  | false =>
    rw [hs] at HV
    have HR := hid (show kB k i0 = false by simp [kB, hs])
    clear hs
    go_enter Tryz.func28, Tryz.ntmps28
    go_wp2_with fail
    have hS := HB0.out
    refine wp_region_noPanic ?_
    refine wp_region_held_drew (S := (fun v => v.cell? ⟨w.heap.size, 0, none⟩ = some (.int .i64 k.o) ∧ v.cell? ⟨w.heap.size, 1, none⟩ = some (.int .i64 k.l) ∧ v.cell? ⟨w.heap.size, 2, none⟩ = some (.int .i64 k.m) ∧ v.cell? ⟨w.heap.size, 3, none⟩ = some (.slice A k.ps.length cap) ∧ v.cell? ⟨w.heap.size, 4, none⟩ = some (.int .i64 k.base) ∧ v.cell? ⟨w.heap.size, 5, none⟩ = some (.int .i64 k.last) ∧ v.cell? ⟨w.heap.size + 1, 0, none⟩ = some (.int .i64 k.o) ∧ v.cell? ⟨w.heap.size + 1, 1, none⟩ = some (.int .i64 k.l) ∧ v.cell? ⟨w.heap.size + 1, 2, none⟩ = some (.int .i64 k.m) ∧ Below w.heap.size w v)) (by kernel_rfl) (s9_drew hS) (fun hHeld => ?_)
    refine tk 0 ?_
    refine wpAnyH_ready (rs := [1]) (by kernel_rfl) (by simp) ?_
    refine AllReadyH.cons (o := ?or3_1) ?ir3_1 (fun K hK => ?sr3_1) AllReadyH.nil
    case ir3_1 => (simp only [List.getElem?_toArray, List.getElem?_cons_succ, List.getElem?_cons_zero]; rfl)
    (first | (go_simp; (first | (go_at_call 62; refine (HV.out _).mono ?_; rintro e w1 ⟨rfl, hb1⟩) | (go_at_call 63; refine (HC.out _).mono ?_; rintro e w1 ⟨rfl, hb1⟩) | (go_at_call 64; refine (HE.out _).mono ?_; rintro e w1 ⟨rfl, hb1⟩) | (go_at_call 65; with_reducible refine (HI.out _).mono ?_; rintro e w1 ⟨rfl, rfl⟩) | skip)))
    refine hK.out _ _ ?kr3_1 (fun hHeld => ?_)
    case kr3_1 => (try dsimp only); (first | with_reducible assumption | exact s9_bel (by assumption) (by assumption) | assumption | exact s9_alloc (by assumption) _)
    clear hK K
    try simp only [Act.put, List.setIfInBounds_toArray, List.set_cons_zero, List.set_cons_succ]
    refine tk 2 ?_
    refine tk 3 ?_
    refine tu 4 ?_
    refine tu 5 ?_
    refine tu 6 ?_
    refine tu 7 ?_
    refine tu 8 ?_
    refine tu 9 ?_
    refine tu 10 ?_
    refine tu 11 ?_
    refine tu 12 ?_
    refine tk 13 ?_
    refine tk 14 ?_
    refine tu 15 ?_
    refine tu 16 ?_
    refine tu 17 ?_
    refine tu 18 ?_
    refine tu 19 ?_
    refine tu 20 ?_
    refine tu 21 ?_
    refine tk 22 ?_
    refine wpAnyH_done (by kernel_rfl) ?_ _
    refine NoPanic.normal ?_
    go_wp2
    go_ret
    exact ⟨ret_bool HR.out.symm, by exact obB⟩
  | true =>
    rw [hs] at HV
    have hp := set_bd hs
    obtain ⟨_, ⟨hl1, hl2⟩, hm1, hm2⟩ := setOk_iff.1 hs
    have HC := hid (fun (v : World) => c_l1Last k.o k.l k.m v (by omega) (by omega))
    have HE := hid (fun (v : World) => c_l1End k.o k.l k.m v (by omega) (by omega))
    have ew : IntKind.i64.wrap (pow2 k.m - 1 - (pow2 k.l + 1)) = pow2 k.m - 1 - (pow2 k.l + 1) := IntWalk.i64_in _ (by omega)
    have HI := hid (fun (v : World) => c_l1In k.base 0 k.ps.length v)
    cases hr : room k with
    | false =>
      have HR := hid (show kB k i0 = false by simp [kB, hr])
      have hr3 : decide (pow2 k.m - 1 - (pow2 k.l + 1) < (k.ps.length : Int)) = true := by simp [room] at hr; simp; omega
      clear hr
      go_enter Tryz.func28, Tryz.ntmps28
      go_wp2_with fail
      have hS := HB0.out
      refine wp_region_noPanic ?_
      refine wp_region_held_drew (S := (fun v => v.cell? ⟨w.heap.size, 0, none⟩ = some (.int .i64 k.o) ∧ v.cell? ⟨w.heap.size, 1, none⟩ = some (.int .i64 k.l) ∧ v.cell? ⟨w.heap.size, 2, none⟩ = some (.int .i64 k.m) ∧ v.cell? ⟨w.heap.size, 3, none⟩ = some (.slice A k.ps.length cap) ∧ v.cell? ⟨w.heap.size, 4, none⟩ = some (.int .i64 k.base) ∧ v.cell? ⟨w.heap.size, 5, none⟩ = some (.int .i64 k.last) ∧ v.cell? ⟨w.heap.size + 1, 0, none⟩ = some (.int .i64 k.o) ∧ v.cell? ⟨w.heap.size + 1, 1, none⟩ = some (.int .i64 k.l) ∧ v.cell? ⟨w.heap.size + 1, 2, none⟩ = some (.int .i64 k.m) ∧ Below w.heap.size w v)) (by kernel_rfl) (s9_drew hS) (fun hHeld => ?_)
      refine tk 0 ?_
      refine wpAnyH_ready (rs := [1]) (by kernel_rfl) (by simp) ?_
      refine AllReadyH.cons (o := ?or4_1) ?ir4_1 (fun K hK => ?sr4_1) AllReadyH.nil
      case ir4_1 => (simp only [List.getElem?_toArray, List.getElem?_cons_succ, List.getElem?_cons_zero]; rfl)
      (first | (go_simp; (first | (go_at_call 62; refine (HV.out _).mono ?_; rintro e w1 ⟨rfl, hb1⟩) | (go_at_call 63; refine (HC.out _).mono ?_; rintro e w1 ⟨rfl, hb1⟩) | (go_at_call 64; refine (HE.out _).mono ?_; rintro e w1 ⟨rfl, hb1⟩) | (go_at_call 65; with_reducible refine (HI.out _).mono ?_; rintro e w1 ⟨rfl, rfl⟩) | skip)))
      refine hK.out _ _ ?kr4_1 (fun hHeld => ?_)
      case kr4_1 => (try dsimp only); (first | with_reducible assumption | exact s9_bel (by assumption) (by assumption) | assumption | exact s9_alloc (by assumption) _)
      clear hK K
      try simp only [Act.put, List.setIfInBounds_toArray, List.set_cons_zero, List.set_cons_succ]
      refine tk 2 ?_
      refine tk 3 ?_
      refine tk 4 ?_
      refine tk 5 ?_
      refine tk 6 ?_
      refine tk 7 ?_
      refine tk 9 ?_
      refine wpAnyH_ready (rs := [8]) (by kernel_rfl) (by simp) ?_
      refine AllReadyH.cons (o := ?or4_8) ?ir4_8 (fun K hK => ?sr4_8) AllReadyH.nil
      case ir4_8 => (simp only [List.getElem?_toArray, List.getElem?_cons_succ, List.getElem?_cons_zero]; rfl)
      (first | (go_simp; (first | (go_at_call 62; refine (HV.out _).mono ?_; rintro e w1 ⟨rfl, hb1⟩) | (go_at_call 63; refine (HC.out _).mono ?_; rintro e w1 ⟨rfl, hb1⟩) | (go_at_call 64; refine (HE.out _).mono ?_; rintro e w1 ⟨rfl, hb1⟩) | (go_at_call 65; with_reducible refine (HI.out _).mono ?_; rintro e w1 ⟨rfl, rfl⟩) | skip)))
      refine hK.out _ _ ?kr4_8 (fun hHeld => ?_)
      case kr4_8 => (try dsimp only); (first | with_reducible assumption | exact s9_bel (by assumption) (by assumption) | assumption | exact s9_alloc (by assumption) _)
      clear hK K
      try simp only [Act.put, List.setIfInBounds_toArray, List.set_cons_zero, List.set_cons_succ]
      refine wpAnyH_ready (rs := [10]) (by kernel_rfl) (by simp) ?_
      refine AllReadyH.cons (o := ?or4_10) ?ir4_10 (fun K hK => ?sr4_10) AllReadyH.nil
      case ir4_10 => (simp only [List.getElem?_toArray, List.getElem?_cons_succ, List.getElem?_cons_zero]; rfl)
      (first | (go_simp; (first | (go_at_call 62; refine (HV.out _).mono ?_; rintro e w1 ⟨rfl, hb1⟩) | (go_at_call 63; refine (HC.out _).mono ?_; rintro e w1 ⟨rfl, hb1⟩) | (go_at_call 64; refine (HE.out _).mono ?_; rintro e w1 ⟨rfl, hb1⟩) | (go_at_call 65; with_reducible refine (HI.out _).mono ?_; rintro e w1 ⟨rfl, rfl⟩) | skip)))
      refine hK.out _ _ ?kr4_10 (fun hHeld => ?_)
      case kr4_10 => (try dsimp only); (first | with_reducible assumption | exact s9_bel (by assumption) (by assumption) | assumption | exact s9_alloc (by assumption) _)
      clear hK K
      try simp only [Act.put, List.setIfInBounds_toArray, List.set_cons_zero, List.set_cons_succ]
      refine tk 11 ?_
      refine tk 12 ?_
      refine tk 13 ?_
      refine tk 14 ?_
      refine tu 15 ?_
      refine tu 16 ?_
      refine tu 17 ?_
      refine tu 18 ?_
      refine tu 19 ?_
      refine tu 20 ?_
      refine tu 21 ?_
      refine tk 22 ?_
      refine wpAnyH_done (by kernel_rfl) ?_ _
      refine NoPanic.normal ?_
      go_wp2
      go_ret
      exact ⟨ret_bool HR.out.symm, by exact obB⟩
    | true =>
      have hr3 : decide (pow2 k.m - 1 - (pow2 k.l + 1) < (k.ps.length : Int)) = false := by simp [room] at hr; simp; omega
      by_cases hd : 0 ≤ k.base ∧ k.base ≤ (k.ps.length : Int)
      · have e1 : inB k.base 0 k.ps.length = true := inB_iff.2 hd
        rw [e1] at HI
        have HK := hid (show kB k i0 = (decide (i0 = k.ps.length) && decide (LastOk k)) by simp [kB, hs, hr, hd.1, hd.2])
        clear hr hd e1
        go_enter Tryz.func28, Tryz.ntmps28
        go_wp2_with fail
        have hS := HB0.out
        refine wp_region_noPanic ?_
        refine wp_region_held_drew (S := (fun v => v.cell? ⟨w.heap.size, 0, none⟩ = some (.int .i64 k.o) ∧ v.cell? ⟨w.heap.size, 1, none⟩ = some (.int .i64 k.l) ∧ v.cell? ⟨w.heap.size, 2, none⟩ = some (.int .i64 k.m) ∧ v.cell? ⟨w.heap.size, 3, none⟩ = some (.slice A k.ps.length cap) ∧ v.cell? ⟨w.heap.size, 4, none⟩ = some (.int .i64 k.base) ∧ v.cell? ⟨w.heap.size, 5, none⟩ = some (.int .i64 k.last) ∧ v.cell? ⟨w.heap.size + 1, 0, none⟩ = some (.int .i64 k.o) ∧ v.cell? ⟨w.heap.size + 1, 1, none⟩ = some (.int .i64 k.l) ∧ v.cell? ⟨w.heap.size + 1, 2, none⟩ = some (.int .i64 k.m) ∧ Below w.heap.size w v)) (by kernel_rfl) (s9_drew hS) (fun hHeld => ?_)
        refine tk 0 ?_
        refine wpAnyH_ready (rs := [1]) (by kernel_rfl) (by simp) ?_
        refine AllReadyH.cons (o := ?or5_1) ?ir5_1 (fun K hK => ?sr5_1) AllReadyH.nil
        case ir5_1 => (simp only [List.getElem?_toArray, List.getElem?_cons_succ, List.getElem?_cons_zero]; rfl)
        (first | (go_simp; (first | (go_at_call 62; refine (HV.out _).mono ?_; rintro e w1 ⟨rfl, hb1⟩) | (go_at_call 63; refine (HC.out _).mono ?_; rintro e w1 ⟨rfl, hb1⟩) | (go_at_call 64; refine (HE.out _).mono ?_; rintro e w1 ⟨rfl, hb1⟩) | (go_at_call 65; with_reducible refine (HI.out _).mono ?_; rintro e w1 ⟨rfl, rfl⟩) | skip)))
        refine hK.out _ _ ?kr5_1 (fun hHeld => ?_)
        case kr5_1 => (try dsimp only); (first | with_reducible assumption | exact s9_bel (by assumption) (by assumption) | assumption | exact s9_alloc (by assumption) _)
        clear hK K
        try simp only [Act.put, List.setIfInBounds_toArray, List.set_cons_zero, List.set_cons_succ]
        refine tk 2 ?_
        refine tk 3 ?_
        refine tk 4 ?_
        refine tk 5 ?_
        refine tk 6 ?_
        refine tk 7 ?_
        refine tk 9 ?_
        refine wpAnyH_ready (rs := [8]) (by kernel_rfl) (by simp) ?_
        refine AllReadyH.cons (o := ?or5_8) ?ir5_8 (fun K hK => ?sr5_8) AllReadyH.nil
        case ir5_8 => (simp only [List.getElem?_toArray, List.getElem?_cons_succ, List.getElem?_cons_zero]; rfl)
        (first | (go_simp; (first | (go_at_call 62; refine (HV.out _).mono ?_; rintro e w1 ⟨rfl, hb1⟩) | (go_at_call 63; refine (HC.out _).mono ?_; rintro e w1 ⟨rfl, hb1⟩) | (go_at_call 64; refine (HE.out _).mono ?_; rintro e w1 ⟨rfl, hb1⟩) | (go_at_call 65; with_reducible refine (HI.out _).mono ?_; rintro e w1 ⟨rfl, rfl⟩) | skip)))
        refine hK.out _ _ ?kr5_8 (fun hHeld => ?_)
        case kr5_8 => (try dsimp only); (first | with_reducible assumption | exact s9_bel (by assumption) (by assumption) | assumption | exact s9_alloc (by assumption) _)
        clear hK K
        try simp only [Act.put, List.setIfInBounds_toArray, List.set_cons_zero, List.set_cons_succ]
        refine wpAnyH_ready (rs := [10]) (by kernel_rfl) (by simp) ?_
        refine AllReadyH.cons (o := ?or5_10) ?ir5_10 (fun K hK => ?sr5_10) AllReadyH.nil
        case ir5_10 => (simp only [List.getElem?_toArray, List.getElem?_cons_succ, List.getElem?_cons_zero]; rfl)
        (first | (go_simp; (first | (go_at_call 62; refine (HV.out _).mono ?_; rintro e w1 ⟨rfl, hb1⟩) | (go_at_call 63; refine (HC.out _).mono ?_; rintro e w1 ⟨rfl, hb1⟩) | (go_at_call 64; refine (HE.out _).mono ?_; rintro e w1 ⟨rfl, hb1⟩) | (go_at_call 65; with_reducible refine (HI.out _).mono ?_; rintro e w1 ⟨rfl, rfl⟩) | skip)))
        refine hK.out _ _ ?kr5_10 (fun hHeld => ?_)
        case kr5_10 => (try dsimp only); (first | with_reducible assumption | exact s9_bel (by assumption) (by assumption) | assumption | exact s9_alloc (by assumption) _)
        clear hK K
        try simp only [Act.put, List.setIfInBounds_toArray, List.set_cons_zero, List.set_cons_succ]
        refine tk 11 ?_
        refine tk 12 ?_
        refine tk 13 ?_
        refine tk 14 ?_
        refine tk 15 ?_
        refine tk 16 ?_
        refine tk 17 ?_
        refine tk 18 ?_
        refine tk 19 ?_
        refine wpAnyH_ready (rs := [20]) (by kernel_rfl) (by simp) ?_
        refine AllReadyH.cons (o := ?or5_20) ?ir5_20 (fun K hK => ?sr5_20) AllReadyH.nil
        case ir5_20 => (simp only [List.getElem?_toArray, List.getElem?_cons_succ, List.getElem?_cons_zero]; rfl)
        (first | (go_simp; (first | (go_at_call 62; refine (HV.out _).mono ?_; rintro e w1 ⟨rfl, hb1⟩) | (go_at_call 63; refine (HC.out _).mono ?_; rintro e w1 ⟨rfl, hb1⟩) | (go_at_call 64; refine (HE.out _).mono ?_; rintro e w1 ⟨rfl, hb1⟩) | (go_at_call 65; with_reducible refine (HI.out _).mono ?_; rintro e w1 ⟨rfl, rfl⟩) | skip)))
        refine hK.out _ _ ?kr5_20 (fun hHeld => ?_)
        case kr5_20 => (try dsimp only); (first | with_reducible assumption | exact s9_bel (by assumption) (by assumption) | assumption | exact s9_alloc (by assumption) _)
        clear hK K
        try simp only [Act.put, List.setIfInBounds_toArray, List.set_cons_zero, List.set_cons_succ]
        refine tk 21 ?_
        refine tk 22 ?_
        refine wpAnyH_done (by kernel_rfl) ?_ _
        refine NoPanic.normal ?_
        have HS2 : Box9 w _ k A cap := hHeld
        have HWc := hid (fun (v : World) (x : Int) (n : Nat) (hn : n ≤ 2000000) => c_l2Code k.o k.l k.m x n v hs hn)
        have HCl := hid (fun (v : World) => c_l1Clear k.o k.l k.m v (by omega) (by omega))
        have ey : IntKind.i64.wrap (pow2 k.l - 1) = pow2 k.l - 1 := IntWalk.i64_in _ (by omega)
        go_wp2_with fail
        clear HV HC HE HI HB0 hr3 ew hHeld hS
        go_loopw [4] (fun i wr => ∃ n : Nat, n ≤ i0 ∧ i = .int .i64 n ∧ Box9 w wr k A cap) (fun i _ => k.ps.length - (intOf i).toNat)
        case atStart => exact ⟨0, Nat.zero_le _, rfl, HS2⟩
        case round =>
          obtain ⟨n, hn0, rfl, hbx⟩ := hrel
          have hS0 := hid hbx
          obtain ⟨q0, q1, q2, q3, q4, q5, q6, q7, q8, hbl⟩ := hbx
          by_cases hlt : n < k.ps.length
          · obtain ⟨d, off, rfl, hd, hd0, hd1⟩ := pair_at (HH.out.below hbl hL) n hlt
            have HP := hid (List.getElem?_eq_getElem hlt)
            obtain ⟨p, hp2⟩ : ∃ p, p = k.ps[n] := ⟨_, rfl⟩
            rw [← hp2] at hd0 hd1 HP
            clear hp2
            obtain ⟨x, y⟩ := p
            simp only at hd0 hd1
            have HS := hid (And.intro q0 (And.intro q1 (And.intro q2 (And.intro q3 (And.intro q4 (And.intro q5 (And.intro q6 (And.intro q7 (And.intro q8 (And.intro hd0 (And.intro hd1 hbl)))))))))))
            have HW := hid (fun (v : World) => HWc.out v x n (by omega))
            have HY := hid (fun (v : World) => c_l1In y 0 (pow2 k.l - 1) v)
            by_cases h1 : HasW (pow2 k.l) x n
            · simp only [decide_eq_true h1] at HW
              by_cases h2 : 0 ≤ y ∧ y < pow2 k.l
              · have e2 : inB y 0 (pow2 k.l - 1) = true := inB_iff.2 (by omega)
                simp only [e2] at HY
                have HN := hid (show n < i0 by
                  rcases Nat.lt_or_ge n i0 with h3 | h3
                  · exact h3
                  · have : n = i0 := by omega
                    subst this
                    exact absurd ⟨h1, h2.1, h2.2⟩ (HF.out.2.2 _ HP.out))
                clear h1 h2 e2
                go_wp2_with fail
                clear q0 q1 q2 q3 q4 q5 q6 q7 q8 hd0 hd1
                have hS := HS.out
                refine wp_region_noPanic ?_
                refine wp_region_held_drew (S := (fun v => v.cell? ⟨w.heap.size, 0, none⟩ = some (.int .i64 k.o) ∧ v.cell? ⟨w.heap.size, 1, none⟩ = some (.int .i64 k.l) ∧ v.cell? ⟨w.heap.size, 2, none⟩ = some (.int .i64 k.m) ∧ v.cell? ⟨w.heap.size, 3, none⟩ = some (.slice (some ⟨d, off, none⟩) k.ps.length cap) ∧ v.cell? ⟨w.heap.size, 4, none⟩ = some (.int .i64 k.base) ∧ v.cell? ⟨w.heap.size, 5, none⟩ = some (.int .i64 k.last) ∧ v.cell? ⟨w.heap.size + 1, 0, none⟩ = some (.int .i64 k.o) ∧ v.cell? ⟨w.heap.size + 1, 1, none⟩ = some (.int .i64 k.l) ∧ v.cell? ⟨w.heap.size + 1, 2, none⟩ = some (.int .i64 k.m) ∧ v.cell? ⟨d, off + n * 2, none⟩ = some (.int .i64 x) ∧ v.cell? ⟨d, off + n * 2 + 1, none⟩ = some (.int .i64 y) ∧ Below w.heap.size w v)) (by kernel_rfl) (s11_drew hS) (fun hHeld => ?_)
                refine tk 0 ?_
                refine tk 1 ?_
                refine tk 2 ?_
                refine tk 3 ?_
                refine tk 4 ?_
                refine tk 5 ?_
                refine tk 6 ?_
                refine tk 7 ?_
                refine wpAnyH_ready (rs := [8]) (by kernel_rfl) (by simp) ?_
                refine AllReadyH.cons (o := ?or6_8) ?ir6_8 (fun K hK => ?sr6_8) AllReadyH.nil
                case ir6_8 => (simp only [List.getElem?_toArray, List.getElem?_cons_succ, List.getElem?_cons_zero]; rfl)
                (first | (go_simp; (first | (go_at_call 66; refine (HW.out _).mono ?_; rintro e w1 ⟨rfl, hb1⟩) | (go_at_call 67; refine (HCl.out _).mono ?_; rintro e w1 ⟨rfl, hb1⟩) | (go_at_call 65; with_reducible refine (HY.out _).mono ?_; rintro e w1 ⟨rfl, rfl⟩) | skip)))
                refine hK.out _ _ ?kr6_8 (fun hHeld => ?_)
                case kr6_8 => (try dsimp only); (first | with_reducible assumption | exact s11_bel (by assumption) (by assumption) | assumption | exact s11_alloc (by assumption) _)
                clear hK K
                try simp only [Act.put, List.setIfInBounds_toArray, List.set_cons_zero, List.set_cons_succ]
                refine tk 9 ?_
                refine tk 10 ?_
                refine tk 11 ?_
                refine tk 12 ?_
                refine tk 13 ?_
                refine tk 14 ?_
                refine tk 15 ?_
                refine tk 16 ?_
                refine tk 17 ?_
                refine wpAnyH_ready (rs := [18]) (by kernel_rfl) (by simp) ?_
                refine AllReadyH.cons (o := ?or6_18) ?ir6_18 (fun K hK => ?sr6_18) AllReadyH.nil
                case ir6_18 => (simp only [List.getElem?_toArray, List.getElem?_cons_succ, List.getElem?_cons_zero]; rfl)
                (first | (go_simp; (first | (go_at_call 66; refine (HW.out _).mono ?_; rintro e w1 ⟨rfl, hb1⟩) | (go_at_call 67; refine (HCl.out _).mono ?_; rintro e w1 ⟨rfl, hb1⟩) | (go_at_call 65; with_reducible refine (HY.out _).mono ?_; rintro e w1 ⟨rfl, rfl⟩) | skip)))
                refine hK.out _ _ ?kr6_18 (fun hHeld => ?_)
                case kr6_18 => (try dsimp only); (first | with_reducible assumption | exact s11_bel (by assumption) (by assumption) | assumption | exact s11_alloc (by assumption) _)
                clear hK K
                try simp only [Act.put, List.setIfInBounds_toArray, List.set_cons_zero, List.set_cons_succ]
                refine tk 19 ?_
                refine wpAnyH_ready (rs := [20]) (by kernel_rfl) (by simp) ?_
                refine AllReadyH.cons (o := ?or6_20) ?ir6_20 (fun K hK => ?sr6_20) AllReadyH.nil
                case ir6_20 => (simp only [List.getElem?_toArray, List.getElem?_cons_succ, List.getElem?_cons_zero]; rfl)
                (first | (go_simp; (first | (go_at_call 66; refine (HW.out _).mono ?_; rintro e w1 ⟨rfl, hb1⟩) | (go_at_call 67; refine (HCl.out _).mono ?_; rintro e w1 ⟨rfl, hb1⟩) | (go_at_call 65; with_reducible refine (HY.out _).mono ?_; rintro e w1 ⟨rfl, rfl⟩) | skip)))
                refine hK.out _ _ ?kr6_20 (fun hHeld => ?_)
                case kr6_20 => (try dsimp only); (first | with_reducible assumption | exact s11_bel (by assumption) (by assumption) | assumption | exact s11_alloc (by assumption) _)
                clear hK K
                try simp only [Act.put, List.setIfInBounds_toArray, List.set_cons_zero, List.set_cons_succ]
                refine tk 21 ?_
                refine tk 22 ?_
                refine wpAnyH_done (by kernel_rfl) ?_ _
                refine NoPanic.normal ?_
                have HS3 : Box9 w _ k (some ⟨d, off, none⟩) cap := ⟨hHeld.1, hHeld.2.1, hHeld.2.2.1, hHeld.2.2.2.1, hHeld.2.2.2.2.1, hHeld.2.2.2.2.2.1, hHeld.2.2.2.2.2.2.1, hHeld.2.2.2.2.2.2.2.1, hHeld.2.2.2.2.2.2.2.2.1, hHeld.2.2.2.2.2.2.2.2.2.2.2⟩
                clear hHeld hS
                go_wp2
                go_roundw
                case rel => exact ⟨n + 1, by have := HN.out; omega, by go_num, HS3⟩
                case measure => simp [intOf]; omega
              · have e2 : inB y 0 (pow2 k.l - 1) = false := by
                  cases hb : inB y 0 (pow2 k.l - 1) with
                  | false => rfl
                  | true => exact absurd (by have := inB_iff.1 hb; omega) h2
                simp only [e2] at HY
                have HN := hid (show ¬ i0 = k.ps.length by
                  rcases Nat.lt_or_ge n i0 with h3 | h3
                  · exact absurd (HF.out.2.1 n _ h3 HP.out).2 h2
                  · omega)
                clear h1 h2 e2
                go_wp2_with fail
                clear q0 q1 q2 q3 q4 q5 q6 q7 q8 hd0 hd1
                have hS := HS.out
                refine wp_region_noPanic ?_
                refine wp_region_held_drew (S := (fun v => v.cell? ⟨w.heap.size, 0, none⟩ = some (.int .i64 k.o) ∧ v.cell? ⟨w.heap.size, 1, none⟩ = some (.int .i64 k.l) ∧ v.cell? ⟨w.heap.size, 2, none⟩ = some (.int .i64 k.m) ∧ v.cell? ⟨w.heap.size, 3, none⟩ = some (.slice (some ⟨d, off, none⟩) k.ps.length cap) ∧ v.cell? ⟨w.heap.size, 4, none⟩ = some (.int .i64 k.base) ∧ v.cell? ⟨w.heap.size, 5, none⟩ = some (.int .i64 k.last) ∧ v.cell? ⟨w.heap.size + 1, 0, none⟩ = some (.int .i64 k.o) ∧ v.cell? ⟨w.heap.size + 1, 1, none⟩ = some (.int .i64 k.l) ∧ v.cell? ⟨w.heap.size + 1, 2, none⟩ = some (.int .i64 k.m) ∧ v.cell? ⟨d, off + n * 2, none⟩ = some (.int .i64 x) ∧ v.cell? ⟨d, off + n * 2 + 1, none⟩ = some (.int .i64 y) ∧ Below w.heap.size w v)) (by kernel_rfl) (s11_drew hS) (fun hHeld => ?_)
                refine tk 0 ?_
                refine tk 1 ?_
                refine tk 2 ?_
                refine tk 3 ?_
                refine tk 4 ?_
                refine tk 5 ?_
                refine tk 6 ?_
                refine tk 7 ?_
                refine wpAnyH_ready (rs := [8]) (by kernel_rfl) (by simp) ?_
                refine AllReadyH.cons (o := ?or7_8) ?ir7_8 (fun K hK => ?sr7_8) AllReadyH.nil
                case ir7_8 => (simp only [List.getElem?_toArray, List.getElem?_cons_succ, List.getElem?_cons_zero]; rfl)
                (first | (go_simp; (first | (go_at_call 66; refine (HW.out _).mono ?_; rintro e w1 ⟨rfl, hb1⟩) | (go_at_call 67; refine (HCl.out _).mono ?_; rintro e w1 ⟨rfl, hb1⟩) | (go_at_call 65; with_reducible refine (HY.out _).mono ?_; rintro e w1 ⟨rfl, rfl⟩) | skip)))
                refine hK.out _ _ ?kr7_8 (fun hHeld => ?_)
                case kr7_8 => (try dsimp only); (first | with_reducible assumption | exact s11_bel (by assumption) (by assumption) | assumption | exact s11_alloc (by assumption) _)
                clear hK K
                try simp only [Act.put, List.setIfInBounds_toArray, List.set_cons_zero, List.set_cons_succ]
                refine tk 9 ?_
                refine tk 10 ?_
                refine tk 11 ?_
                refine tk 12 ?_
                refine tk 13 ?_
                refine tk 14 ?_
                refine tk 15 ?_
                refine tk 16 ?_
                refine tk 17 ?_
                refine wpAnyH_ready (rs := [18]) (by kernel_rfl) (by simp) ?_
                refine AllReadyH.cons (o := ?or7_18) ?ir7_18 (fun K hK => ?sr7_18) AllReadyH.nil
                case ir7_18 => (simp only [List.getElem?_toArray, List.getElem?_cons_succ, List.getElem?_cons_zero]; rfl)
                (first | (go_simp; (first | (go_at_call 66; refine (HW.out _).mono ?_; rintro e w1 ⟨rfl, hb1⟩) | (go_at_call 67; refine (HCl.out _).mono ?_; rintro e w1 ⟨rfl, hb1⟩) | (go_at_call 65; with_reducible refine (HY.out _).mono ?_; rintro e w1 ⟨rfl, rfl⟩) | skip)))
                refine hK.out _ _ ?kr7_18 (fun hHeld => ?_)
                case kr7_18 => (try dsimp only); (first | with_reducible assumption | exact s11_bel (by assumption) (by assumption) | assumption | exact s11_alloc (by assumption) _)
                clear hK K
                try simp only [Act.put, List.setIfInBounds_toArray, List.set_cons_zero, List.set_cons_succ]
                refine tk 19 ?_
                refine wpAnyH_ready (rs := [20]) (by kernel_rfl) (by simp) ?_
                refine AllReadyH.cons (o := ?or7_20) ?ir7_20 (fun K hK => ?sr7_20) AllReadyH.nil
                case ir7_20 => (simp only [List.getElem?_toArray, List.getElem?_cons_succ, List.getElem?_cons_zero]; rfl)
                (first | (go_simp; (first | (go_at_call 66; refine (HW.out _).mono ?_; rintro e w1 ⟨rfl, hb1⟩) | (go_at_call 67; refine (HCl.out _).mono ?_; rintro e w1 ⟨rfl, hb1⟩) | (go_at_call 65; with_reducible refine (HY.out _).mono ?_; rintro e w1 ⟨rfl, rfl⟩) | skip)))
                refine hK.out _ _ ?kr7_20 (fun hHeld => ?_)
                case kr7_20 => (try dsimp only); (first | with_reducible assumption | exact s11_bel (by assumption) (by assumption) | assumption | exact s11_alloc (by assumption) _)
                clear hK K
                try simp only [Act.put, List.setIfInBounds_toArray, List.set_cons_zero, List.set_cons_succ]
                refine tk 21 ?_
                refine tk 22 ?_
                refine wpAnyH_done (by kernel_rfl) ?_ _
                refine NoPanic.normal ?_
                go_wp2
                go_ret
                exact ⟨ret_bool (by rw [HK.out]; simp [HN.out]), by exact obB⟩
            · simp only [decide_eq_false h1] at HW
              have HN := hid (show ¬ i0 = k.ps.length by
                rcases Nat.lt_or_ge n i0 with h3 | h3
                · exact absurd (HF.out.2.1 n _ h3 HP.out).1 h1
                · omega)
              clear h1
              go_wp2_with fail
              clear q0 q1 q2 q3 q4 q5 q6 q7 q8 hd0 hd1
              have hS := HS.out
              refine wp_region_noPanic ?_
              refine wp_region_held_drew (S := (fun v => v.cell? ⟨w.heap.size, 0, none⟩ = some (.int .i64 k.o) ∧ v.cell? ⟨w.heap.size, 1, none⟩ = some (.int .i64 k.l) ∧ v.cell? ⟨w.heap.size, 2, none⟩ = some (.int .i64 k.m) ∧ v.cell? ⟨w.heap.size, 3, none⟩ = some (.slice (some ⟨d, off, none⟩) k.ps.length cap) ∧ v.cell? ⟨w.heap.size, 4, none⟩ = some (.int .i64 k.base) ∧ v.cell? ⟨w.heap.size, 5, none⟩ = some (.int .i64 k.last) ∧ v.cell? ⟨w.heap.size + 1, 0, none⟩ = some (.int .i64 k.o) ∧ v.cell? ⟨w.heap.size + 1, 1, none⟩ = some (.int .i64 k.l) ∧ v.cell? ⟨w.heap.size + 1, 2, none⟩ = some (.int .i64 k.m) ∧ v.cell? ⟨d, off + n * 2, none⟩ = some (.int .i64 x) ∧ v.cell? ⟨d, off + n * 2 + 1, none⟩ = some (.int .i64 y) ∧ Below w.heap.size w v)) (by kernel_rfl) (s11_drew hS) (fun hHeld => ?_)
              refine tk 0 ?_
              refine tk 1 ?_
              refine tk 2 ?_
              refine tk 3 ?_
              refine tk 4 ?_
              refine tk 5 ?_
              refine tk 6 ?_
              refine tk 7 ?_
              refine wpAnyH_ready (rs := [8]) (by kernel_rfl) (by simp) ?_
              refine AllReadyH.cons (o := ?or8_8) ?ir8_8 (fun K hK => ?sr8_8) AllReadyH.nil
              case ir8_8 => (simp only [List.getElem?_toArray, List.getElem?_cons_succ, List.getElem?_cons_zero]; rfl)
              (first | (go_simp; (first | (go_at_call 66; refine (HW.out _).mono ?_; rintro e w1 ⟨rfl, hb1⟩) | (go_at_call 67; refine (HCl.out _).mono ?_; rintro e w1 ⟨rfl, hb1⟩) | (go_at_call 65; with_reducible refine (HY.out _).mono ?_; rintro e w1 ⟨rfl, rfl⟩) | skip)))
              refine hK.out _ _ ?kr8_8 (fun hHeld => ?_)
              case kr8_8 => (try dsimp only); (first | with_reducible assumption | exact s11_bel (by assumption) (by assumption) | assumption | exact s11_alloc (by assumption) _)
              clear hK K
              try simp only [Act.put, List.setIfInBounds_toArray, List.set_cons_zero, List.set_cons_succ]
              refine tk 9 ?_
              refine tk 10 ?_
              refine tu 11 ?_
              refine tu 12 ?_
              refine tu 13 ?_
              refine tu 14 ?_
              refine tu 15 ?_
              refine tu 16 ?_
              refine tu 17 ?_
              refine tu 18 ?_
              refine tu 19 ?_
              refine tu 20 ?_
              refine tu 21 ?_
              refine tk 22 ?_
              refine wpAnyH_done (by kernel_rfl) ?_ _
              refine NoPanic.normal ?_
              go_wp2
              go_ret
              exact ⟨ret_bool (by rw [HK.out]; simp [HN.out]), by exact obB⟩
          · have HN := hid (show i0 = k.ps.length by omega)
            have hz : w.heap.size + 1 < wr.heap.size := World.block_lt_of_cell? wr _ q6
            have hz0 : w.heap.size < wr.heap.size := by omega
            have HW := hid (fun (v : World) => HWc.out v k.last k.ps.length (by omega))
            by_cases h1 : HasW (pow2 k.l) k.last k.ps.length
            · simp only [decide_eq_true h1] at HW
              have HL := hid (show decide (LastOk k) = true by simp [LastOk, Kn.c, h1])
              clear h1
              go_wp2_with (go_at_call 66; refine (HW.out _).mono ?_; rintro e w3 ⟨rfl, hb3⟩; have hc3 := bcell hb3; have hz3_0 : w.heap.size < w3.heap.size := (by have := hb3.size; first | omega | (simp at this; omega)); have hz3_1 : w.heap.size + 1 < w3.heap.size := (by have := hb3.size; first | omega | (simp at this; omega)))
              go_ret
              exact ⟨ret_bool (by rw [HK.out, HL.out]; simp [HN.out]), by exact obB⟩
            · simp only [decide_eq_false h1] at HW
              by_cases h2 : k.last = -1
              · have HL := hid (show decide (LastOk k) = (k.base == (k.ps.length : Int)) by
                  have hi : LastOk k ↔ k.base = (k.ps.length : Int) := ⟨fun h => h.elim (fun h => absurd h h1) (·.2), fun h => Or.inr ⟨h2, h⟩⟩
                  rw [Bool.eq_iff_iff]; simp [hi])
                clear h1
                rw [h2] at q5
                have HW2 := HW.out
                rw [h2] at HW2
                have HW3 := hid HW2
                clear h2 HW2
                go_wp2_with (go_at_call 66; refine (HW3.out _).mono ?_; rintro e w3 ⟨rfl, hb3⟩; have hc3 := bcell hb3; have hz3_0 : w.heap.size < w3.heap.size := (by have := hb3.size; first | omega | (simp at this; omega)); have hz3_1 : w.heap.size + 1 < w3.heap.size := (by have := hb3.size; first | omega | (simp at this; omega)))
                go_ret
                exact ⟨ret_bool (by rw [HK.out, HL.out]; simp [HN.out]), by exact obB⟩
              · have HL := hid (show decide (LastOk k) = false by simp [LastOk, Kn.c, h1, h2])
                have e2 : (k.last == -1) = false := by simpa using h2
                clear h1 h2
                go_wp2_with (go_at_call 66; refine (HW.out _).mono ?_; rintro e w3 ⟨rfl, hb3⟩; have hc3 := bcell hb3; have hz3_0 : w.heap.size < w3.heap.size := (by have := hb3.size; first | omega | (simp at this; omega)); have hz3_1 : w.heap.size + 1 < w3.heap.size := (by have := hb3.size; first | omega | (simp at this; omega)))
                go_ret
                exact ⟨ret_bool (by rw [HK.out, HL.out]; simp), by exact obB⟩
      · have e1 : inB k.base 0 k.ps.length = false := by
          cases hb : inB k.base 0 k.ps.length with
          | false => rfl
          | true => exact absurd (inB_iff.1 hb) hd
        rw [e1] at HI
        have HR := hid (show kB k i0 = false by
          rcases (show ¬ (0 ≤ k.base) ∨ ¬ (k.base ≤ (k.ps.length : Int)) by omega) with h | h <;> simp [kB, h])
        clear hr hd e1
        go_enter Tryz.func28, Tryz.ntmps28
        go_wp2_with fail
        have hS := HB0.out
        refine wp_region_noPanic ?_
        refine wp_region_held_drew (S := (fun v => v.cell? ⟨w.heap.size, 0, none⟩ = some (.int .i64 k.o) ∧ v.cell? ⟨w.heap.size, 1, none⟩ = some (.int .i64 k.l) ∧ v.cell? ⟨w.heap.size, 2, none⟩ = some (.int .i64 k.m) ∧ v.cell? ⟨w.heap.size, 3, none⟩ = some (.slice A k.ps.length cap) ∧ v.cell? ⟨w.heap.size, 4, none⟩ = some (.int .i64 k.base) ∧ v.cell? ⟨w.heap.size, 5, none⟩ = some (.int .i64 k.last) ∧ v.cell? ⟨w.heap.size + 1, 0, none⟩ = some (.int .i64 k.o) ∧ v.cell? ⟨w.heap.size + 1, 1, none⟩ = some (.int .i64 k.l) ∧ v.cell? ⟨w.heap.size + 1, 2, none⟩ = some (.int .i64 k.m) ∧ Below w.heap.size w v)) (by kernel_rfl) (s9_drew hS) (fun hHeld => ?_)
        refine tk 0 ?_
        refine wpAnyH_ready (rs := [1]) (by kernel_rfl) (by simp) ?_
        refine AllReadyH.cons (o := ?or9_1) ?ir9_1 (fun K hK => ?sr9_1) AllReadyH.nil
        case ir9_1 => (simp only [List.getElem?_toArray, List.getElem?_cons_succ, List.getElem?_cons_zero]; rfl)
        (first | (go_simp; (first | (go_at_call 62; refine (HV.out _).mono ?_; rintro e w1 ⟨rfl, hb1⟩) | (go_at_call 63; refine (HC.out _).mono ?_; rintro e w1 ⟨rfl, hb1⟩) | (go_at_call 64; refine (HE.out _).mono ?_; rintro e w1 ⟨rfl, hb1⟩) | (go_at_call 65; with_reducible refine (HI.out _).mono ?_; rintro e w1 ⟨rfl, rfl⟩) | skip)))
        refine hK.out _ _ ?kr9_1 (fun hHeld => ?_)
        case kr9_1 => (try dsimp only); (first | with_reducible assumption | exact s9_bel (by assumption) (by assumption) | assumption | exact s9_alloc (by assumption) _)
        clear hK K
        try simp only [Act.put, List.setIfInBounds_toArray, List.set_cons_zero, List.set_cons_succ]
        refine tk 2 ?_
        refine tk 3 ?_
        refine tk 4 ?_
        refine tk 5 ?_
        refine tk 6 ?_
        refine tk 7 ?_
        refine tk 9 ?_
        refine wpAnyH_ready (rs := [8]) (by kernel_rfl) (by simp) ?_
        refine AllReadyH.cons (o := ?or9_8) ?ir9_8 (fun K hK => ?sr9_8) AllReadyH.nil
        case ir9_8 => (simp only [List.getElem?_toArray, List.getElem?_cons_succ, List.getElem?_cons_zero]; rfl)
        (first | (go_simp; (first | (go_at_call 62; refine (HV.out _).mono ?_; rintro e w1 ⟨rfl, hb1⟩) | (go_at_call 63; refine (HC.out _).mono ?_; rintro e w1 ⟨rfl, hb1⟩) | (go_at_call 64; refine (HE.out _).mono ?_; rintro e w1 ⟨rfl, hb1⟩) | (go_at_call 65; with_reducible refine (HI.out _).mono ?_; rintro e w1 ⟨rfl, rfl⟩) | skip)))
        refine hK.out _ _ ?kr9_8 (fun hHeld => ?_)
        case kr9_8 => (try dsimp only); (first | with_reducible assumption | exact s9_bel (by assumption) (by assumption) | assumption | exact s9_alloc (by assumption) _)
        clear hK K
        try simp only [Act.put, List.setIfInBounds_toArray, List.set_cons_zero, List.set_cons_succ]
        refine wpAnyH_ready (rs := [10]) (by kernel_rfl) (by simp) ?_
        refine AllReadyH.cons (o := ?or9_10) ?ir9_10 (fun K hK => ?sr9_10) AllReadyH.nil
        case ir9_10 => (simp only [List.getElem?_toArray, List.getElem?_cons_succ, List.getElem?_cons_zero]; rfl)
        (first | (go_simp; (first | (go_at_call 62; refine (HV.out _).mono ?_; rintro e w1 ⟨rfl, hb1⟩) | (go_at_call 63; refine (HC.out _).mono ?_; rintro e w1 ⟨rfl, hb1⟩) | (go_at_call 64; refine (HE.out _).mono ?_; rintro e w1 ⟨rfl, hb1⟩) | (go_at_call 65; with_reducible refine (HI.out _).mono ?_; rintro e w1 ⟨rfl, rfl⟩) | skip)))
        refine hK.out _ _ ?kr9_10 (fun hHeld => ?_)
        case kr9_10 => (try dsimp only); (first | with_reducible assumption | exact s9_bel (by assumption) (by assumption) | assumption | exact s9_alloc (by assumption) _)
        clear hK K
        try simp only [Act.put, List.setIfInBounds_toArray, List.set_cons_zero, List.set_cons_succ]
        refine tk 11 ?_
        refine tk 12 ?_
        refine tk 13 ?_
        refine tk 14 ?_
        refine tk 15 ?_
        refine tk 16 ?_
        refine tk 17 ?_
        refine tk 18 ?_
        refine tk 19 ?_
        refine wpAnyH_ready (rs := [20]) (by kernel_rfl) (by simp) ?_
        refine AllReadyH.cons (o := ?or9_20) ?ir9_20 (fun K hK => ?sr9_20) AllReadyH.nil
        case ir9_20 => (simp only [List.getElem?_toArray, List.getElem?_cons_succ, List.getElem?_cons_zero]; rfl)
        (first | (go_simp; (first | (go_at_call 62; refine (HV.out _).mono ?_; rintro e w1 ⟨rfl, hb1⟩) | (go_at_call 63; refine (HC.out _).mono ?_; rintro e w1 ⟨rfl, hb1⟩) | (go_at_call 64; refine (HE.out _).mono ?_; rintro e w1 ⟨rfl, hb1⟩) | (go_at_call 65; with_reducible refine (HI.out _).mono ?_; rintro e w1 ⟨rfl, rfl⟩) | skip)))
        refine hK.out _ _ ?kr9_20 (fun hHeld => ?_)
        case kr9_20 => (try dsimp only); (first | with_reducible assumption | exact s9_bel (by assumption) (by assumption) | assumption | exact s9_alloc (by assumption) _)
        clear hK K
        try simp only [Act.put, List.setIfInBounds_toArray, List.set_cons_zero, List.set_cons_succ]
        refine tk 21 ?_
        refine tk 22 ?_
        refine wpAnyH_done (by kernel_rfl) ?_ _
        refine NoPanic.normal ?_
        go_wp2
        go_ret
        exact ⟨ret_bool HR.out.symm, by exact obB⟩

theorem c_sKnownValid_yes (k : Kn) (A : Option Addr) (cap L : Nat) (w : World) (h : PsAt w L A cap k.ps) (hL : L ≤ w.heap.size) (hk : k.Ok) (hw : k.Wf) :
    Calls Tryz.prog 28 #[.agg #[.int .i64 k.o, .int .i64 k.l, .int .i64 k.m, .slice A k.ps.length cap, .int .i64 k.base, .int .i64 k.last]] w fun e w' => e = .returned (.bool true) ∧ Below w.heap.size w w' := by
  obtain ⟨i0, hi⟩ := firstBad_ex k.c k.ps
  have := c_sKnownValid_gen k A cap L i0 w h hL hw hi
  rwa [(kB_iff hi).2 hk] at this
theorem c_sKnownValid_no (k : Kn) (A : Option Addr) (cap L : Nat) (w : World) (h : PsAt w L A cap k.ps) (hL : L ≤ w.heap.size) (hk : ¬ k.Ok) (hw : k.Wf) :
    Calls Tryz.prog 28 #[.agg #[.int .i64 k.o, .int .i64 k.l, .int .i64 k.m, .slice A k.ps.length cap, .int .i64 k.base, .int .i64 k.last]] w fun e w' => e = .returned (.bool false) ∧ Below w.heap.size w w' := by
  obtain ⟨i0, hi⟩ := firstBad_ex k.c k.ps
  have := c_sKnownValid_gen k A cap L i0 w h hL hw hi
  rwa [show kB k i0 = false by cases hb : kB k i0 with | false => rfl | true => exact absurd ((kB_iff hi).1 hb) hk] at this
end
end Go.Proofs.YtmfnfheahehpcaaGreatDoor
