/- The contract of catchUp. No condition but that what is known is valid. -/
import Derived.Test.YtblmifbpoopbdaaNr
namespace Go.Proofs.Ytblmifbpoopbdaa
open Go.ChangeShapes Go.WideShapes Go.ChangeAt Go.RowKit Go.Joins
set_option linter.unusedVariables false

/-- how far the finder's nodes are from the most -/
def nleft (fb : Nat) (wr : World) : Nat := match wr.cell? ⟨fb, 6, none⟩ with
  | some (.slice _ n _) => 100000 - n
  | _ => 0
section
variable {L fb : Nat} {k : Kn} {A : Option Addr} {cap nb cap2 : Nat} {Q : List Pr} {N : Nat → Nat} {Lo : Nat → Option Nat} {bm n : Nat} {wr : World}
theorem FQ.left (h : FQ L fb k A cap nb cap2 Q N Lo bm n wr) : nleft fb wr = 100000 - top k.c Q := by
  have := h.bx.cell 6
  unfold nleft
  rw [this]; rfl
theorem FQ.t1 (h : FQ L fb k A cap nb cap2 Q N Lo bm n wr) : wr.cell? ⟨fb, 6, none⟩ = some (.slice (some ⟨nb, 0, none⟩) (top k.c Q) cap2) ∧ True := ⟨h.bx.cell 6, trivial⟩
theorem FQ.t7 (h : FQ L fb k A cap nb cap2 Q N Lo bm n wr) : wr.cell? ⟨fb, 7, none⟩ = some (.map (some bm)) ∧ True := ⟨h.bx.cell 7, trivial⟩
end
theorem top_take {c : Int} {ps : List Pr} {j : Nat} (h : j ≤ ps.length) : top c (ps.take j) = c.toNat + 2 + j := by simp [top]; omega

set_option maxHeartbeats 4000000 in
set_option maxRecDepth 100000 in
theorem c_catchUp (L fb : Nat) (k : Kn) (A : Option Addr) (cap nb cap2 : Nat) (N : Nat → Nat) (Lo : Nat → Option Nat) (bm n j : Nat) (w : World) (hk : k.Ok) (hj : j ≤ k.ps.length) (hL : L ≤ w.heap.size) (hn : n ≤ j) (h : FQ L fb k A cap nb cap2 (k.ps.take j) N Lo bm n w) :
    Calls Try.prog 181 #[.pointer (some ⟨fb, 0, none⟩)] w fun e w' => e = .returned (.tuple #[]) ∧ Below L w w' ∧ Calm w w' ∧ ∃ nb' cap2' N' Lo' n', n' ≤ k.ps.length ∧ FQ L fb k A cap nb' cap2' k.ps N' Lo' bm n' w' := by
  have hcb := hk.cbd
  have hlen := hk.len
  have HK := hid hk
  have HNx := hid (fun (v : World) (hv : KAt v fb k (.slice A k.ps.length cap)) => c_nextWord fb k A cap v hk hv)
  have HFw := hid (fun (v : World) (hv : KAt v fb k (.slice A k.ps.length cap)) => c_firstWord fb k A cap v hk hv)
  have enx := next_eq k
  have ec : k.c = pow2 k.l := rfl
  obtain ⟨C, hC⟩ : ∃ C, C = pow2 k.l := ⟨_, rfl⟩
  obtain ⟨X, hX⟩ : ∃ X, X = k.next := ⟨_, rfl⟩
  rw [← hC] at HFw ec enx
  rw [← hX] at HNx enx
  rw [ec] at hcb
  have HC := hid ec
  have H := hid h
  have HS := hid (show j ≤ k.ps.length ∧ n ≤ j from ⟨hj, hn⟩)
  clear hC hX hk ec h hj hn
  go_enter Try.func181, Try.ntmps181
  go_wp2_with fail
  go_loopw [] (fun wr => ∃ (j nb cap2 : Nat) (N : Nat → Nat) (Lo : Nat → Option Nat) (n : Nat), Hid (j ≤ k.ps.length ∧ n ≤ j) ∧ Hid (FQ L fb k A cap nb cap2 (k.ps.take j) N Lo bm n wr) ∧ Below L w wr ∧ Calm w wr) (fun wr => nleft fb wr)
  case atStart => exact ⟨j, nb, cap2, N, Lo, n, HS, H, Below.refl _ _, Calm.refl _⟩
  case round =>
    clear HS H nb cap2 N Lo n
    obtain ⟨j, nb, cap2, N, Lo, n, HS, HF, hbel, hcal⟩ := hrel
    have HL0 := hid HF.out.left
    have ht := top_take (c := k.c) HS.out.1
    rw [HC.out] at ht
    have HT := hid (show top k.c (k.ps.take j) = C.toNat + 2 + j by rw [HC.out]; exact ht)
    clear ht
    obtain ⟨TP, hTP⟩ : ∃ TP, TP = top k.c (k.ps.take j) := ⟨_, rfl⟩
    have hTP2 : (TP : Int) = C + 2 + j := by rw [hTP, HT.out]; omega
    have HT1 := hid (fun (v : World) (hv : FQ L fb k A cap nb cap2 (k.ps.take j) N Lo bm n v) => hv.t1)
    rw [← hTP] at HT1
    have HTP := hid hTP
    clear hTP
    by_cases hlt : j < k.ps.length
    · skip
      obtain ⟨p, hp⟩ : ∃ p, k.ps[j]? = some p := ⟨k.ps[j], List.getElem?_eq_getElem hlt⟩
      have HP := hid hp
      have hXT : (TP : Int) < X := by omega
      have hwr : IntKind.i64.wrap ((TP : Int) - (C + 2)) = (j : Int) := by rw [IntWalk.i64_in _ (by omega)]; omega
      have HTj := hid hTP2
      clear hp hTP2 enx
      have hS := HT1.out _ HF.out
      go_wp2_with fail
      replace HF := hid (HF.out.on (bel_drew (Below.refl _ _)))
      replace hbel := hbel.drew
      replace hcal := hcal.drew
      refine wp_region_noPanic ?_
      refine wp_region_held_drew (S := (fun v => v.cell? ⟨fb, 6, none⟩ = some (.slice (some ⟨nb, 0, none⟩) TP cap2) ∧ True)) (by kernel_rfl) (t1_drew hS) (fun hHeld => ?_)
      refine tk 0 ?_
      refine tk 1 ?_
      refine tk 2 ?_
      refine tk 3 ?_
      refine tk 4 ?_
      refine tk 5 ?_
      refine tk 6 ?_
      refine tk 7 ?_
      refine wpAnyH_ready (rs := [8]) (by kernel_rfl) (by simp) ?_
      refine AllReadyH.cons (o := ?or1_8) ?ir1_8 (fun K hK => ?sr1_8) AllReadyH.nil
      case ir1_8 => (simp only [List.getElem?_toArray, List.getElem?_cons_succ, List.getElem?_cons_zero]; rfl)
      (first | (go_simp; (first | (go_at_call 138; refine (HNx.out _ HF.out.kat).mono ?_; rintro e wQ ⟨rfl, hbQ⟩; replace HF := hid (HF.out.on hbQ); replace hbel := hbel.trans (hbQ.mono (Nat.le_trans hL hbel.size)); replace hcal := hcal.trans (Calm.of hbQ); clear hbQ) | skip)))
      refine hK.out _ _ ?kr1_8 (fun hHeld => ?_)
      case kr1_8 => (try dsimp only); (first | with_reducible assumption | with_reducible exact HT1.out _ HF.out | exact t1_bel (by assumption) (by assumption) | assumption | exact t1_alloc (by assumption) _ | exact HT1.out _ HF.out)
      clear hK K
      try simp only [Act.put, List.setIfInBounds_toArray, List.set_cons_zero, List.set_cons_succ]
      refine tk 9 ?_
      refine wpAnyH_done (by kernel_rfl) ?_ _
      refine NoPanic.normal ?_
      clear hS
      (try clear hHeld)
      have hS := HF.out.t7
      go_wp2_with fail
      replace HF := hid (HF.out.on (bel_drew (Below.refl _ _)))
      replace hbel := hbel.drew
      replace hcal := hcal.drew
      have c6 := (HT1.out _ HF.out).1
      refine wp_region_noPanic ?_
      refine wp_region_held_drew (S := (fun v => v.cell? ⟨fb, 7, none⟩ = some (.map (some bm)) ∧ True)) (by kernel_rfl) (t1_drew hS) (fun hHeld => ?_)
      refine tk 0 ?_
      refine tk 1 ?_
      refine tk 2 ?_
      refine tk 3 ?_
      refine tk 6 ?_
      refine tk 7 ?_
      refine tk 8 ?_
      refine wpAnyH_ready (rs := [4, 9]) (by kernel_rfl) (by simp) ?_
      refine AllReadyH.cons (o := ?or2_4) ?ir2_4 (fun K hK => ?sr2_4) (AllReadyH.cons (o := ?or2_9) ?ir2_9 (fun K hK => ?sr2_9) AllReadyH.nil)
      case ir2_4 => (simp only [List.getElem?_toArray, List.getElem?_cons_succ, List.getElem?_cons_zero]; rfl)
      case ir2_9 => (simp only [List.getElem?_toArray, List.getElem?_cons_succ, List.getElem?_cons_zero]; rfl)
      case' sr2_4 =>
        (go_simp; (skip))
        refine hK.out _ _ ?kr2_4 (fun hHeld => ?_)
        case kr2_4 => (try dsimp only); (first | with_reducible assumption | with_reducible exact HF'.out.t7 | with_reducible exact HF.out.t7 | exact t1_bel (by assumption) (by assumption) | assumption | exact t1_alloc (by assumption) _ | exact HF'.out.t7 | exact HF.out.t7)
        clear hK K
        try simp only [Act.put, List.setIfInBounds_toArray, List.set_cons_zero, List.set_cons_succ]
        refine tk 5 ?_
        refine wpAnyH_ready (rs := [9]) (by kernel_rfl) (by simp) ?_
        refine AllReadyH.cons (o := ?or2b1_9) ?ir2b1_9 (fun K hK => ?sr2b1_9) AllReadyH.nil
        case ir2b1_9 => (simp only [List.getElem?_toArray, List.getElem?_cons_succ, List.getElem?_cons_zero]; rfl)
        (go_simp; (go_at_call 145; refine (HFw.out _ HF.out.kat).mono ?_; rintro e wR ⟨rfl, hbR⟩; replace HF := hid (HF.out.on hbR); replace hbel := hbel.trans (hbR.mono (Nat.le_trans hL hbel.size)); replace hcal := hcal.trans (Calm.of hbR); clear hbR c6; have c6 := (HT1.out _ HF.out).1))
        refine hK.out _ _ ?kr2b1_9 (fun hHeld => ?_)
        case kr2b1_9 => (try dsimp only); (first | with_reducible assumption | with_reducible exact HF'.out.t7 | with_reducible exact HF.out.t7 | exact t1_bel (by assumption) (by assumption) | assumption | exact t1_alloc (by assumption) _ | exact HF'.out.t7 | exact HF.out.t7)
        clear hK K
        try simp only [Act.put, List.setIfInBounds_toArray, List.set_cons_zero, List.set_cons_succ]
        refine tk 10 ?_
        refine wpAnyH_ready (rs := [11]) (by kernel_rfl) (by simp) ?_
        refine AllReadyH.cons (o := ?or2b1_11) ?ir2b1_11 (fun K hK => ?sr2b1_11) AllReadyH.nil
        case ir2b1_11 => (simp only [List.getElem?_toArray, List.getElem?_cons_succ, List.getElem?_cons_zero]; rfl)
        (go_simp; (go_at_call 210; refine (c_add L fb k A cap nb cap2 N Lo bm n j p _ HK.out HP.out (Nat.le_trans hL hbel.size) HS.out.2 HF.out).mono ?_; rintro e wA ⟨rfl, hbA, hcA, nb', cap', N', Lo', n', hn', hF'⟩; have HF' := hid hF'; have HS' := hid hn'; clear hF' hn'))
        refine hK.out _ _ ?kr2b1_11 (fun hHeld => ?_)
        case kr2b1_11 => (try dsimp only); (first | with_reducible assumption | with_reducible exact HF'.out.t7 | with_reducible exact HF.out.t7 | exact t1_bel (by assumption) (by assumption) | assumption | exact t1_alloc (by assumption) _ | exact HF'.out.t7 | exact HF.out.t7)
        clear hK K
        try simp only [Act.put, List.setIfInBounds_toArray, List.set_cons_zero, List.set_cons_succ]
        refine wpAnyH_done (by kernel_rfl) ?_ _
        refine NoPanic.normal ?_
      case' sr2_9 =>
        (go_simp; (go_at_call 145; refine (HFw.out _ HF.out.kat).mono ?_; rintro e wR ⟨rfl, hbR⟩; replace HF := hid (HF.out.on hbR); replace hbel := hbel.trans (hbR.mono (Nat.le_trans hL hbel.size)); replace hcal := hcal.trans (Calm.of hbR); clear hbR c6; have c6 := (HT1.out _ HF.out).1))
        refine hK.out _ _ ?kr2_9 (fun hHeld => ?_)
        case kr2_9 => (try dsimp only); (first | with_reducible assumption | with_reducible exact HF'.out.t7 | with_reducible exact HF.out.t7 | exact t1_bel (by assumption) (by assumption) | assumption | exact t1_alloc (by assumption) _ | exact HF'.out.t7 | exact HF.out.t7)
        clear hK K
        try simp only [Act.put, List.setIfInBounds_toArray, List.set_cons_zero, List.set_cons_succ]
        refine wpAnyH_ready (rs := [4]) (by kernel_rfl) (by simp) ?_
        refine AllReadyH.cons (o := ?or2b2_4) ?ir2b2_4 (fun K hK => ?sr2b2_4) AllReadyH.nil
        case ir2b2_4 => (simp only [List.getElem?_toArray, List.getElem?_cons_succ, List.getElem?_cons_zero]; rfl)
        (go_simp; (skip))
        refine hK.out _ _ ?kr2b2_4 (fun hHeld => ?_)
        case kr2b2_4 => (try dsimp only); (first | with_reducible assumption | with_reducible exact HF'.out.t7 | with_reducible exact HF.out.t7 | exact t1_bel (by assumption) (by assumption) | assumption | exact t1_alloc (by assumption) _ | exact HF'.out.t7 | exact HF.out.t7)
        clear hK K
        try simp only [Act.put, List.setIfInBounds_toArray, List.set_cons_zero, List.set_cons_succ]
        refine tk 5 ?_
        refine tk 10 ?_
        refine wpAnyH_ready (rs := [11]) (by kernel_rfl) (by simp) ?_
        refine AllReadyH.cons (o := ?or2b2_11) ?ir2b2_11 (fun K hK => ?sr2b2_11) AllReadyH.nil
        case ir2b2_11 => (simp only [List.getElem?_toArray, List.getElem?_cons_succ, List.getElem?_cons_zero]; rfl)
        (go_simp; (go_at_call 210; refine (c_add L fb k A cap nb cap2 N Lo bm n j p _ HK.out HP.out (Nat.le_trans hL hbel.size) HS.out.2 HF.out).mono ?_; rintro e wA ⟨rfl, hbA, hcA, nb', cap', N', Lo', n', hn', hF'⟩; have HF' := hid hF'; have HS' := hid hn'; clear hF' hn'))
        refine hK.out _ _ ?kr2b2_11 (fun hHeld => ?_)
        case kr2b2_11 => (try dsimp only); (first | with_reducible assumption | with_reducible exact HF'.out.t7 | with_reducible exact HF.out.t7 | exact t1_bel (by assumption) (by assumption) | assumption | exact t1_alloc (by assumption) _ | exact HF'.out.t7 | exact HF.out.t7)
        clear hK K
        try simp only [Act.put, List.setIfInBounds_toArray, List.set_cons_zero, List.set_cons_succ]
        refine wpAnyH_done (by kernel_rfl) ?_ _
        refine NoPanic.normal ?_
      all_goals
        go_wp2
        go_roundw
        case rel => exact ⟨j + 1, nb', cap', N', Lo', n', hid ⟨by omega, HS'.out⟩, HF', hbel.trans hbA, hcal.trans hcA⟩
        case measure =>
          have e1 := HF'.out.left
          rw [top_take (by omega)] at e1
          have e2 := HL0.out
          rw [HT.out] at e2
          rw [e1, e2, HC.out]; omega
    · skip
      have hje : j = k.ps.length := by have := HS.out.1; omega
      have hXT : (TP : Int) = X := by omega
      have hS := HT1.out _ HF.out
      have HJ := hid hje
      clear hje hTP2 enx hlt
      go_wp2_with fail
      replace HF := hid (HF.out.on (bel_drew (Below.refl _ _)))
      replace hbel := hbel.drew
      replace hcal := hcal.drew
      refine wp_region_noPanic ?_
      refine wp_region_held_drew (S := (fun v => v.cell? ⟨fb, 6, none⟩ = some (.slice (some ⟨nb, 0, none⟩) TP cap2) ∧ True)) (by kernel_rfl) (t1_drew hS) (fun hHeld => ?_)
      refine tk 0 ?_
      refine tk 1 ?_
      refine tk 2 ?_
      refine tk 3 ?_
      refine tk 4 ?_
      refine tk 5 ?_
      refine tk 6 ?_
      refine tk 7 ?_
      refine wpAnyH_ready (rs := [8]) (by kernel_rfl) (by simp) ?_
      refine AllReadyH.cons (o := ?or3_8) ?ir3_8 (fun K hK => ?sr3_8) AllReadyH.nil
      case ir3_8 => (simp only [List.getElem?_toArray, List.getElem?_cons_succ, List.getElem?_cons_zero]; rfl)
      (first | (go_simp; (first | (go_at_call 138; refine (HNx.out _ HF.out.kat).mono ?_; rintro e wQ ⟨rfl, hbQ⟩; replace HF := hid (HF.out.on hbQ); replace hbel := hbel.trans (hbQ.mono (Nat.le_trans hL hbel.size)); replace hcal := hcal.trans (Calm.of hbQ); clear hbQ) | skip)))
      refine hK.out _ _ ?kr3_8 (fun hHeld => ?_)
      case kr3_8 => (try dsimp only); (first | with_reducible assumption | with_reducible exact HT1.out _ HF.out | exact t1_bel (by assumption) (by assumption) | assumption | exact t1_alloc (by assumption) _ | exact HT1.out _ HF.out)
      clear hK K
      try simp only [Act.put, List.setIfInBounds_toArray, List.set_cons_zero, List.set_cons_succ]
      refine tk 9 ?_
      refine wpAnyH_done (by kernel_rfl) ?_ _
      refine NoPanic.normal ?_
      go_wp2
      go_end0
      have hF := HF.out
      rw [HJ.out, List.take_length] at hF
      exact ⟨rfl, hbel, hcal, nb, cap2, N, Lo, n, by have := HS.out.2; have := HS.out.1; omega, hF⟩
end Go.Proofs.Ytblmifbpoopbdaa
