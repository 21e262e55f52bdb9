/- The walks of the laws on the greatest code. -/
import Derived.Test.YtoiifopjipfjhaaVk
import Derived.Test.YtoiifopjipfjhaaDn
import Derived.Test.YtoiifopjipfjhaaBa
namespace Go.Proofs.Ytoiifopjipfjhaa
open Go.ChangeShapes Go.WideShapes Go.ChangeAt Go.RowKit Go.Joins
set_option linter.unusedVariables false

set_option maxHeartbeats 4000000 in
set_option maxRecDepth 100000 in
theorem walk_FnGreatest (A' : Option Addr) (n cap : Nat) (w : World) (hc : CodeAt w w.heap.size A' n cap) : Calls Try.prog 7 #[.slice A' n cap] w fun e w' => e = .returned (.bool true) ∧ Below w.heap.size w w' := by
  by_cases big : 1048576 < n
  · have h1 := hc.1
    have h2 := hc.2.1
    unfold maxLen at h2
    go_enter Try.func7, Try.ntmps7
    go_wp2_with fail
    go_ret
    exact ⟨rfl, by (repeat (first | with_reducible (first | assumption | exact Below.refl _ _ | refine bel_alloc ?_ _ | refine bel_drew ?_ | refine bel_drewN ?_ _ | refine bel_set ?_ (by first | omega | (simp; done) | (simp; omega)) _ | refine bel_trans ?_ (by assumption)) | assumption | refine bel_trans ?_ (by assumption)))⟩
  · go_enter Try.func7, Try.ntmps7
    go_wp2_with fail
    refine (c_DrawGreatest _ _ _ _ hc).mono ?_
    rintro e w1 ⟨k, A, cp, rfl, hw, hl, ho, b1⟩
    have HZ := hid (KB.new ho)
    have c1 := bel_alloc b1 (.cells #[.int .i64 k.o, .int .i64 k.l, .int .i64 k.m, .slice A k.ps.length cp, .int .i64 k.base, .int .i64 k.last] 28)
    clear ho b1 hc
    obtain ⟨p0, p1, p2, p3, p4, p5⟩ := HZ.out.bx.cells6
    by_cases hk : k.Ok
    · skip
      have HG := hid (fun (v : World) (h : KB w1.heap.size w1.heap.size k A cp v) => c_Greatest_yes k A cp _ v h.ps h.le hk hw)
      have HS := hid (fun (v : World) (h : KB w1.heap.size w1.heap.size k A cp v) => c_sGreatest_yes k A cp _ v h.ps h.le hk hw)
      have HR := hid (fun (v : World) (h : KB w1.heap.size w1.heap.size k A cp v) => c_Grows_yes k A cp _ v h.ps h.le hk hw)
      have HN := hid (fun (v : World) (h : KB w1.heap.size w1.heap.size k A cp v) => c_NextWord_yes k A cp _ v h.ps h.le hk hw)
      have hset := hk.set
      obtain ⟨_, ⟨hl1, hl2⟩, hm1, hm2⟩ := setOk_iff.1 hset
      have HE := hid (fun (v : World) => c_EndCode_yes k.o k.l k.m v hset)
      have HL := hid (fun (v : World) => c_LastCode_yes k.o k.l k.m v hset)
      have hcb : 2 ≤ pow2 k.l ∧ pow2 k.l ≤ 256 ∧ pow2 k.l + 3 ≤ pow2 k.m - 1 ∧ pow2 k.m - 1 ≤ 1023 := hk.cbd
      have hnl : k.next ≤ pow2 k.m - 1 + 1 := hk.next_le
      have hlen := hk.len
      have enx : k.next = pow2 k.l + 2 + k.ps.length := next_eq k
      have egr : k.great = if k.grows = true then k.next else k.next - 1 := rfl
      have hfi : k.Fol k.next ↔ 0 ≤ k.next ∧ k.next ≤ k.great ∧ k.next ≠ pow2 k.l ∧ k.next ≠ pow2 k.l + 1 := hk.fol_iff k.next
      have hgi : k.grows = decide (0 ≤ k.last ∧ k.next ≤ pow2 k.m - 1) := rfl
      have HWy := hid (fun (hf : k.Fol k.next) (v : World) (h : KB w1.heap.size w1.heap.size k A cp v) => c_WordOf_yes k A cp _ v h.ps h.le k.next hk hf hw)
      have HWn := hid (fun (hf : ¬ k.Fol k.next) (v : World) (h : KB w1.heap.size w1.heap.size k A cp v) => c_WordOf_no k A cp _ v h.ps h.le k.next hk hf hw)
      obtain ⟨SW, hSW⟩ : ∃ SW, SW = str (k.any k.next) := ⟨_, rfl⟩
      rw [← hSW] at HWy
      obtain ⟨C, hC⟩ : ∃ C, C = pow2 k.l := ⟨_, rfl⟩
      obtain ⟨M, hM⟩ : ∃ M, M = pow2 k.m := ⟨_, rfl⟩
      obtain ⟨FN, hFN⟩ : ∃ FN, FN = k.Fol k.next := ⟨_, rfl⟩
      rw [← hFN] at hfi HWy HWn
      simp only [← hC] at HE enx hcb hfi
      simp only [← hM] at HL hcb hnl hgi
      obtain ⟨GR, hGR⟩ : ∃ GR, GR = k.great := ⟨_, rfl⟩
      obtain ⟨NX, hNX⟩ : ∃ NX, NX = k.next := ⟨_, rfl⟩
      obtain ⟨G, hG⟩ : ∃ G, G = k.grows := ⟨_, rfl⟩
      simp only [← hGR] at HG HS egr hfi
      simp only [← hNX] at HN HWy HWn enx egr hfi hgi hnl
      simp only [← hG] at HR egr hgi
      have w1' : IntKind.i64.wrap (C + 1 + 1) = C + 1 + 1 := IntWalk.i64_in _ (by omega)
      have w2' : IntKind.i64.wrap (C + 1 + 1 + (k.ps.length : Int)) = C + 1 + 1 + (k.ps.length : Int) := IntWalk.i64_in _ (by omega)
      have w3' : IntKind.i64.wrap (NX - 1) = NX - 1 := IntWalk.i64_in _ (by omega)
      have e1 : (NX == C + 1 + 1 + (k.ps.length : Int)) = true := eq_yes (by omega)
      cases G with
      | true =>
        have hgr : GR = NX := by simpa using egr
        have HF := hid (HWy.out (hfi.2 ⟨by omega, by omega, by omega, by omega⟩))
        have hdec : 0 ≤ k.last ∧ NX ≤ M - 1 := by simpa using hgi.symm
        obtain ⟨hd1, hd2⟩ := hdec
        have e2 : (GR == NX) = true := eq_yes hgr
        have hg0 : ¬ GR < 0 := by omega
        clear hfi hgi egr HWy HWn hk hw hset enx hGR hNX hG hSW hC hM hgr hcb hnl hFN
        go_wp2_with fail
        refine (HG.out _ HZ.out).mono ?_
        rintro e w2 ⟨rfl, hb2⟩
        replace HZ := hid (HZ.out.on hb2)
        have c2 := bel_trans c1 hb2
        clear hb2 p0 p1 p2 p3 p4 p5
        obtain ⟨p0, p1, p2, p3, p4, p5⟩ := HZ.out.bx.cells6
        go_wp2_with fail
        refine (HS.out _ HZ.out).mono ?_
        rintro e w3 ⟨rfl, hb3⟩
        replace HZ := hid (HZ.out.on hb3)
        have c3 := bel_trans c2 hb3
        clear hb3 p0 p1 p2 p3 p4 p5
        obtain ⟨p0, p1, p2, p3, p4, p5⟩ := HZ.out.bx.cells6
        go_wp2_with fail
        refine (HN.out _ HZ.out).mono ?_
        rintro e w4 ⟨rfl, hb4⟩
        replace HZ := hid (HZ.out.on hb4)
        have c4 := bel_trans c3 hb4
        clear hb4 p0 p1 p2 p3 p4 p5
        obtain ⟨p0, p1, p2, p3, p4, p5⟩ := HZ.out.bx.cells6
        go_wp2_with fail
        refine (HF.out _ HZ.out).mono ?_
        rintro e w5 ⟨rfl, hb5⟩
        replace HZ := hid (HZ.out.on hb5)
        have c5 := bel_trans c4 hb5
        clear hb5 p0 p1 p2 p3 p4 p5
        obtain ⟨p0, p1, p2, p3, p4, p5⟩ := HZ.out.bx.cells6
        have hS := HZ.out.bx.cells6t
        clear p0 p1 p2 p3 p4 p5
        go_wp2_with fail
        replace HZ := hid (HZ.out.on (bel_drew (Below.refl w5.heap.size w5)))
        replace c5 := bel_drew c5
        refine wp_region_noPanic ?_
        refine wp_region_held_drew (S := (fun v => v.cell? ⟨w1.heap.size, 0, none⟩ = some (.int .i64 k.o) ∧ v.cell? ⟨w1.heap.size, 1, none⟩ = some (.int .i64 k.l) ∧ v.cell? ⟨w1.heap.size, 2, none⟩ = some (.int .i64 k.m) ∧ v.cell? ⟨w1.heap.size, 3, none⟩ = some (.slice A k.ps.length cp) ∧ v.cell? ⟨w1.heap.size, 4, none⟩ = some (.int .i64 k.base) ∧ v.cell? ⟨w1.heap.size, 5, none⟩ = some (.int .i64 k.last) ∧ True)) (by kernel_rfl) (t6_drew hS) (fun hHeld => ?_)
        refine tk 0 ?_
        refine tk 1 ?_
        refine tk 2 ?_
        refine tk 5 ?_
        refine tk 6 ?_
        refine tk 7 ?_
        refine wpAnyH_ready (rs := [3]) (by kernel_rfl) (by simp) ?_
        refine AllReadyH.cons (o := ?or1_3) ?ir1_3 (fun K hK => ?sr1_3) AllReadyH.nil
        case ir1_3 => (simp only [List.getElem?_toArray, List.getElem?_cons_succ, List.getElem?_cons_zero]; rfl)
        (first | (go_simp; (first | (go_at_call 38; refine (HE.out _).mono ?_; rintro e wQ ⟨rfl, hbQ⟩; replace HZ := hid (HZ.out.on hbQ); replace c5 := bel_trans c5 hbQ; clear hbQ) | (go_at_call 39; refine (HR.out _ HZ.out).mono ?_; rintro e wQ ⟨rfl, hbQ⟩; replace HZ := hid (HZ.out.on hbQ); replace c5 := bel_trans c5 hbQ; clear hbQ) | (go_at_call 53; refine (HL.out _).mono ?_; rintro e wQ ⟨rfl, hbQ⟩; replace HZ := hid (HZ.out.on hbQ); replace c5 := bel_trans c5 hbQ; clear hbQ) | skip)))
        refine hK.out _ _ ?kr1_3 (fun hHeld => ?_)
        case kr1_3 => (try dsimp only); (first | with_reducible assumption | with_reducible exact HZ.out.bx.cells6t | exact t6_bel (by assumption) (by assumption) | assumption | exact t6_alloc (by assumption) _ | exact HZ.out.bx.cells6t)
        clear hK K
        try simp only [Act.put, List.setIfInBounds_toArray, List.set_cons_zero, List.set_cons_succ]
        refine tk 4 ?_
        refine tk 8 ?_
        refine tk 9 ?_
        refine tk 10 ?_
        refine tk 11 ?_
        refine tk 12 ?_
        refine wpAnyH_ready (rs := [13]) (by kernel_rfl) (by simp) ?_
        refine AllReadyH.cons (o := ?or1_13) ?ir1_13 (fun K hK => ?sr1_13) AllReadyH.nil
        case ir1_13 => (simp only [List.getElem?_toArray, List.getElem?_cons_succ, List.getElem?_cons_zero]; rfl)
        (first | (go_simp; (first | (go_at_call 38; refine (HE.out _).mono ?_; rintro e wQ ⟨rfl, hbQ⟩; replace HZ := hid (HZ.out.on hbQ); replace c5 := bel_trans c5 hbQ; clear hbQ) | (go_at_call 39; refine (HR.out _ HZ.out).mono ?_; rintro e wQ ⟨rfl, hbQ⟩; replace HZ := hid (HZ.out.on hbQ); replace c5 := bel_trans c5 hbQ; clear hbQ) | (go_at_call 53; refine (HL.out _).mono ?_; rintro e wQ ⟨rfl, hbQ⟩; replace HZ := hid (HZ.out.on hbQ); replace c5 := bel_trans c5 hbQ; clear hbQ) | skip)))
        refine hK.out _ _ ?kr1_13 (fun hHeld => ?_)
        case kr1_13 => (try dsimp only); (first | with_reducible assumption | with_reducible exact HZ.out.bx.cells6t | exact t6_bel (by assumption) (by assumption) | assumption | exact t6_alloc (by assumption) _ | exact HZ.out.bx.cells6t)
        clear hK K
        try simp only [Act.put, List.setIfInBounds_toArray, List.set_cons_zero, List.set_cons_succ]
        refine tk 14 ?_
        refine tk 15 ?_
        refine tk 16 ?_
        refine tk 17 ?_
        refine tk 18 ?_
        refine tk 19 ?_
        refine tk 20 ?_
        refine wpAnyH_ready (rs := [21]) (by kernel_rfl) (by simp) ?_
        refine AllReadyH.cons (o := ?or1_21) ?ir1_21 (fun K hK => ?sr1_21) AllReadyH.nil
        case ir1_21 => (simp only [List.getElem?_toArray, List.getElem?_cons_succ, List.getElem?_cons_zero]; rfl)
        (first | (go_simp; (first | (go_at_call 38; refine (HE.out _).mono ?_; rintro e wQ ⟨rfl, hbQ⟩; replace HZ := hid (HZ.out.on hbQ); replace c5 := bel_trans c5 hbQ; clear hbQ) | (go_at_call 39; refine (HR.out _ HZ.out).mono ?_; rintro e wQ ⟨rfl, hbQ⟩; replace HZ := hid (HZ.out.on hbQ); replace c5 := bel_trans c5 hbQ; clear hbQ) | (go_at_call 53; refine (HL.out _).mono ?_; rintro e wQ ⟨rfl, hbQ⟩; replace HZ := hid (HZ.out.on hbQ); replace c5 := bel_trans c5 hbQ; clear hbQ) | skip)))
        refine hK.out _ _ ?kr1_21 (fun hHeld => ?_)
        case kr1_21 => (try dsimp only); (first | with_reducible assumption | with_reducible exact HZ.out.bx.cells6t | exact t6_bel (by assumption) (by assumption) | assumption | exact t6_alloc (by assumption) _ | exact HZ.out.bx.cells6t)
        clear hK K
        try simp only [Act.put, List.setIfInBounds_toArray, List.set_cons_zero, List.set_cons_succ]
        refine tk 22 ?_
        refine tk 23 ?_
        refine tk 24 ?_
        refine tk 25 ?_
        refine tk 26 ?_
        refine tk 27 ?_
        refine tk 28 ?_
        refine tu 29 ?_
        refine tu 30 ?_
        refine tu 31 ?_
        refine tu 32 ?_
        refine tk 33 ?_
        refine tk 34 ?_
        refine tk 35 ?_
        refine tk 36 ?_
        refine tk 38 ?_
        refine tk 39 ?_
        refine tk 40 ?_
        refine wpAnyH_ready (rs := [37]) (by kernel_rfl) (by simp) ?_
        refine AllReadyH.cons (o := ?or1_37) ?ir1_37 (fun K hK => ?sr1_37) AllReadyH.nil
        case ir1_37 => (simp only [List.getElem?_toArray, List.getElem?_cons_succ, List.getElem?_cons_zero]; rfl)
        (first | (go_simp; (first | (go_at_call 38; refine (HE.out _).mono ?_; rintro e wQ ⟨rfl, hbQ⟩; replace HZ := hid (HZ.out.on hbQ); replace c5 := bel_trans c5 hbQ; clear hbQ) | (go_at_call 39; refine (HR.out _ HZ.out).mono ?_; rintro e wQ ⟨rfl, hbQ⟩; replace HZ := hid (HZ.out.on hbQ); replace c5 := bel_trans c5 hbQ; clear hbQ) | (go_at_call 53; refine (HL.out _).mono ?_; rintro e wQ ⟨rfl, hbQ⟩; replace HZ := hid (HZ.out.on hbQ); replace c5 := bel_trans c5 hbQ; clear hbQ) | skip)))
        refine hK.out _ _ ?kr1_37 (fun hHeld => ?_)
        case kr1_37 => (try dsimp only); (first | with_reducible assumption | with_reducible exact HZ.out.bx.cells6t | exact t6_bel (by assumption) (by assumption) | assumption | exact t6_alloc (by assumption) _ | exact HZ.out.bx.cells6t)
        clear hK K
        try simp only [Act.put, List.setIfInBounds_toArray, List.set_cons_zero, List.set_cons_succ]
        refine tk 41 ?_
        refine tk 42 ?_
        refine tk 43 ?_
        refine tk 44 ?_
        refine wpAnyH_ready (rs := [45]) (by kernel_rfl) (by simp) ?_
        refine AllReadyH.cons (o := ?or1_45) ?ir1_45 (fun K hK => ?sr1_45) AllReadyH.nil
        case ir1_45 => (simp only [List.getElem?_toArray, List.getElem?_cons_succ, List.getElem?_cons_zero]; rfl)
        (first | (go_simp; (first | (go_at_call 38; refine (HE.out _).mono ?_; rintro e wQ ⟨rfl, hbQ⟩; replace HZ := hid (HZ.out.on hbQ); replace c5 := bel_trans c5 hbQ; clear hbQ) | (go_at_call 39; refine (HR.out _ HZ.out).mono ?_; rintro e wQ ⟨rfl, hbQ⟩; replace HZ := hid (HZ.out.on hbQ); replace c5 := bel_trans c5 hbQ; clear hbQ) | (go_at_call 53; refine (HL.out _).mono ?_; rintro e wQ ⟨rfl, hbQ⟩; replace HZ := hid (HZ.out.on hbQ); replace c5 := bel_trans c5 hbQ; clear hbQ) | skip)))
        refine hK.out _ _ ?kr1_45 (fun hHeld => ?_)
        case kr1_45 => (try dsimp only); (first | with_reducible assumption | with_reducible exact HZ.out.bx.cells6t | exact t6_bel (by assumption) (by assumption) | assumption | exact t6_alloc (by assumption) _ | exact HZ.out.bx.cells6t)
        clear hK K
        try simp only [Act.put, List.setIfInBounds_toArray, List.set_cons_zero, List.set_cons_succ]
        refine tk 46 ?_
        refine tk 47 ?_
        refine tk 48 ?_
        refine tk 49 ?_
        refine tk 50 ?_
        refine wpAnyH_done (by kernel_rfl) ?_ _
        refine NoPanic.normal ?_
        go_wp2
        go_ret
        exact ⟨rfl, by (repeat (first | with_reducible (first | assumption | exact Below.refl _ _ | refine bel_alloc ?_ _ | refine bel_drew ?_ | refine bel_drewN ?_ _ | refine bel_set ?_ (by first | omega | (simp; done) | (simp; omega)) _ | refine bel_trans ?_ (by assumption)) | assumption | refine bel_trans ?_ (by assumption)))⟩
      | false =>
        have hgr : GR = NX - 1 := by simpa using egr
        have HF := hid (HWn.out (fun h => by have := hfi.1 h; omega))
        have hdec : ¬ (0 ≤ k.last ∧ NX ≤ M - 1) := by simpa using hgi.symm
        have e2 : (GR == NX) = false := eq_no (by omega)
        have e3 : (GR == NX - 1) = true := eq_yes hgr
        have hg0 : ¬ GR < 0 := by omega
        clear hfi hgi egr HWy HWn hk hw hset enx hGR hNX hG hSW hC hM hgr hcb hnl hFN
        go_wp2_with fail
        refine (HG.out _ HZ.out).mono ?_
        rintro e w2 ⟨rfl, hb2⟩
        replace HZ := hid (HZ.out.on hb2)
        have c2 := bel_trans c1 hb2
        clear hb2 p0 p1 p2 p3 p4 p5
        obtain ⟨p0, p1, p2, p3, p4, p5⟩ := HZ.out.bx.cells6
        go_wp2_with fail
        refine (HS.out _ HZ.out).mono ?_
        rintro e w3 ⟨rfl, hb3⟩
        replace HZ := hid (HZ.out.on hb3)
        have c3 := bel_trans c2 hb3
        clear hb3 p0 p1 p2 p3 p4 p5
        obtain ⟨p0, p1, p2, p3, p4, p5⟩ := HZ.out.bx.cells6
        go_wp2_with fail
        refine (HN.out _ HZ.out).mono ?_
        rintro e w4 ⟨rfl, hb4⟩
        replace HZ := hid (HZ.out.on hb4)
        have c4 := bel_trans c3 hb4
        clear hb4 p0 p1 p2 p3 p4 p5
        obtain ⟨p0, p1, p2, p3, p4, p5⟩ := HZ.out.bx.cells6
        go_wp2_with fail
        refine (HF.out _ HZ.out).mono ?_
        rintro e w5 ⟨rfl, hb5⟩
        replace HZ := hid (HZ.out.on hb5)
        have c5 := bel_trans c4 hb5
        clear hb5 p0 p1 p2 p3 p4 p5
        obtain ⟨p0, p1, p2, p3, p4, p5⟩ := HZ.out.bx.cells6
        by_cases hd1 : 0 ≤ k.last
        · have hd2 : decide (NX ≤ M - 1) = false := decide_eq_false (fun h => hdec ⟨hd1, h⟩)
          clear hdec
          have hS := HZ.out.bx.cells6t
          clear p0 p1 p2 p3 p4 p5
          go_wp2_with fail
          replace HZ := hid (HZ.out.on (bel_drew (Below.refl w5.heap.size w5)))
          replace c5 := bel_drew c5
          refine wp_region_noPanic ?_
          refine wp_region_held_drew (S := (fun v => v.cell? ⟨w1.heap.size, 0, none⟩ = some (.int .i64 k.o) ∧ v.cell? ⟨w1.heap.size, 1, none⟩ = some (.int .i64 k.l) ∧ v.cell? ⟨w1.heap.size, 2, none⟩ = some (.int .i64 k.m) ∧ v.cell? ⟨w1.heap.size, 3, none⟩ = some (.slice A k.ps.length cp) ∧ v.cell? ⟨w1.heap.size, 4, none⟩ = some (.int .i64 k.base) ∧ v.cell? ⟨w1.heap.size, 5, none⟩ = some (.int .i64 k.last) ∧ True)) (by kernel_rfl) (t6_drew hS) (fun hHeld => ?_)
          refine tk 0 ?_
          refine tk 1 ?_
          refine tk 2 ?_
          refine tk 5 ?_
          refine tk 6 ?_
          refine tk 7 ?_
          refine wpAnyH_ready (rs := [3]) (by kernel_rfl) (by simp) ?_
          refine AllReadyH.cons (o := ?or2_3) ?ir2_3 (fun K hK => ?sr2_3) AllReadyH.nil
          case ir2_3 => (simp only [List.getElem?_toArray, List.getElem?_cons_succ, List.getElem?_cons_zero]; rfl)
          (first | (go_simp; (first | (go_at_call 38; refine (HE.out _).mono ?_; rintro e wQ ⟨rfl, hbQ⟩; replace HZ := hid (HZ.out.on hbQ); replace c5 := bel_trans c5 hbQ; clear hbQ) | (go_at_call 39; refine (HR.out _ HZ.out).mono ?_; rintro e wQ ⟨rfl, hbQ⟩; replace HZ := hid (HZ.out.on hbQ); replace c5 := bel_trans c5 hbQ; clear hbQ) | (go_at_call 53; refine (HL.out _).mono ?_; rintro e wQ ⟨rfl, hbQ⟩; replace HZ := hid (HZ.out.on hbQ); replace c5 := bel_trans c5 hbQ; clear hbQ) | skip)))
          refine hK.out _ _ ?kr2_3 (fun hHeld => ?_)
          case kr2_3 => (try dsimp only); (first | with_reducible assumption | with_reducible exact HZ.out.bx.cells6t | exact t6_bel (by assumption) (by assumption) | assumption | exact t6_alloc (by assumption) _ | exact HZ.out.bx.cells6t)
          clear hK K
          try simp only [Act.put, List.setIfInBounds_toArray, List.set_cons_zero, List.set_cons_succ]
          refine tk 4 ?_
          refine tk 8 ?_
          refine tk 9 ?_
          refine tk 10 ?_
          refine tk 11 ?_
          refine tk 12 ?_
          refine wpAnyH_ready (rs := [13]) (by kernel_rfl) (by simp) ?_
          refine AllReadyH.cons (o := ?or2_13) ?ir2_13 (fun K hK => ?sr2_13) AllReadyH.nil
          case ir2_13 => (simp only [List.getElem?_toArray, List.getElem?_cons_succ, List.getElem?_cons_zero]; rfl)
          (first | (go_simp; (first | (go_at_call 38; refine (HE.out _).mono ?_; rintro e wQ ⟨rfl, hbQ⟩; replace HZ := hid (HZ.out.on hbQ); replace c5 := bel_trans c5 hbQ; clear hbQ) | (go_at_call 39; refine (HR.out _ HZ.out).mono ?_; rintro e wQ ⟨rfl, hbQ⟩; replace HZ := hid (HZ.out.on hbQ); replace c5 := bel_trans c5 hbQ; clear hbQ) | (go_at_call 53; refine (HL.out _).mono ?_; rintro e wQ ⟨rfl, hbQ⟩; replace HZ := hid (HZ.out.on hbQ); replace c5 := bel_trans c5 hbQ; clear hbQ) | skip)))
          refine hK.out _ _ ?kr2_13 (fun hHeld => ?_)
          case kr2_13 => (try dsimp only); (first | with_reducible assumption | with_reducible exact HZ.out.bx.cells6t | exact t6_bel (by assumption) (by assumption) | assumption | exact t6_alloc (by assumption) _ | exact HZ.out.bx.cells6t)
          clear hK K
          try simp only [Act.put, List.setIfInBounds_toArray, List.set_cons_zero, List.set_cons_succ]
          refine tk 14 ?_
          refine tk 15 ?_
          refine tk 16 ?_
          refine tk 17 ?_
          refine tk 18 ?_
          refine tk 19 ?_
          refine tk 20 ?_
          refine wpAnyH_ready (rs := [21]) (by kernel_rfl) (by simp) ?_
          refine AllReadyH.cons (o := ?or2_21) ?ir2_21 (fun K hK => ?sr2_21) AllReadyH.nil
          case ir2_21 => (simp only [List.getElem?_toArray, List.getElem?_cons_succ, List.getElem?_cons_zero]; rfl)
          (first | (go_simp; (first | (go_at_call 38; refine (HE.out _).mono ?_; rintro e wQ ⟨rfl, hbQ⟩; replace HZ := hid (HZ.out.on hbQ); replace c5 := bel_trans c5 hbQ; clear hbQ) | (go_at_call 39; refine (HR.out _ HZ.out).mono ?_; rintro e wQ ⟨rfl, hbQ⟩; replace HZ := hid (HZ.out.on hbQ); replace c5 := bel_trans c5 hbQ; clear hbQ) | (go_at_call 53; refine (HL.out _).mono ?_; rintro e wQ ⟨rfl, hbQ⟩; replace HZ := hid (HZ.out.on hbQ); replace c5 := bel_trans c5 hbQ; clear hbQ) | skip)))
          refine hK.out _ _ ?kr2_21 (fun hHeld => ?_)
          case kr2_21 => (try dsimp only); (first | with_reducible assumption | with_reducible exact HZ.out.bx.cells6t | exact t6_bel (by assumption) (by assumption) | assumption | exact t6_alloc (by assumption) _ | exact HZ.out.bx.cells6t)
          clear hK K
          try simp only [Act.put, List.setIfInBounds_toArray, List.set_cons_zero, List.set_cons_succ]
          refine tk 22 ?_
          refine tk 23 ?_
          refine tk 24 ?_
          refine tk 25 ?_
          refine tk 26 ?_
          refine tk 27 ?_
          refine tk 28 ?_
          refine tk 29 ?_
          refine tk 30 ?_
          refine tk 31 ?_
          refine tk 32 ?_
          refine tk 33 ?_
          refine tk 34 ?_
          refine tk 35 ?_
          refine tk 36 ?_
          refine tk 38 ?_
          refine tk 39 ?_
          refine tk 40 ?_
          refine wpAnyH_ready (rs := [37]) (by kernel_rfl) (by simp) ?_
          refine AllReadyH.cons (o := ?or2_37) ?ir2_37 (fun K hK => ?sr2_37) AllReadyH.nil
          case ir2_37 => (simp only [List.getElem?_toArray, List.getElem?_cons_succ, List.getElem?_cons_zero]; rfl)
          (first | (go_simp; (first | (go_at_call 38; refine (HE.out _).mono ?_; rintro e wQ ⟨rfl, hbQ⟩; replace HZ := hid (HZ.out.on hbQ); replace c5 := bel_trans c5 hbQ; clear hbQ) | (go_at_call 39; refine (HR.out _ HZ.out).mono ?_; rintro e wQ ⟨rfl, hbQ⟩; replace HZ := hid (HZ.out.on hbQ); replace c5 := bel_trans c5 hbQ; clear hbQ) | (go_at_call 53; refine (HL.out _).mono ?_; rintro e wQ ⟨rfl, hbQ⟩; replace HZ := hid (HZ.out.on hbQ); replace c5 := bel_trans c5 hbQ; clear hbQ) | skip)))
          refine hK.out _ _ ?kr2_37 (fun hHeld => ?_)
          case kr2_37 => (try dsimp only); (first | with_reducible assumption | with_reducible exact HZ.out.bx.cells6t | exact t6_bel (by assumption) (by assumption) | assumption | exact t6_alloc (by assumption) _ | exact HZ.out.bx.cells6t)
          clear hK K
          try simp only [Act.put, List.setIfInBounds_toArray, List.set_cons_zero, List.set_cons_succ]
          refine tk 41 ?_
          refine tk 42 ?_
          refine tk 43 ?_
          refine tk 44 ?_
          refine wpAnyH_ready (rs := [45]) (by kernel_rfl) (by simp) ?_
          refine AllReadyH.cons (o := ?or2_45) ?ir2_45 (fun K hK => ?sr2_45) AllReadyH.nil
          case ir2_45 => (simp only [List.getElem?_toArray, List.getElem?_cons_succ, List.getElem?_cons_zero]; rfl)
          (first | (go_simp; (first | (go_at_call 38; refine (HE.out _).mono ?_; rintro e wQ ⟨rfl, hbQ⟩; replace HZ := hid (HZ.out.on hbQ); replace c5 := bel_trans c5 hbQ; clear hbQ) | (go_at_call 39; refine (HR.out _ HZ.out).mono ?_; rintro e wQ ⟨rfl, hbQ⟩; replace HZ := hid (HZ.out.on hbQ); replace c5 := bel_trans c5 hbQ; clear hbQ) | (go_at_call 53; refine (HL.out _).mono ?_; rintro e wQ ⟨rfl, hbQ⟩; replace HZ := hid (HZ.out.on hbQ); replace c5 := bel_trans c5 hbQ; clear hbQ) | skip)))
          refine hK.out _ _ ?kr2_45 (fun hHeld => ?_)
          case kr2_45 => (try dsimp only); (first | with_reducible assumption | with_reducible exact HZ.out.bx.cells6t | exact t6_bel (by assumption) (by assumption) | assumption | exact t6_alloc (by assumption) _ | exact HZ.out.bx.cells6t)
          clear hK K
          try simp only [Act.put, List.setIfInBounds_toArray, List.set_cons_zero, List.set_cons_succ]
          refine tk 46 ?_
          refine tk 47 ?_
          refine tk 48 ?_
          refine tk 49 ?_
          refine tk 50 ?_
          refine wpAnyH_done (by kernel_rfl) ?_ _
          refine NoPanic.normal ?_
          go_wp2
          go_ret
          exact ⟨rfl, by (repeat (first | with_reducible (first | assumption | exact Below.refl _ _ | refine bel_alloc ?_ _ | refine bel_drew ?_ | refine bel_drewN ?_ _ | refine bel_set ?_ (by first | omega | (simp; done) | (simp; omega)) _ | refine bel_trans ?_ (by assumption)) | assumption | refine bel_trans ?_ (by assumption)))⟩
        · clear hdec
          replace hd1 : decide (0 ≤ k.last) = false := decide_eq_false hd1
          have hS := HZ.out.bx.cells6t
          clear p0 p1 p2 p3 p4 p5
          go_wp2_with fail
          replace HZ := hid (HZ.out.on (bel_drew (Below.refl w5.heap.size w5)))
          replace c5 := bel_drew c5
          refine wp_region_noPanic ?_
          refine wp_region_held_drew (S := (fun v => v.cell? ⟨w1.heap.size, 0, none⟩ = some (.int .i64 k.o) ∧ v.cell? ⟨w1.heap.size, 1, none⟩ = some (.int .i64 k.l) ∧ v.cell? ⟨w1.heap.size, 2, none⟩ = some (.int .i64 k.m) ∧ v.cell? ⟨w1.heap.size, 3, none⟩ = some (.slice A k.ps.length cp) ∧ v.cell? ⟨w1.heap.size, 4, none⟩ = some (.int .i64 k.base) ∧ v.cell? ⟨w1.heap.size, 5, none⟩ = some (.int .i64 k.last) ∧ True)) (by kernel_rfl) (t6_drew hS) (fun hHeld => ?_)
          refine tk 0 ?_
          refine tk 1 ?_
          refine tk 2 ?_
          refine tk 5 ?_
          refine tk 6 ?_
          refine tk 7 ?_
          refine wpAnyH_ready (rs := [3]) (by kernel_rfl) (by simp) ?_
          refine AllReadyH.cons (o := ?or3_3) ?ir3_3 (fun K hK => ?sr3_3) AllReadyH.nil
          case ir3_3 => (simp only [List.getElem?_toArray, List.getElem?_cons_succ, List.getElem?_cons_zero]; rfl)
          (first | (go_simp; (first | (go_at_call 38; refine (HE.out _).mono ?_; rintro e wQ ⟨rfl, hbQ⟩; replace HZ := hid (HZ.out.on hbQ); replace c5 := bel_trans c5 hbQ; clear hbQ) | (go_at_call 39; refine (HR.out _ HZ.out).mono ?_; rintro e wQ ⟨rfl, hbQ⟩; replace HZ := hid (HZ.out.on hbQ); replace c5 := bel_trans c5 hbQ; clear hbQ) | (go_at_call 53; refine (HL.out _).mono ?_; rintro e wQ ⟨rfl, hbQ⟩; replace HZ := hid (HZ.out.on hbQ); replace c5 := bel_trans c5 hbQ; clear hbQ) | skip)))
          refine hK.out _ _ ?kr3_3 (fun hHeld => ?_)
          case kr3_3 => (try dsimp only); (first | with_reducible assumption | with_reducible exact HZ.out.bx.cells6t | exact t6_bel (by assumption) (by assumption) | assumption | exact t6_alloc (by assumption) _ | exact HZ.out.bx.cells6t)
          clear hK K
          try simp only [Act.put, List.setIfInBounds_toArray, List.set_cons_zero, List.set_cons_succ]
          refine tk 4 ?_
          refine tk 8 ?_
          refine tk 9 ?_
          refine tk 10 ?_
          refine tk 11 ?_
          refine tk 12 ?_
          refine wpAnyH_ready (rs := [13]) (by kernel_rfl) (by simp) ?_
          refine AllReadyH.cons (o := ?or3_13) ?ir3_13 (fun K hK => ?sr3_13) AllReadyH.nil
          case ir3_13 => (simp only [List.getElem?_toArray, List.getElem?_cons_succ, List.getElem?_cons_zero]; rfl)
          (first | (go_simp; (first | (go_at_call 38; refine (HE.out _).mono ?_; rintro e wQ ⟨rfl, hbQ⟩; replace HZ := hid (HZ.out.on hbQ); replace c5 := bel_trans c5 hbQ; clear hbQ) | (go_at_call 39; refine (HR.out _ HZ.out).mono ?_; rintro e wQ ⟨rfl, hbQ⟩; replace HZ := hid (HZ.out.on hbQ); replace c5 := bel_trans c5 hbQ; clear hbQ) | (go_at_call 53; refine (HL.out _).mono ?_; rintro e wQ ⟨rfl, hbQ⟩; replace HZ := hid (HZ.out.on hbQ); replace c5 := bel_trans c5 hbQ; clear hbQ) | skip)))
          refine hK.out _ _ ?kr3_13 (fun hHeld => ?_)
          case kr3_13 => (try dsimp only); (first | with_reducible assumption | with_reducible exact HZ.out.bx.cells6t | exact t6_bel (by assumption) (by assumption) | assumption | exact t6_alloc (by assumption) _ | exact HZ.out.bx.cells6t)
          clear hK K
          try simp only [Act.put, List.setIfInBounds_toArray, List.set_cons_zero, List.set_cons_succ]
          refine tk 14 ?_
          refine tk 15 ?_
          refine tk 16 ?_
          refine tk 17 ?_
          refine tk 18 ?_
          refine tk 19 ?_
          refine tk 20 ?_
          refine wpAnyH_ready (rs := [21]) (by kernel_rfl) (by simp) ?_
          refine AllReadyH.cons (o := ?or3_21) ?ir3_21 (fun K hK => ?sr3_21) AllReadyH.nil
          case ir3_21 => (simp only [List.getElem?_toArray, List.getElem?_cons_succ, List.getElem?_cons_zero]; rfl)
          (first | (go_simp; (first | (go_at_call 38; refine (HE.out _).mono ?_; rintro e wQ ⟨rfl, hbQ⟩; replace HZ := hid (HZ.out.on hbQ); replace c5 := bel_trans c5 hbQ; clear hbQ) | (go_at_call 39; refine (HR.out _ HZ.out).mono ?_; rintro e wQ ⟨rfl, hbQ⟩; replace HZ := hid (HZ.out.on hbQ); replace c5 := bel_trans c5 hbQ; clear hbQ) | (go_at_call 53; refine (HL.out _).mono ?_; rintro e wQ ⟨rfl, hbQ⟩; replace HZ := hid (HZ.out.on hbQ); replace c5 := bel_trans c5 hbQ; clear hbQ) | skip)))
          refine hK.out _ _ ?kr3_21 (fun hHeld => ?_)
          case kr3_21 => (try dsimp only); (first | with_reducible assumption | with_reducible exact HZ.out.bx.cells6t | exact t6_bel (by assumption) (by assumption) | assumption | exact t6_alloc (by assumption) _ | exact HZ.out.bx.cells6t)
          clear hK K
          try simp only [Act.put, List.setIfInBounds_toArray, List.set_cons_zero, List.set_cons_succ]
          refine tk 22 ?_
          refine tk 23 ?_
          refine tk 24 ?_
          refine tk 25 ?_
          refine tk 26 ?_
          refine tk 27 ?_
          refine tk 28 ?_
          refine tk 29 ?_
          refine tk 30 ?_
          refine tk 31 ?_
          refine tk 32 ?_
          refine tk 33 ?_
          refine tk 34 ?_
          refine tk 35 ?_
          refine tk 36 ?_
          refine tk 38 ?_
          refine tk 39 ?_
          refine tk 40 ?_
          refine wpAnyH_ready (rs := [37]) (by kernel_rfl) (by simp) ?_
          refine AllReadyH.cons (o := ?or3_37) ?ir3_37 (fun K hK => ?sr3_37) AllReadyH.nil
          case ir3_37 => (simp only [List.getElem?_toArray, List.getElem?_cons_succ, List.getElem?_cons_zero]; rfl)
          (first | (go_simp; (first | (go_at_call 38; refine (HE.out _).mono ?_; rintro e wQ ⟨rfl, hbQ⟩; replace HZ := hid (HZ.out.on hbQ); replace c5 := bel_trans c5 hbQ; clear hbQ) | (go_at_call 39; refine (HR.out _ HZ.out).mono ?_; rintro e wQ ⟨rfl, hbQ⟩; replace HZ := hid (HZ.out.on hbQ); replace c5 := bel_trans c5 hbQ; clear hbQ) | (go_at_call 53; refine (HL.out _).mono ?_; rintro e wQ ⟨rfl, hbQ⟩; replace HZ := hid (HZ.out.on hbQ); replace c5 := bel_trans c5 hbQ; clear hbQ) | skip)))
          refine hK.out _ _ ?kr3_37 (fun hHeld => ?_)
          case kr3_37 => (try dsimp only); (first | with_reducible assumption | with_reducible exact HZ.out.bx.cells6t | exact t6_bel (by assumption) (by assumption) | assumption | exact t6_alloc (by assumption) _ | exact HZ.out.bx.cells6t)
          clear hK K
          try simp only [Act.put, List.setIfInBounds_toArray, List.set_cons_zero, List.set_cons_succ]
          refine tk 41 ?_
          refine tu 42 ?_
          refine tu 43 ?_
          refine tu 44 ?_
          refine tu 45 ?_
          refine tu 46 ?_
          refine tk 47 ?_
          refine tk 48 ?_
          refine tk 49 ?_
          refine tk 50 ?_
          refine wpAnyH_done (by kernel_rfl) ?_ _
          refine NoPanic.normal ?_
          go_wp2
          go_ret
          exact ⟨rfl, by (repeat (first | with_reducible (first | assumption | exact Below.refl _ _ | refine bel_alloc ?_ _ | refine bel_drew ?_ | refine bel_drewN ?_ _ | refine bel_set ?_ (by first | omega | (simp; done) | (simp; omega)) _ | refine bel_trans ?_ (by assumption)) | assumption | refine bel_trans ?_ (by assumption)))⟩
    · skip
      have HG := hid (fun (v : World) (h : KB w1.heap.size w1.heap.size k A cp v) => c_Greatest_no k A cp _ v h.ps h.le hk hw)
      have HS := hid (fun (v : World) (h : KB w1.heap.size w1.heap.size k A cp v) => c_sGreatest_no k A cp _ v h.ps h.le hk hw)
      have HV := hid (fun (v : World) (h : KB w1.heap.size w1.heap.size k A cp v) => c_KnownValid_no k A cp _ v h.ps h.le hk hw)
      have HR := hid (fun (v : World) (h : KB w1.heap.size w1.heap.size k A cp v) => c_Grows_no k A cp _ v h.ps h.le hk hw)
      clear hk hw
      go_wp2_with fail
      refine (HG.out _ HZ.out).mono ?_
      rintro e w2 ⟨rfl, hb2⟩
      replace HZ := hid (HZ.out.on hb2)
      have c2 := bel_trans c1 hb2
      clear hb2 p0 p1 p2 p3 p4 p5
      obtain ⟨p0, p1, p2, p3, p4, p5⟩ := HZ.out.bx.cells6
      go_wp2_with fail
      refine (HS.out _ HZ.out).mono ?_
      rintro e w3 ⟨rfl, hb3⟩
      replace HZ := hid (HZ.out.on hb3)
      have c3 := bel_trans c2 hb3
      clear hb3 p0 p1 p2 p3 p4 p5
      obtain ⟨p0, p1, p2, p3, p4, p5⟩ := HZ.out.bx.cells6
      go_wp2_with fail
      refine (HS.out _ HZ.out).mono ?_
      rintro e w4 ⟨rfl, hb4⟩
      replace HZ := hid (HZ.out.on hb4)
      have c4 := bel_trans c3 hb4
      clear hb4 p0 p1 p2 p3 p4 p5
      obtain ⟨p0, p1, p2, p3, p4, p5⟩ := HZ.out.bx.cells6
      go_wp2_with fail
      refine (HV.out _ HZ.out).mono ?_
      rintro e w5 ⟨rfl, hb5⟩
      replace HZ := hid (HZ.out.on hb5)
      have c5 := bel_trans c4 hb5
      clear hb5 p0 p1 p2 p3 p4 p5
      obtain ⟨p0, p1, p2, p3, p4, p5⟩ := HZ.out.bx.cells6
      go_wp2_with fail
      refine (HR.out _ HZ.out).mono ?_
      rintro e w6 ⟨rfl, hb6⟩
      replace HZ := hid (HZ.out.on hb6)
      have c6 := bel_trans c5 hb6
      clear hb6 p0 p1 p2 p3 p4 p5
      obtain ⟨p0, p1, p2, p3, p4, p5⟩ := HZ.out.bx.cells6
      go_wp2
      go_ret
      exact ⟨rfl, by (repeat (first | with_reducible (first | assumption | exact Below.refl _ _ | refine bel_alloc ?_ _ | refine bel_drew ?_ | refine bel_drewN ?_ _ | refine bel_set ?_ (by first | omega | (simp; done) | (simp; omega)) _ | refine bel_trans ?_ (by assumption)) | assumption | refine bel_trans ?_ (by assumption)))⟩
end Go.Proofs.Ytoiifopjipfjhaa
