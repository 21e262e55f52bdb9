/- The contract of the model's own drawing of a code that follows or clears. -/
import Derived.Test.YtoiifopjipfjhaaDp
namespace Go.Proofs.Ytoiifopjipfjhaa
open Go.ChangeShapes Go.WideShapes Go.ChangeAt Go.RowKit Go.Joins
set_option linter.unusedVariables false

theorem CodeAt.mono {w : World} {L L' n cap : Nat} {A : Option Addr} (h : CodeAt w L A n cap) (hL : L ≤ L') : CodeAt w L' A n cap :=
  ⟨h.1, h.2.1, fun h0 => by
    obtain ⟨b, off, e, hb, hc⟩ := h.2.2 h0
    exact ⟨b, off, e, by omega, hc⟩⟩

set_option maxHeartbeats 4000000 in
set_option maxRecDepth 100000 in
theorem c_DrawAfter (A' : Option Addr) (n cap' : Nat) (w : World) (hc : CodeAt w w.heap.size A' n cap') : Calls Try.prog 42 #[.slice A' n cap'] w (AKnownInt w) := by
  have k0 := Blk.new w 28 #[.int .i64 0, .int .i64 0, .int .i64 0, .slice none 0 0, .int .i64 0, .int .i64 0]
  have HCo := hid (CodeAt.mono (hc.keep (fun k hk => Below.heap_alloc w (.cells #[.int .i64 0, .int .i64 0, .int .i64 0, .slice none 0 0, .int .i64 0, .int .i64 0] 28) k (by omega))) (show w.heap.size ≤ (w.alloc (.cells #[.int .i64 0, .int .i64 0, .int .i64 0, .slice none 0 0, .int .i64 0, .int .i64 0] 28)).heap.size by simp))
  clear hc
  go_enter Try.func42, Try.ntmps42
  go_wp2_with fail
  refine (c_DrawWordOf _ _ _ _ HCo.out).mono ?_
  rintro e w1 ⟨k, A, cap, x, rfl, hw, hl, hx, ho1, hb1⟩
  have hbd : Below w.heap.size w w1 := bel_trans (bel_alloc (Below.refl _ _) _) hb1
  have hz1 := hb1.size
  rw [alloc_size] at hz1
  have HX := hid ((k0.on hb1).alloc (.cells #[.int .i64 k.o, .int .i64 k.l, .int .i64 k.m, .slice A k.ps.length cap, .int .i64 k.base, .int .i64 k.last] 28))
  have HB := hid (Blk.new w1 28 #[.int .i64 k.o, .int .i64 k.l, .int .i64 k.m, .slice A k.ps.length cap, .int .i64 k.base, .int .i64 k.last])
  have HO := hid ((own_mono ho1 (show w.heap.size + 1 ≤ (w.alloc (.cells #[.int .i64 0, .int .i64 0, .int .i64 0, .slice none 0 0, .int .i64 0, .int .i64 0] 28)).heap.size by simp)).alloc (.cells #[.int .i64 k.o, .int .i64 k.l, .int .i64 k.m, .slice A k.ps.length cap, .int .i64 k.base, .int .i64 k.last] 28))
  have b1 := bel_alloc hbd (.cells #[.int .i64 k.o, .int .i64 k.l, .int .i64 k.m, .slice A k.ps.length cap, .int .i64 k.base, .int .i64 k.last] 28)
  clear HCo k0 hb1 ho1 hbd
  obtain ⟨p0, p1, p2, p3, p4, p5⟩ := HB.out.cells6
  obtain ⟨r0, r1, r2, r3, r4, r5⟩ := HX.out.cells6
  obtain ⟨f0, f1, f2, f3, f4, f5⟩ := HX.out.free6
  have HV := hid (fun (v : World) => c_sSettingValid k.o k.l k.m v)
  have hne : w1.heap.size ≠ w.heap.size := by omega
  by_cases h6 : (n : Int) % 6 = 0
  · skip
    have e6 : ((n : Int) % 6 == 0) = true := eq_yes h6
    clear h6
    go_wp2_with fail
    refine (HV.out _).mono ?_
    rintro e w2 ⟨rfl, hb2⟩
    replace HX := hid (HX.out.on hb2)
    replace HB := hid (HB.out.on hb2)
    replace HO := hid (own_on HO.out hb2)
    replace b1 := bel_trans b1 hb2
    clear hb2 p0 p1 p2 p3 p4 p5 f0 f1 f2 f3 f4 f5 r0 r1 r2 r3 r4 r5
    obtain ⟨p0, p1, p2, p3, p4, p5⟩ := HB.out.cells6
    obtain ⟨r0, r1, r2, r3, r4, r5⟩ := HX.out.cells6
    obtain ⟨f0, f1, f2, f3, f4, f5⟩ := HX.out.free6
    cases hs : setOk k.o k.l k.m with
    | true =>
      obtain ⟨_, ⟨hl1, hl2⟩, hm1, hm2⟩ := setOk_iff.1 hs
      have HC := hid (fun (v : World) => c_l1Clear k.o k.l k.m v (by omega) (by omega))
      obtain ⟨C, hC⟩ : ∃ C, C = pow2 k.l := ⟨_, rfl⟩
      have hCb : -9223372036854775808 ≤ C ∧ C ≤ 9223372036854775807 := by
        have h1 : (2 : Nat) ^ k.l.toNat ≤ 2 ^ 10 := Nat.pow_le_pow_right (by omega) (by omega)
        rw [hC, pow2_nat]; generalize 2 ^ k.l.toNat = N at h1; omega
      rw [← hC] at HC
      clear hC HV
      have hS := HB.out.cells6t
      go_wp2_with fail
      replace HX := hid HX.out.drew
      replace HB := hid HB.out.drew
      replace HO := hid HO.out.drew
      replace b1 := bel_drew b1
      refine wp_region_noPanic ?_
      refine wp_region_held_drew (S := (fun v => v.cell? ⟨w1.heap.size, 0, none⟩ = some (.int .i64 k.o) ∧ v.cell? ⟨w1.heap.size, 1, none⟩ = some (.int .i64 k.l) ∧ v.cell? ⟨w1.heap.size, 2, none⟩ = some (.int .i64 k.m) ∧ v.cell? ⟨w1.heap.size, 3, none⟩ = some (.slice A k.ps.length cap) ∧ v.cell? ⟨w1.heap.size, 4, none⟩ = some (.int .i64 k.base) ∧ v.cell? ⟨w1.heap.size, 5, none⟩ = some (.int .i64 k.last) ∧ True)) (by kernel_rfl) (t6_drew hS) (fun hHeld => ?_)
      refine tk 0 ?_
      refine tk 1 ?_
      refine tk 2 ?_
      refine wpAnyH_ready (rs := [3]) (by kernel_rfl) (by simp) ?_
      refine AllReadyH.cons (o := ?or1_3) ?ir1_3 (fun K hK => ?sr1_3) AllReadyH.nil
      case ir1_3 => (simp only [List.getElem?_toArray, List.getElem?_cons_succ, List.getElem?_cons_zero]; rfl)
      (first | (go_simp; (first | (go_at_call 108; refine (HC.out _).mono ?_; rintro e wQ ⟨rfl, hbQ⟩; replace HB := hid (HB.out.on hbQ); replace HX := hid (HX.out.on hbQ); replace HO := hid (own_on HO.out hbQ); replace b1 := bel_trans b1 hbQ; clear hbQ f0 f1 f2 f3 f4 f5 r0 r1 r2 r3 r4 r5; obtain ⟨f0, f1, f2, f3, f4, f5⟩ := HX.out.free6; obtain ⟨r0, r1, r2, r3, r4, r5⟩ := HX.out.cells6) | skip)))
      refine hK.out _ _ ?kr1_3 (fun hHeld => ?_)
      case kr1_3 => (try dsimp only); (first | with_reducible assumption | with_reducible exact HB.out.cells6t | with_reducible exact ((((((HB.out.far _ _ hne).far _ _ hne).far _ _ hne).far _ _ hne).far _ _ hne).far _ _ hne).cells6t | exact t6_bel (by assumption) (by assumption) | assumption | exact t6_alloc (by assumption) _ | exact HB.out.cells6t | exact ((((((HB.out.far _ _ hne).far _ _ hne).far _ _ hne).far _ _ hne).far _ _ hne).far _ _ hne).cells6t)
      clear hK K
      try simp only [Act.put, List.setIfInBounds_toArray, List.set_cons_zero, List.set_cons_succ]
      refine wpAnyH_ready (rs := [4]) (by kernel_rfl) (by simp) ?_
      refine AllReadyH.cons (o := ?or1_4) ?ir1_4 (fun K hK => ?sr1_4) AllReadyH.nil
      case ir1_4 => (simp only [List.getElem?_toArray, List.getElem?_cons_succ, List.getElem?_cons_zero]; rfl)
      (first | (go_simp; (first | (go_at_call 108; refine (HC.out _).mono ?_; rintro e wQ ⟨rfl, hbQ⟩; replace HB := hid (HB.out.on hbQ); replace HX := hid (HX.out.on hbQ); replace HO := hid (own_on HO.out hbQ); replace b1 := bel_trans b1 hbQ; clear hbQ f0 f1 f2 f3 f4 f5 r0 r1 r2 r3 r4 r5; obtain ⟨f0, f1, f2, f3, f4, f5⟩ := HX.out.free6; obtain ⟨r0, r1, r2, r3, r4, r5⟩ := HX.out.cells6) | skip)))
      refine hK.out _ _ ?kr1_4 (fun hHeld => ?_)
      case kr1_4 => (try dsimp only); (first | with_reducible assumption | with_reducible exact HB.out.cells6t | with_reducible exact ((((((HB.out.far _ _ hne).far _ _ hne).far _ _ hne).far _ _ hne).far _ _ hne).far _ _ hne).cells6t | exact t6_bel (by assumption) (by assumption) | assumption | exact t6_alloc (by assumption) _ | exact HB.out.cells6t | exact ((((((HB.out.far _ _ hne).far _ _ hne).far _ _ hne).far _ _ hne).far _ _ hne).far _ _ hne).cells6t)
      clear hK K
      try simp only [Act.put, List.setIfInBounds_toArray, List.set_cons_zero, List.set_cons_succ]
      refine tk 5 ?_
      refine wpAnyH_done (by kernel_rfl) ?_ _
      refine NoPanic.normal ?_
      obtain ⟨j0, j1, j2, j3, j4, j5⟩ := (HX.out.put6 (.int .i64 k.o) (.int .i64 k.l) (.int .i64 k.m) (.slice A k.ps.length cap) (.int .i64 k.base) (.int .i64 k.last)).cells6
      have HQ := hid (show AKnownInt w (.returned (.tuple #[.agg #[.int .i64 k.o, .int .i64 k.l, .int .i64 k.m, .slice A k.ps.length cap, .int .i64 k.base, .int .i64 k.last], .int .i64 C])) _ from ⟨k, A, cap, C, rfl, hw, hl, hCb, own_mono (own_put6 HO.out HX.out tykn_tp (.int .i64 k.o) (.int .i64 k.l) (.int .i64 k.m) (.slice A k.ps.length cap) (.int .i64 k.base) (.int .i64 k.last)) (by omega), by (repeat (first | with_reducible (first | assumption | exact Below.refl _ _ | refine bel_alloc ?_ _ | refine bel_drew ?_ | refine bel_drewN ?_ _ | refine bel_set ?_ (by first | omega | (simp; done) | (simp; omega)) _ | refine bel_trans ?_ (by assumption)) | assumption | refine bel_trans ?_ (by assumption)))⟩)
      clear HO HB b1
      go_wp2
      exact bodyPost_ret (v := .tuple #[.agg #[.int .i64 k.o, .int .i64 k.l, .int .i64 k.m, .slice A k.ps.length cap, .int .i64 k.base, .int .i64 k.last], .int .i64 C]) (by simp [results, Try.results42, go_sem, j0, j1, j2, j3, j4, j5]) rfl HQ.out
    | false =>
      clear HV
      go_wp2_with fail
      obtain ⟨j0, j1, j2, j3, j4, j5⟩ := (HX.out.put6 (.int .i64 k.o) (.int .i64 k.l) (.int .i64 k.m) (.slice A k.ps.length cap) (.int .i64 k.base) (.int .i64 k.last)).cells6
      have HQ := hid (show AKnownInt w (.returned (.tuple #[.agg #[.int .i64 k.o, .int .i64 k.l, .int .i64 k.m, .slice A k.ps.length cap, .int .i64 k.base, .int .i64 k.last], .int .i64 x])) _ from ⟨k, A, cap, x, rfl, hw, hl, hx, own_mono (own_put6 HO.out HX.out tykn_tp (.int .i64 k.o) (.int .i64 k.l) (.int .i64 k.m) (.slice A k.ps.length cap) (.int .i64 k.base) (.int .i64 k.last)) (by omega), by (repeat (first | with_reducible (first | assumption | exact Below.refl _ _ | refine bel_alloc ?_ _ | refine bel_drew ?_ | refine bel_drewN ?_ _ | refine bel_set ?_ (by first | omega | (simp; done) | (simp; omega)) _ | refine bel_trans ?_ (by assumption)) | assumption | refine bel_trans ?_ (by assumption)))⟩)
      clear HO HB b1
      go_wp2
      exact bodyPost_ret (v := .tuple #[.agg #[.int .i64 k.o, .int .i64 k.l, .int .i64 k.m, .slice A k.ps.length cap, .int .i64 k.base, .int .i64 k.last], .int .i64 x]) (by simp [results, Try.results42, go_sem, j0, j1, j2, j3, j4, j5]) rfl HQ.out
  · skip
    have e6 : ((n : Int) % 6 == 0) = false := eq_no (by omega)
    clear h6
    go_wp2_with fail
    obtain ⟨j0, j1, j2, j3, j4, j5⟩ := (HX.out.put6 (.int .i64 k.o) (.int .i64 k.l) (.int .i64 k.m) (.slice A k.ps.length cap) (.int .i64 k.base) (.int .i64 k.last)).cells6
    have HQ := hid (show AKnownInt w (.returned (.tuple #[.agg #[.int .i64 k.o, .int .i64 k.l, .int .i64 k.m, .slice A k.ps.length cap, .int .i64 k.base, .int .i64 k.last], .int .i64 x])) _ from ⟨k, A, cap, x, rfl, hw, hl, hx, own_mono (own_put6 HO.out HX.out tykn_tp (.int .i64 k.o) (.int .i64 k.l) (.int .i64 k.m) (.slice A k.ps.length cap) (.int .i64 k.base) (.int .i64 k.last)) (by omega), by (repeat (first | with_reducible (first | assumption | exact Below.refl _ _ | refine bel_alloc ?_ _ | refine bel_drew ?_ | refine bel_drewN ?_ _ | refine bel_set ?_ (by first | omega | (simp; done) | (simp; omega)) _ | refine bel_trans ?_ (by assumption)) | assumption | refine bel_trans ?_ (by assumption)))⟩)
    clear HO HB b1
    go_wp2
    exact bodyPost_ret (v := .tuple #[.agg #[.int .i64 k.o, .int .i64 k.l, .int .i64 k.m, .slice A k.ps.length cap, .int .i64 k.base, .int .i64 k.last], .int .i64 x]) (by simp [results, Try.results42, go_sem, j0, j1, j2, j3, j4, j5]) rfl HQ.out
end Go.Proofs.Ytoiifopjipfjhaa
