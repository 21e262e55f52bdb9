/- The walks of the laws on the width and on the greatest code. -/
import Derived.Test.YtoiifopjipfjhaaVk
import Derived.Test.YtoiifopjipfjhaaDn
import Derived.Test.YtoiifopjipfjhaaBa
namespace Go.Proofs.Ytoiifopjipfjhaa
open Go.ChangeShapes Go.WideShapes Go.ChangeAt Go.RowKit Go.Joins
set_option linter.unusedVariables false

set_option maxHeartbeats 4000000 in
set_option maxRecDepth 100000 in
theorem walk_FnWidth (A' : Option Addr) (n cap : Nat) (w : World) (hc : CodeAt w w.heap.size A' n cap) : Calls Try.prog 6 #[.slice A' n cap] w fun e w' => e = .returned (.bool true) ∧ Below w.heap.size w w' := by
  by_cases big : 1048576 < n
  · have h1 := hc.1
    have h2 := hc.2.1
    unfold maxLen at h2
    go_enter Try.func6, Try.ntmps6
    go_wp2_with fail
    go_ret
    exact ⟨rfl, by (repeat (first | with_reducible (first | assumption | exact Below.refl _ _ | refine bel_alloc ?_ _ | refine bel_drew ?_ | refine bel_drewN ?_ _ | refine bel_set ?_ (by first | omega | (simp; done) | (simp; omega)) _ | refine bel_trans ?_ (by assumption)) | assumption | refine bel_trans ?_ (by assumption)))⟩
  · go_enter Try.func6, Try.ntmps6
    go_wp2_with fail
    refine (c_DrawWidth _ _ _ _ hc).mono ?_
    rintro e w1 ⟨k, A, cp, rfl, hw, hl, ho, b1⟩
    have HZ := hid (KB.new ho)
    have c1 := bel_alloc b1 (.cells #[.int .i64 k.o, .int .i64 k.l, .int .i64 k.m, .slice A k.ps.length cp, .int .i64 k.base, .int .i64 k.last] 28)
    clear ho b1 hc
    obtain ⟨p0, p1, p2, p3, p4, p5⟩ := HZ.out.bx.cells6
    by_cases hk : k.Ok
    · skip
      have HW := hid (fun (v : World) (h : KB w1.heap.size w1.heap.size k A cp v) => c_Width_yes k A cp _ v h.ps h.le hk hw)
      have HS := hid (fun (v : World) (h : KB w1.heap.size w1.heap.size k A cp v) => c_sWidth_yes k A cp _ v h.ps h.le hk hw)
      have HV := hid (fun (v : World) (h : KB w1.heap.size w1.heap.size k A cp v) => c_KnownValid_yes k A cp _ v h.ps h.le hk hw)
      have HG := hid (fun (v : World) (h : KB w1.heap.size w1.heap.size k A cp v) => c_Greatest_yes k A cp _ v h.ps h.le hk hw)
      have hwl := hk.width_law
      have hwb := hk.width_bd
      have hgb := hk.great_bd
      have hcb := hk.cbd
      have HB := hid (fun (v : World) => c_BitsNeeded k.great v (by omega))
      obtain ⟨WD, hWD⟩ : ∃ WD, WD = k.width := ⟨_, rfl⟩
      obtain ⟨GR, hGR⟩ : ∃ GR, GR = k.great := ⟨_, rfl⟩
      simp only [← hWD] at HW HS hwl hwb
      simp only [← hGR] at HG HB hwl hgb
      obtain ⟨BN, hBN⟩ : ∃ BN, BN = bitsNeeded GR := ⟨_, rfl⟩
      rw [← hBN] at HB hwl
      have hpos : 0 < WD := by omega
      have hneg : ¬ WD < 0 := by omega
      obtain ⟨_, ⟨hl1, hl2⟩, hm1, hm2⟩ := setOk_iff.1 hk.set
      have ew : wrap64 (k.l + 1) = k.l + 1 := IntWalk.wrap64_in _ (by omega)
      obtain ⟨q1, q2, q3, q4⟩ := hwl
      have q1n : ¬ WD < k.l + 1 := by omega
      have q2n : ¬ k.m < WD := by omega
      have q3n : ¬ WD < BN := by omega
      clear hk hw hWD hGR hBN hwb hgb hcb
      go_wp2_with fail
      refine (HW.out _ HZ.out).mono ?_
      rintro e w2 ⟨rfl, hb2⟩
      replace HZ := hid (HZ.out.on hb2)
      have c2 := bel_trans c1 hb2
      clear hb2 p0 p1 p2 p3 p4 p5
      obtain ⟨p0, p1, p2, p3, p4, p5⟩ := HZ.out.bx.cells6
      go_wp2_with fail
      refine (HS.out _ HZ.out).mono ?_
      rintro e w3 ⟨rfl, hb3⟩
      replace HZ := hid (HZ.out.on hb3)
      have c3 := bel_trans c2 hb3
      clear hb3 p0 p1 p2 p3 p4 p5
      obtain ⟨p0, p1, p2, p3, p4, p5⟩ := HZ.out.bx.cells6
      go_wp2_with fail
      refine (HV.out _ HZ.out).mono ?_
      rintro e w4 ⟨rfl, hb4⟩
      replace HZ := hid (HZ.out.on hb4)
      have c4 := bel_trans c3 hb4
      clear hb4 p0 p1 p2 p3 p4 p5
      obtain ⟨p0, p1, p2, p3, p4, p5⟩ := HZ.out.bx.cells6
      go_wp2_with fail
      refine (HG.out _ HZ.out).mono ?_
      rintro e w5 ⟨rfl, hb5⟩
      replace HZ := hid (HZ.out.on hb5)
      have c5 := bel_trans c4 hb5
      clear hb5 p0 p1 p2 p3 p4 p5
      obtain ⟨p0, p1, p2, p3, p4, p5⟩ := HZ.out.bx.cells6
      go_wp2_with fail
      refine (HB.out _).mono ?_
      rintro e w6 ⟨rfl, rfl⟩
      by_cases q5 : WD = k.l + 1
      · have e5 : (WD == k.l + 1) = true := eq_yes q5
        clear q4 q5
        go_wp2
        go_ret
        exact ⟨rfl, by (repeat (first | with_reducible (first | assumption | exact Below.refl _ _ | refine bel_alloc ?_ _ | refine bel_drew ?_ | refine bel_drewN ?_ _ | refine bel_set ?_ (by first | omega | (simp; done) | (simp; omega)) _ | refine bel_trans ?_ (by assumption)) | assumption | refine bel_trans ?_ (by assumption)))⟩
      · have e5 : (WD == k.l + 1) = false := eq_no (by omega)
        have q6 : BN = WD := q4.resolve_left q5
        have e6 : (BN == WD) = true := eq_yes q6
        clear q4 q5 q6
        go_wp2_with fail
        refine (HB.out _).mono ?_
        rintro e w6 ⟨rfl, rfl⟩
        go_wp2
        go_ret
        exact ⟨rfl, by (repeat (first | with_reducible (first | assumption | exact Below.refl _ _ | refine bel_alloc ?_ _ | refine bel_drew ?_ | refine bel_drewN ?_ _ | refine bel_set ?_ (by first | omega | (simp; done) | (simp; omega)) _ | refine bel_trans ?_ (by assumption)) | assumption | refine bel_trans ?_ (by assumption)))⟩
    · skip
      have HW := hid (fun (v : World) (h : KB w1.heap.size w1.heap.size k A cp v) => c_Width_no k A cp _ v h.ps h.le hk hw)
      have HS := hid (fun (v : World) (h : KB w1.heap.size w1.heap.size k A cp v) => c_sWidth_no k A cp _ v h.ps h.le hk hw)
      have HV := hid (fun (v : World) (h : KB w1.heap.size w1.heap.size k A cp v) => c_KnownValid_no k A cp _ v h.ps h.le hk hw)
      clear hk hw
      go_wp2_with fail
      refine (HW.out _ HZ.out).mono ?_
      rintro e w2 ⟨rfl, hb2⟩
      replace HZ := hid (HZ.out.on hb2)
      have c2 := bel_trans c1 hb2
      clear hb2 p0 p1 p2 p3 p4 p5
      obtain ⟨p0, p1, p2, p3, p4, p5⟩ := HZ.out.bx.cells6
      go_wp2_with fail
      refine (HS.out _ HZ.out).mono ?_
      rintro e w3 ⟨rfl, hb3⟩
      replace HZ := hid (HZ.out.on hb3)
      have c3 := bel_trans c2 hb3
      clear hb3 p0 p1 p2 p3 p4 p5
      obtain ⟨p0, p1, p2, p3, p4, p5⟩ := HZ.out.bx.cells6
      go_wp2_with fail
      refine (HV.out _ HZ.out).mono ?_
      rintro e w4 ⟨rfl, hb4⟩
      replace HZ := hid (HZ.out.on hb4)
      have c4 := bel_trans c3 hb4
      clear hb4 p0 p1 p2 p3 p4 p5
      obtain ⟨p0, p1, p2, p3, p4, p5⟩ := HZ.out.bx.cells6
      go_wp2_with fail
      refine (HS.out _ HZ.out).mono ?_
      rintro e w5 ⟨rfl, hb5⟩
      replace HZ := hid (HZ.out.on hb5)
      have c5 := bel_trans c4 hb5
      clear hb5 p0 p1 p2 p3 p4 p5
      obtain ⟨p0, p1, p2, p3, p4, p5⟩ := HZ.out.bx.cells6
      go_wp2_with fail
      refine (HV.out _ HZ.out).mono ?_
      rintro e w6 ⟨rfl, hb6⟩
      replace HZ := hid (HZ.out.on hb6)
      have c6 := bel_trans c5 hb6
      clear hb6 p0 p1 p2 p3 p4 p5
      obtain ⟨p0, p1, p2, p3, p4, p5⟩ := HZ.out.bx.cells6
      go_wp2
      go_ret
      exact ⟨rfl, by (repeat (first | with_reducible (first | assumption | exact Below.refl _ _ | refine bel_alloc ?_ _ | refine bel_drew ?_ | refine bel_drewN ?_ _ | refine bel_set ?_ (by first | omega | (simp; done) | (simp; omega)) _ | refine bel_trans ?_ (by assumption)) | assumption | refine bel_trans ?_ (by assumption)))⟩
end Go.Proofs.Ytoiifopjipfjhaa
