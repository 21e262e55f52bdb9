/- The contracts of a writer's pack and close. No condition but that the bits are few. -/
import Derived.Test.YtfklkepodpcdgaaQw
import Derived.Test.YtfklkepodpcdgaaBj
namespace Go.Proofs.Ytfklkepodpcdgaa
open Go.ChangeShapes Go.WideShapes Go.ChangeAt Go.RowKit Go.Joins
set_option linter.unusedVariables false
set_option linter.unusedSimpArgs false

section
variable (L wb : Nat) (T : TypeId) (xs : List Value) (pd : Nat → Prop) (fb : Nat) (sv : Value) (x : Wr) (w : World)

set_option maxHeartbeats 4000000 in
set_option maxRecDepth 100000 in
theorem c_pack (hT : WT T) (hx : x.Go) (hL : L ≤ w.heap.size) (n : Nat) (hn : n ≤ x.b.length) (hn2 : n ≤ 32000) (h : WS L wb T xs pd fb sv x w) : Calls Try.prog 181 #[.pointer (some ⟨wb, 0, none⟩), .int .i64 (n : Int)] w fun e w' => e = .returned (.string (packS x.k.o (str (x.b.take n)))) ∧ Below L w w' ∧ WCalm pd w w' ∧ ∃ v', WS L wb T xs pd fb v' (x.cut n) w' := by
  obtain ⟨v1, hs1, ho1⟩ := h.row.take (P := Try.prog) Try.underlying128 Try.info_u8o n hn
  obtain ⟨v2, hs2, ho2, hb2⟩ := h.row.drop (P := Try.prog) Try.underlying128 Try.info_u8o n hn
  obtain ⟨A1, c1, rfl⟩ := ho1.sl
  obtain ⟨A2, c2, rfl⟩ := ho2.sl
  have hlt : (x.b.take n).length = n := by rw [List.length_take]; omega
  have hord : orderOk x.k.o = true := by
    rcases (setOk_iff.1 hx.ok.set).1 with h1 | h1 <;> rw [h1] <;> rfl
  have hbt : (x.b.take n).all isBit = true := by
    have h1 := hx.bit
    rw [List.all_eq_true] at h1 ⊢
    exact fun b hb => h1 b (List.mem_of_mem_take hb)
  have HPk := hid (fun (u : World) => c_PackBits_yes x.k.o (str (x.b.take n)) u (by rw [str_size, hlt]; unfold maxLen; omega) (by simp [packOk, hord, bitsOk, str_size, str_list, hlt, hbt]; omega))
  obtain ⟨S, hS⟩ : ∃ S, S = packS x.k.o (str (x.b.take n)) := ⟨_, rfl⟩
  rw [← hS]
  simp only [← hS] at HPk
  obtain ⟨b1, hb1⟩ : ∃ b1, b1 = x.b.take n := ⟨_, rfl⟩
  rw [← hb1] at HPk ho1 hs1 hlt
  rw [hlt] at ho1 hs1
  obtain ⟨m2, hm2⟩ : ∃ m2, m2 = (x.b.drop n).length := ⟨_, rfl⟩
  rw [← hm2] at ho2 hs2 hb2
  have HLt := hid hlt
  have H := hid h
  have HV := hid ho1
  have HT := hid hT
  have HO2 := hid ho2
  have HB2 := hid hb2
  have hfd := fld_order x.k.o x.k.l x.k.m
  have hS0 : w.cell? ⟨wb, 2, none⟩ = some sv ∧ True := ⟨h.c2, trivial⟩
  clear h hx hT ho1 ho2 hb2 hord hbt hS hb1 hm2 hlt
  go_enter Try.func181, Try.ntmps181
  go_wp2_with fail
  have H2 := hid (H.out.on (bel_drew (Below.refl _ w)))
  replace HV := hid (HV.out.on (bel_drew (Below.refl _ w)))
  have hbel : Below w.heap.size w w.drew := bel_drew (Below.refl _ w)
  refine wp_region_noPanic ?_
  refine wp_region_held_drew (S := (fun v => v.cell? ⟨wb, 2, none⟩ = some (sv) ∧ True)) (by kernel_rfl) (t1_drew hS0) (fun hHeld => ?_)
  refine tk 0 ?_
  refine tk 3 ?_
  refine tk 4 ?_
  refine tk 5 ?_
  refine tk 6 ?_
  refine tk 7 ?_
  refine tk 8 ?_
  refine wpAnyH_ready (rs := [1, 9]) (by kernel_rfl) (by simp) ?_
  refine AllReadyH.cons (o := ?or1_1) ?ir1_1 (fun K hK => ?sr1_1) (AllReadyH.cons (o := ?or1_9) ?ir1_9 (fun K hK => ?sr1_9) AllReadyH.nil)
  case ir1_1 => (simp only [List.getElem?_toArray, List.getElem?_cons_succ, List.getElem?_cons_zero]; rfl)
  case ir1_9 => (simp only [List.getElem?_toArray, List.getElem?_cons_succ, List.getElem?_cons_zero]; rfl)
  case' sr1_1 =>
    (go_simp; (go_at_call 154; refine (c_wset L wb T xs pd fb sv x _ H2.out).mono ?_; rintro e wQ ⟨rfl, hbQ⟩; replace H2 := hid (H2.out.on hbQ); replace HV := hid (HV.out.on hbQ); replace hbel := bel_trans hbel hbQ; clear hbQ))
    refine hK.out _ _ ?kr1_1 (fun hHeld => ?_)
    case kr1_1 => (try dsimp only); (first | with_reducible assumption | with_reducible exact ⟨H2.out.c2, trivial⟩ | exact t1_bel (by assumption) (by assumption) | assumption | exact t1_alloc (by assumption) _ | exact ⟨H2.out.c2, trivial⟩)
    clear hK K
    try simp only [Act.put, List.setIfInBounds_toArray, List.set_cons_zero, List.set_cons_succ]
    refine tk 2 ?_
    refine wpAnyH_ready (rs := [9]) (by kernel_rfl) (by simp) ?_
    refine AllReadyH.cons (o := ?or1b1_9) ?ir1b1_9 (fun K hK => ?sr1b1_9) AllReadyH.nil
    case ir1b1_9 => (simp only [List.getElem?_toArray, List.getElem?_cons_succ, List.getElem?_cons_zero]; rfl)
    ((have hcv := HV.out.run_str (P := Try.prog) Try.underlying128 Try.underlying5 Try.underlying9; go_simp))
    refine hK.out _ _ ?kr1b1_9 (fun hHeld => ?_)
    case kr1b1_9 => (try dsimp only); (first | with_reducible assumption | with_reducible exact ⟨H2.out.c2, trivial⟩ | exact t1_bel (by assumption) (by assumption) | assumption | exact t1_alloc (by assumption) _ | exact ⟨H2.out.c2, trivial⟩)
    clear hK K
    try simp only [Act.put, List.setIfInBounds_toArray, List.set_cons_zero, List.set_cons_succ]
    refine wpAnyH_ready (rs := [10]) (by kernel_rfl) (by simp) ?_
    refine AllReadyH.cons (o := ?or1b1_10) ?ir1b1_10 (fun K hK => ?sr1b1_10) AllReadyH.nil
    case ir1b1_10 => (simp only [List.getElem?_toArray, List.getElem?_cons_succ, List.getElem?_cons_zero]; rfl)
    (go_simp; (go_at_call 208; refine (HPk.out _).mono ?_; rintro e wQ ⟨rfl, hbQ⟩; replace H2 := hid (H2.out.on hbQ); replace HV := hid (HV.out.on hbQ); replace hbel := bel_trans hbel hbQ; clear hbQ))
    refine hK.out _ _ ?kr1b1_10 (fun hHeld => ?_)
    case kr1b1_10 => (try dsimp only); (first | with_reducible assumption | with_reducible exact ⟨H2.out.c2, trivial⟩ | exact t1_bel (by assumption) (by assumption) | assumption | exact t1_alloc (by assumption) _ | exact ⟨H2.out.c2, trivial⟩)
    clear hK K
    try simp only [Act.put, List.setIfInBounds_toArray, List.set_cons_zero, List.set_cons_succ]
    refine tk 11 ?_
    refine tk 12 ?_
    refine tk 13 ?_
    refine tk 14 ?_
    refine tk 15 ?_
    refine wpAnyH_done (by kernel_rfl) ?_ _
    refine NoPanic.normal ?_
  case' sr1_9 =>
    ((have hcv := HV.out.run_str (P := Try.prog) Try.underlying128 Try.underlying5 Try.underlying9; go_simp))
    refine hK.out _ _ ?kr1_9 (fun hHeld => ?_)
    case kr1_9 => (try dsimp only); (first | with_reducible assumption | with_reducible exact ⟨H2.out.c2, trivial⟩ | exact t1_bel (by assumption) (by assumption) | assumption | exact t1_alloc (by assumption) _ | exact ⟨H2.out.c2, trivial⟩)
    clear hK K
    try simp only [Act.put, List.setIfInBounds_toArray, List.set_cons_zero, List.set_cons_succ]
    refine wpAnyH_ready (rs := [1]) (by kernel_rfl) (by simp) ?_
    refine AllReadyH.cons (o := ?or1b2_1) ?ir1b2_1 (fun K hK => ?sr1b2_1) AllReadyH.nil
    case ir1b2_1 => (simp only [List.getElem?_toArray, List.getElem?_cons_succ, List.getElem?_cons_zero]; rfl)
    (go_simp; (go_at_call 154; refine (c_wset L wb T xs pd fb sv x _ H2.out).mono ?_; rintro e wQ ⟨rfl, hbQ⟩; replace H2 := hid (H2.out.on hbQ); replace HV := hid (HV.out.on hbQ); replace hbel := bel_trans hbel hbQ; clear hbQ))
    refine hK.out _ _ ?kr1b2_1 (fun hHeld => ?_)
    case kr1b2_1 => (try dsimp only); (first | with_reducible assumption | with_reducible exact ⟨H2.out.c2, trivial⟩ | exact t1_bel (by assumption) (by assumption) | assumption | exact t1_alloc (by assumption) _ | exact ⟨H2.out.c2, trivial⟩)
    clear hK K
    try simp only [Act.put, List.setIfInBounds_toArray, List.set_cons_zero, List.set_cons_succ]
    refine tk 2 ?_
    refine wpAnyH_ready (rs := [10]) (by kernel_rfl) (by simp) ?_
    refine AllReadyH.cons (o := ?or1b2_10) ?ir1b2_10 (fun K hK => ?sr1b2_10) AllReadyH.nil
    case ir1b2_10 => (simp only [List.getElem?_toArray, List.getElem?_cons_succ, List.getElem?_cons_zero]; rfl)
    (go_simp; (go_at_call 208; refine (HPk.out _).mono ?_; rintro e wQ ⟨rfl, hbQ⟩; replace H2 := hid (H2.out.on hbQ); replace HV := hid (HV.out.on hbQ); replace hbel := bel_trans hbel hbQ; clear hbQ))
    refine hK.out _ _ ?kr1b2_10 (fun hHeld => ?_)
    case kr1b2_10 => (try dsimp only); (first | with_reducible assumption | with_reducible exact ⟨H2.out.c2, trivial⟩ | exact t1_bel (by assumption) (by assumption) | assumption | exact t1_alloc (by assumption) _ | exact ⟨H2.out.c2, trivial⟩)
    clear hK K
    try simp only [Act.put, List.setIfInBounds_toArray, List.set_cons_zero, List.set_cons_succ]
    refine tk 11 ?_
    refine tk 12 ?_
    refine tk 13 ?_
    refine tk 14 ?_
    refine tk 15 ?_
    refine wpAnyH_done (by kernel_rfl) ?_ _
    refine NoPanic.normal ?_
  all_goals
    have p2 := H2.out.c2
    have f2 := H2.out.f 2
    go_wp2
    go_ret
    exact ⟨rfl, (hbel.mono hL).setCell (p := ⟨wb, 2, none⟩) H2.out.lb _, ((WCalm.refl pd w).on hbel).trans (WCalm.store pd H2.out.bx HT.out 2 _), _, H2.out.at_ HT.out 2 _ (.slice A2 m2 c2) (x.cut n) rfl (HO2.out.on hbel) (fun g hg => H2.out.ap g (HB2.out g hg)) (by simp [Wr.cut])⟩

set_option maxHeartbeats 4000000 in
set_option maxRecDepth 100000 in
theorem c_wclose (hT : WT T) (hx : x.Go) (hL : L ≤ w.heap.size) (hbl : x.b.length ≤ 60000) (hpl : x.p.length ≤ 2500) (h : WS L wb T xs pd fb sv x w) : Calls Try.prog 182 #[.pointer (some ⟨wb, 0, none⟩)] w fun e w' => e = .returned (.tuple #[]) ∧ Below L w w' ∧ WCalm pd w w' ∧ ∃ v', WS L wb T xs pd fb v' x.close w' := by
  obtain ⟨a1, a2, a3, a4, a5, a6, a7, a8⟩ := hx.start
  obtain ⟨y, hy⟩ : ∃ y, y = x.start := ⟨_, rfl⟩
  rw [← hy] at a1 a2 a3 a4 a5 a6 a7 a8
  obtain ⟨b1, b2, b3, b4, b5, b6, b7, b8⟩ := a1.last
  have HC := hid (show x.close = y.last.put (y.last.k.c + 1) by unfold Wr.close; rw [← hy])
  have HY := hid hy
  have hset := b1.ok.set
  have hce : y.last.k.c = pow2 y.last.k.l := rfl
  have HEn := hid (fun (u : World) => c_EndCode_yes y.last.k.o y.last.k.l y.last.k.m u hset)
  obtain ⟨C, hC⟩ : ∃ C, C = pow2 y.last.k.l := ⟨_, rfl⟩
  have HCq := hid (show y.last.k.c = C from hC.symm)
  simp only [← hC] at HEn
  have H := hid h
  have HT := hid hT
  have HX := hid hx
  have HG := hid a1
  have HL1 := hid b1
  have hyp : y.p.length ≤ 2500 := by rw [a2]; exact hpl
  have HPe := hid b2
  clear h hT hx hset hce hC hy a1 a2 a3 a4 a5 a6 a7 b1 b2 b3 b4 b5 b6 b7
  go_enter Try.func182, Try.ntmps182
  go_wp2_with fail
  refine (c_begin L wb T xs pd fb sv x _ HT.out HX.out hL (by omega) H.out).mono ?_
  rintro e w1 ⟨rfl, hb1, hc1, v1, h1⟩
  rw [← HY.out] at h1
  have HB1 := hid hb1
  have HC1 := hid hc1
  have H1 := hid h1
  have p1 : w1.cell? ⟨wb, 1, none⟩ = some (.string (str y.p)) := H1.out.c1
  have p0 := H1.out.c0
  clear hb1 hc1 h1
  by_cases hp : y.p = []
  · have hs0 : (str y.p) = ByteArray.empty := by rw [hp]; rfl
    rw [hs0] at p1
    have HLa := hid (show y.last = y by unfold Wr.last; rw [if_pos hp])
    clear hs0 hp p0
    rw [← HLa.out] at H1
    go_wp2_with fail
    refine (c_wset L wb T xs pd fb _ _ _ H1.out).mono ?_
    rintro e wS ⟨rfl, hbS⟩
    have HS1 := hid (H1.out.on hbS)
    have HBS := hid (HB1.out.trans (hbS.mono (Nat.le_trans hL HB1.out.size)))
    have HCS := hid (HC1.out.on hbS)
    clear hbS H1 HB1 HC1 p1
    go_wp2_with fail
    refine (HEn.out _).mono ?_
    rintro e wE ⟨rfl, hbE⟩
    have HE1 := hid (HS1.out.on hbE)
    have HBE := hid (HBS.out.trans (hbE.mono (Nat.le_trans hL HBS.out.size)))
    have HCE := hid (HCS.out.on hbE)
    clear hbE HS1 HBS HCS
    go_wp2_with fail
    refine (c_put L wb T xs pd fb _ _ _ HT.out HL1.out (Nat.le_trans hL HBE.out.size) (by omega) HE1.out (C + 1) (Or.inr (Or.inl (by rw [HCq.out])))).mono ?_
    rintro e wP ⟨rfl, hbP, hcP, vP, hP⟩
    rw [← HCq.out, ← HC.out] at hP
    have HP := hid hP
    have HBP := hid (HBE.out.trans hbP)
    have HCP := hid (HCE.out.trans hcP)
    clear hP hbP hcP HE1 HBE HCE
    go_wp2
    go_end0
    exact ⟨rfl, HBP.out, HCP.out, vP, HP.out⟩
  · have hy0 : 0 < y.p.length := List.length_pos_iff.2 hp
    have he := not_empty (D := str y.p) (by rw [str_size]; omega)
    obtain ⟨c1, c2, c3, c4⟩ := HG.out.ok.code1 hp HG.out.lit
    have HFo := hid c1
    have HLa := hid (show y.last = { y.put (y.k.code1 y.p) with p := [] } by unfold Wr.last; rw [if_neg hp])
    have HLo := hid (fun (u : World) (hF : FAt L fb y.k u) => c_flongest L fb y.k (str y.p) u HG.out.ok hF (by rw [str_size]; exact hy0) (by rw [str_size]; omega) (str_first HG.out.lit (by rw [str_size]; exact hy0)))
    obtain ⟨S, hS⟩ : ∃ S, S = str y.p := ⟨_, rfl⟩
    obtain ⟨code, hcode⟩ : ∃ code, code = y.k.code1 y.p := ⟨_, rfl⟩
    obtain ⟨g, hg⟩ : ∃ g, g = y.k.lng y.p := ⟨_, rfl⟩
    simp only [str_list, ← hg, ← hcode] at HLo
    simp only [← hS] at HLo
    rw [← hcode] at HFo HLa
    rw [← hS] at he p1
    have HSe := hid hS
    clear hS
    have hS : w1.cell? ⟨wb, 0, none⟩ = some (.pointer (some ⟨fb, 0, none⟩)) ∧ w1.cell? ⟨wb, 1, none⟩ = some (.string S) ∧ True := ⟨p0, p1, trivial⟩
    clear c1 c2 c3 c4 hp hy0 hcode hg
    go_wp2_with fail
    clear p0 p1
    have H2 := hid (H1.out.on (bel_drew (Below.refl _ w1)))
    have HB2 := hid (HB1.out.drew)
    have HC2 := hid (HC1.out.on (bel_drew (Below.refl _ w1)))
    clear H1 HB1 HC1
    refine wp_region_noPanic ?_
    refine wp_region_held_drew (S := (fun v => v.cell? ⟨wb, 0, none⟩ = some (.pointer (some ⟨fb, 0, none⟩)) ∧ v.cell? ⟨wb, 1, none⟩ = some (.string S) ∧ True)) (by kernel_rfl) (t2_drew hS) (fun hHeld => ?_)
    refine tk 0 ?_
    refine tk 1 ?_
    refine tk 2 ?_
    refine tk 3 ?_
    refine tk 4 ?_
    refine tk 5 ?_
    refine tk 6 ?_
    refine tk 7 ?_
    refine wpAnyH_ready (rs := [8]) (by kernel_rfl) (by simp) ?_
    refine AllReadyH.cons (o := ?or2_8) ?ir2_8 (fun K hK => ?sr2_8) AllReadyH.nil
    case ir2_8 => (simp only [List.getElem?_toArray, List.getElem?_cons_succ, List.getElem?_cons_zero]; rfl)
    (go_simp; (go_at_call 146; refine (HLo.out _ H2.out.fa).mono ?_; rintro e wQ ⟨rfl, hbQ⟩; replace H2 := hid (H2.out.on hbQ); replace HB2 := hid (HB2.out.trans (hbQ.mono (Nat.le_trans hL HB2.out.size))); replace HC2 := hid (HC2.out.on hbQ); have t2 : wQ.cell? ⟨wb, 0, none⟩ = some (.pointer (some ⟨fb, 0, none⟩)) ∧ wQ.cell? ⟨wb, 1, none⟩ = some (.string S) ∧ True := ⟨H2.out.c0, by rw [HSe.out]; exact H2.out.c1, trivial⟩))
    refine hK.out _ _ ?kr2_8 (fun hHeld => ?_)
    case kr2_8 => (try dsimp only); (first | with_reducible assumption | with_reducible exact t2 | exact t2_bel (by assumption) (by assumption) | assumption | exact t2_alloc (by assumption) _ | exact t2)
    clear hK K
    try simp only [Act.put, List.setIfInBounds_toArray, List.set_cons_zero, List.set_cons_succ]
    refine tk 9 ?_
    refine tk 10 ?_
    refine tk 11 ?_
    refine tk 12 ?_
    refine tk 13 ?_
    refine wpAnyH_done (by kernel_rfl) ?_ _
    refine NoPanic.normal ?_
    clear hHeld t2 hbQ hS HLo
    go_wp2_with fail
    refine (c_put L wb T xs pd fb _ _ _ HT.out HG.out (Nat.le_trans hL HB2.out.size) (by omega) H2.out code (Or.inr (Or.inr HFo.out))).mono ?_
    rintro e w5 ⟨rfl, hb5, hc5, v5, h5⟩
    have HB5 := hid (HB2.out.trans hb5)
    have HC5 := hid (HC2.out.trans hc5)
    have H5 := hid h5
    have r1 := H5.out.c1
    have f1 := H5.out.f 1
    have r0 := H5.out.c0
    clear hb5 hc5 h5 H2 HB2 HC2
    go_wp2_with fail
    have H6 := hid (show WS L wb T xs pd fb v5 y.last (w5.setCell ⟨wb, 1, none⟩ (.string (ByteArray.mk #[]))) from H5.out.at_ HT.out 1 _ v5 y.last (by rw [HLa.out]) (by rw [HLa.out]; exact H5.out.row) H5.out.ap (by rw [HLa.out]; simp; rfl))
    have HB6 := hid (HB5.out.setCell (p := ⟨wb, 1, none⟩) H5.out.lb (.string (ByteArray.mk #[])))
    have HC6 := hid (HC5.out.trans (WCalm.store pd H5.out.bx HT.out 1 (.string (ByteArray.mk #[]))))
    obtain ⟨W6, hW6⟩ : ∃ W6, W6 = w5.setCell ⟨wb, 1, none⟩ (.string (ByteArray.mk #[])) := ⟨_, rfl⟩
    rw [← hW6] at H6 HB6 HC6 ⊢
    clear hW6 H5 HB5 HC5 r0 r1 f1
    refine (c_wset L wb T xs pd fb _ _ _ H6.out).mono ?_
    rintro e wS ⟨rfl, hbS⟩
    have HS1 := hid (H6.out.on hbS)
    have HBS := hid (HB6.out.trans (hbS.mono (Nat.le_trans hL HB6.out.size)))
    have HCS := hid (HC6.out.on hbS)
    clear hbS H6 HB6 HC6
    go_wp2_with fail
    refine (HEn.out _).mono ?_
    rintro e wE ⟨rfl, hbE⟩
    have HE1 := hid (HS1.out.on hbE)
    have HBE := hid (HBS.out.trans (hbE.mono (Nat.le_trans hL HBS.out.size)))
    have HCE := hid (HCS.out.on hbE)
    clear hbE HS1 HBS HCS
    go_wp2_with fail
    refine (c_put L wb T xs pd fb _ _ _ HT.out HL1.out (Nat.le_trans hL HBE.out.size) (by omega) HE1.out (C + 1) (Or.inr (Or.inl (by rw [HCq.out])))).mono ?_
    rintro e wP ⟨rfl, hbP, hcP, vP, hP⟩
    rw [← HCq.out, ← HC.out] at hP
    have HP := hid hP
    have HBP := hid (HBE.out.trans hbP)
    have HCP := hid (HCE.out.trans hcP)
    clear hP hbP hcP HE1 HBE HCE
    go_wp2
    go_end0
    exact ⟨rfl, HBP.out, HCP.out, vP, HP.out⟩
end
end Go.Proofs.Ytfklkepodpcdgaa
