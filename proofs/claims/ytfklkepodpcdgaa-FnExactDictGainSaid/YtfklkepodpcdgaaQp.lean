/- The contracts of a writer's setting, put and begin. No condition but that the writer is one at work. -/
import Derived.Test.YtfklkepodpcdgaaQn
import Derived.Test.YtfklkepodpcdgaaQm
import Derived.Test.YtfklkepodpcdgaaGo
namespace Go.Proofs.Ytfklkepodpcdgaa
open Go.ChangeShapes Go.WideShapes Go.ChangeAt Go.RowKit Go.Joins
set_option linter.unusedVariables false
set_option linter.unusedSimpArgs false

section
variable (L wb : Nat) (T : TypeId) (xs : List Value) (pd : Nat → Prop) (fb : Nat) (sv : Value) (x : Wr) (w : World)

theorem c_wset (h : WS L wb T xs pd fb sv x w) : Calls Try.prog 154 #[.pointer (some ⟨wb, 0, none⟩)] w fun e w' => e = .returned (.agg #[.int .i64 x.k.o, .int .i64 x.k.l, .int .i64 x.k.m]) ∧ Below w.heap.size w w' := by
  obtain ⟨A', cap, hk⟩ := h.fa.kat
  obtain ⟨hb, r0, r1, r2, r3, r4, r5⟩ := hk
  have p0 := cell_al h.c0 (.cells #[.int .i64 0, .int .i64 0, .int .i64 0] 52)
  have q0 := cell_al r0 (.cells #[.int .i64 0, .int .i64 0, .int .i64 0] 52)
  have q1 := cell_al r1 (.cells #[.int .i64 0, .int .i64 0, .int .i64 0] 52)
  have q2 := cell_al r2 (.cells #[.int .i64 0, .int .i64 0, .int .i64 0] 52)
  clear r0 r1 r2 r3 r4 r5 hb h
  go_enter Try.func154, Try.ntmps154
  go_wp2
  exact bodyPost_ret (v := .agg #[.int .i64 x.k.o, .int .i64 x.k.l, .int .i64 x.k.m]) (by simp [results, Try.results154, go_sem]) rfl ⟨rfl, by (repeat (first | with_reducible (first | assumption | exact Below.refl _ _ | refine bel_alloc ?_ _ | refine bel_drew ?_ | refine bel_drewN ?_ _ | refine bel_set ?_ (by first | omega | (simp; done) | (simp; omega)) _ | refine bel_trans ?_ (by assumption)) | assumption | refine bel_trans ?_ (by assumption)))⟩

theorem fld_order (o l m : Int) : ∀ w : World, (Instr.field 52 (.agg #[.int .i64 o, .int .i64 l, .int .i64 m]) 0).run Try.prog w = .ok (.int .i64 o) w := fun _ => by kernel_rfl

set_option maxHeartbeats 4000000 in
set_option maxRecDepth 100000 in
theorem c_put (hT : WT T) (hx : x.Go) (hL : L ≤ w.heap.size) (hbl : x.b.length ≤ 100000) (h : WS L wb T xs pd fb sv x w) (code : Int) (hc : code = x.k.c ∨ code = x.k.c + 1 ∨ x.k.Fol code) : Calls Try.prog 207 #[.pointer (some ⟨wb, 0, none⟩), .int .i64 code] w fun e w' => e = .returned (.tuple #[]) ∧ Below L w w' ∧ WCalm pd w w' ∧ ∃ v', WS L wb T xs pd fb v' (x.put code) w' := by
  have hset := hx.ok.set
  have hord : x.k.o = 0 ∨ x.k.o = 1 := (setOk_iff.1 hset).1
  have hcb := hx.ok.cbd
  have hg := hx.ok.great_bd
  have hcd : 0 ≤ code ∧ code ≤ 1023 := by
    rcases hc with h1 | h1 | h1
    · omega
    · omega
    · have := (hx.ok.fol_iff code).1 h1; omega
  have hwd := hx.ok.width_bd
  have HEn := hid (fun (u : World) => c_EndCode_yes x.k.o x.k.l x.k.m u hset)
  have hce : x.k.c = pow2 x.k.l := rfl
  obtain ⟨C, hC⟩ : ∃ C, C = pow2 x.k.l := ⟨_, rfl⟩
  have HC := hid (show x.k.c = C from hC.symm)
  simp only [← hC] at HEn
  have H := hid h
  have HDl := hid (dl_codeBits x.k.o code x.k.width hord hcd.1)
  have HX := hid hx
  have HCo := hid hc
  have HT := hid hT
  have HW := hid (fun (u : World) (hk : WS L wb T xs pd fb sv x u) => by
    obtain ⟨A', cap, hk2⟩ := hk.fa.kat
    exact c_width fb x.k A' cap u hx.ok hk2)
  have hfd := fld_order x.k.o x.k.l x.k.m
  clear h hx hset hord hcb hg hce hC hc hT
  go_enter Try.func207, Try.ntmps207
  go_wp2_with fail
  refine (c_wset L wb T xs pd fb sv x _ H.out).mono ?_
  rintro e w1 ⟨rfl, hb1⟩
  have H1 := hid (H.out.on hb1)
  have hL1 : L ≤ w1.heap.size := Nat.le_trans hL hb1.size
  have hS : w1.cell? ⟨wb, 0, none⟩ = some (.pointer (some ⟨fb, 0, none⟩)) ∧ True := ⟨H1.out.c0, trivial⟩
  have hbel : Below w.heap.size w w1.drew := bel_drew hb1
  go_wp2_with fail
  have H2 := hid (H1.out.on (bel_drew (Below.refl _ w1)))
  have hL2 : L ≤ w1.drew.heap.size := hL1
  refine wp_region_noPanic ?_
  refine wp_region_held_drew (S := (fun v => v.cell? ⟨wb, 0, none⟩ = some (.pointer (some ⟨fb, 0, none⟩)) ∧ True)) (by kernel_rfl) (t1_drew hS) (fun hHeld => ?_)
  refine tk 0 ?_
  refine tk 1 ?_
  refine tk 2 ?_
  refine tk 3 ?_
  refine tk 4 ?_
  refine tk 6 ?_
  refine tk 7 ?_
  refine tk 8 ?_
  refine tk 9 ?_
  refine tk 10 ?_
  refine tk 11 ?_
  refine tk 12 ?_
  refine wpAnyH_ready (rs := [5, 13]) (by kernel_rfl) (by simp) ?_
  refine AllReadyH.cons (o := ?or1_5) ?ir1_5 (fun K hK => ?sr1_5) (AllReadyH.cons (o := ?or1_13) ?ir1_13 (fun K hK => ?sr1_13) AllReadyH.nil)
  case ir1_5 => (simp only [List.getElem?_toArray, List.getElem?_cons_succ, List.getElem?_cons_zero]; rfl)
  case ir1_13 => (simp only [List.getElem?_toArray, List.getElem?_cons_succ, List.getElem?_cons_zero]; rfl)
  case' sr1_5 =>
    ((have c5 := H2.out.c2; go_simp))
    refine hK.out _ _ ?kr1_5 (fun hHeld => ?_)
    case kr1_5 => (try dsimp only); (first | with_reducible assumption | with_reducible exact ⟨HR.out.1.c0, trivial⟩ | with_reducible exact ⟨H9.out.1, trivial⟩ | with_reducible exact ⟨H2.out.c0, trivial⟩ | exact t1_bel (by assumption) (by assumption) | assumption | exact t1_alloc (by assumption) _ | exact ⟨HR.out.1.c0, trivial⟩ | exact ⟨H9.out.1, trivial⟩ | exact ⟨H2.out.c0, trivial⟩)
    clear hK K
    try simp only [Act.put, List.setIfInBounds_toArray, List.set_cons_zero, List.set_cons_succ]
    refine wpAnyH_ready (rs := [13]) (by kernel_rfl) (by simp) ?_
    refine AllReadyH.cons (o := ?or1b1_13) ?ir1b1_13 (fun K hK => ?sr1b1_13) AllReadyH.nil
    case ir1b1_13 => (simp only [List.getElem?_toArray, List.getElem?_cons_succ, List.getElem?_cons_zero]; rfl)
    (go_simp; (go_at_call 119; refine (HW.out _ H2.out).mono ?_; rintro e wQ ⟨rfl, hbQ⟩; replace H2 := hid (H2.out.on hbQ); replace hL2 := Nat.le_trans hL2 hbQ.size; replace hbel := bel_trans hbel hbQ))
    refine hK.out _ _ ?kr1b1_13 (fun hHeld => ?_)
    case kr1b1_13 => (try dsimp only); (first | with_reducible assumption | with_reducible exact ⟨HR.out.1.c0, trivial⟩ | with_reducible exact ⟨H9.out.1, trivial⟩ | with_reducible exact ⟨H2.out.c0, trivial⟩ | exact t1_bel (by assumption) (by assumption) | assumption | exact t1_alloc (by assumption) _ | exact ⟨HR.out.1.c0, trivial⟩ | exact ⟨H9.out.1, trivial⟩ | exact ⟨H2.out.c0, trivial⟩)
    clear hK K
    try simp only [Act.put, List.setIfInBounds_toArray, List.set_cons_zero, List.set_cons_succ]
    refine wpAnyH_ready (rs := [14]) (by kernel_rfl) (by simp) ?_
    refine AllReadyH.cons (o := ?or1b1_14) ?ir1b1_14 (fun K hK => ?sr1b1_14) AllReadyH.nil
    case ir1b1_14 => (simp only [List.getElem?_toArray, List.getElem?_cons_succ, List.getElem?_cons_zero]; rfl)
    (go_simp; (go_at_call 215; refine (c_appendNumberO x.k.o code x.k.width L sv x.b _ hcd.1 (by omega) (by omega) (by omega) hbl hL2 H2.out.row).mono ?_; rintro e w9 ⟨v9, rfl, ho9, hg9, ha9⟩; obtain ⟨b9, hb9⟩ : ∃ b9, b9 = x.b ++ dl x.k.o code x.k.width x.k.width.toNat := ⟨_, rfl⟩; rw [← hb9] at ho9; have HB9 := hid hb9; clear hb9; obtain ⟨A9, c9, rfl⟩ := ho9.sl; have H9 := hid (H2.out.gr2 HT.out hg9); have HR := hid (H2.out.app HT.out hL2 ho9 hg9 ha9); have f9 := (H2.out.gr HT.out hg9).frozen 2; have q9 := H9.out.2.1))
    refine hK.out _ _ ?kr1b1_14 (fun hHeld => ?_)
    case kr1b1_14 => (try dsimp only); (first | with_reducible assumption | with_reducible exact ⟨HR.out.1.c0, trivial⟩ | with_reducible exact ⟨H9.out.1, trivial⟩ | with_reducible exact ⟨H2.out.c0, trivial⟩ | exact t1_bel (by assumption) (by assumption) | assumption | exact t1_alloc (by assumption) _ | exact ⟨HR.out.1.c0, trivial⟩ | exact ⟨H9.out.1, trivial⟩ | exact ⟨H2.out.c0, trivial⟩)
    clear hK K
    try simp only [Act.put, List.setIfInBounds_toArray, List.set_cons_zero, List.set_cons_succ]
    refine tk 15 ?_
    refine tk 16 ?_
    refine wpAnyH_ready (rs := [17]) (by kernel_rfl) (by simp) ?_
    refine AllReadyH.cons (o := ?or1b1_17) ?ir1b1_17 (fun K hK => ?sr1b1_17) AllReadyH.nil
    case ir1b1_17 => (simp only [List.getElem?_toArray, List.getElem?_cons_succ, List.getElem?_cons_zero]; rfl)
    (go_simp; (skip))
    refine hK.out _ _ ?kr1b1_17 (fun hHeld => ?_)
    case kr1b1_17 => (try dsimp only); (first | with_reducible assumption | with_reducible exact ⟨HR.out.1.c0, trivial⟩ | with_reducible exact ⟨H9.out.1, trivial⟩ | with_reducible exact ⟨H2.out.c0, trivial⟩ | exact t1_bel (by assumption) (by assumption) | assumption | exact t1_alloc (by assumption) _ | exact ⟨HR.out.1.c0, trivial⟩ | exact ⟨H9.out.1, trivial⟩ | exact ⟨H2.out.c0, trivial⟩)
    clear hK K
    try simp only [Act.put, List.setIfInBounds_toArray, List.set_cons_zero, List.set_cons_succ]
    refine wpAnyH_done (by kernel_rfl) ?_ _
    refine NoPanic.normal ?_
  case' sr1_13 =>
    (go_simp; (go_at_call 119; refine (HW.out _ H2.out).mono ?_; rintro e wQ ⟨rfl, hbQ⟩; replace H2 := hid (H2.out.on hbQ); replace hL2 := Nat.le_trans hL2 hbQ.size; replace hbel := bel_trans hbel hbQ))
    refine hK.out _ _ ?kr1_13 (fun hHeld => ?_)
    case kr1_13 => (try dsimp only); (first | with_reducible assumption | with_reducible exact ⟨HR.out.1.c0, trivial⟩ | with_reducible exact ⟨H9.out.1, trivial⟩ | with_reducible exact ⟨H2.out.c0, trivial⟩ | exact t1_bel (by assumption) (by assumption) | assumption | exact t1_alloc (by assumption) _ | exact ⟨HR.out.1.c0, trivial⟩ | exact ⟨H9.out.1, trivial⟩ | exact ⟨H2.out.c0, trivial⟩)
    clear hK K
    try simp only [Act.put, List.setIfInBounds_toArray, List.set_cons_zero, List.set_cons_succ]
    refine wpAnyH_ready (rs := [5]) (by kernel_rfl) (by simp) ?_
    refine AllReadyH.cons (o := ?or1b2_5) ?ir1b2_5 (fun K hK => ?sr1b2_5) AllReadyH.nil
    case ir1b2_5 => (simp only [List.getElem?_toArray, List.getElem?_cons_succ, List.getElem?_cons_zero]; rfl)
    ((have c5 := H2.out.c2; go_simp))
    refine hK.out _ _ ?kr1b2_5 (fun hHeld => ?_)
    case kr1b2_5 => (try dsimp only); (first | with_reducible assumption | with_reducible exact ⟨HR.out.1.c0, trivial⟩ | with_reducible exact ⟨H9.out.1, trivial⟩ | with_reducible exact ⟨H2.out.c0, trivial⟩ | exact t1_bel (by assumption) (by assumption) | assumption | exact t1_alloc (by assumption) _ | exact ⟨HR.out.1.c0, trivial⟩ | exact ⟨H9.out.1, trivial⟩ | exact ⟨H2.out.c0, trivial⟩)
    clear hK K
    try simp only [Act.put, List.setIfInBounds_toArray, List.set_cons_zero, List.set_cons_succ]
    refine wpAnyH_ready (rs := [14]) (by kernel_rfl) (by simp) ?_
    refine AllReadyH.cons (o := ?or1b2_14) ?ir1b2_14 (fun K hK => ?sr1b2_14) AllReadyH.nil
    case ir1b2_14 => (simp only [List.getElem?_toArray, List.getElem?_cons_succ, List.getElem?_cons_zero]; rfl)
    (go_simp; (go_at_call 215; refine (c_appendNumberO x.k.o code x.k.width L sv x.b _ hcd.1 (by omega) (by omega) (by omega) hbl hL2 H2.out.row).mono ?_; rintro e w9 ⟨v9, rfl, ho9, hg9, ha9⟩; obtain ⟨b9, hb9⟩ : ∃ b9, b9 = x.b ++ dl x.k.o code x.k.width x.k.width.toNat := ⟨_, rfl⟩; rw [← hb9] at ho9; have HB9 := hid hb9; clear hb9; obtain ⟨A9, c9, rfl⟩ := ho9.sl; have H9 := hid (H2.out.gr2 HT.out hg9); have HR := hid (H2.out.app HT.out hL2 ho9 hg9 ha9); have f9 := (H2.out.gr HT.out hg9).frozen 2; have q9 := H9.out.2.1))
    refine hK.out _ _ ?kr1b2_14 (fun hHeld => ?_)
    case kr1b2_14 => (try dsimp only); (first | with_reducible assumption | with_reducible exact ⟨HR.out.1.c0, trivial⟩ | with_reducible exact ⟨H9.out.1, trivial⟩ | with_reducible exact ⟨H2.out.c0, trivial⟩ | exact t1_bel (by assumption) (by assumption) | assumption | exact t1_alloc (by assumption) _ | exact ⟨HR.out.1.c0, trivial⟩ | exact ⟨H9.out.1, trivial⟩ | exact ⟨H2.out.c0, trivial⟩)
    clear hK K
    try simp only [Act.put, List.setIfInBounds_toArray, List.set_cons_zero, List.set_cons_succ]
    refine tk 15 ?_
    refine tk 16 ?_
    refine wpAnyH_ready (rs := [17]) (by kernel_rfl) (by simp) ?_
    refine AllReadyH.cons (o := ?or1b2_17) ?ir1b2_17 (fun K hK => ?sr1b2_17) AllReadyH.nil
    case ir1b2_17 => (simp only [List.getElem?_toArray, List.getElem?_cons_succ, List.getElem?_cons_zero]; rfl)
    (go_simp; (skip))
    refine hK.out _ _ ?kr1b2_17 (fun hHeld => ?_)
    case kr1b2_17 => (try dsimp only); (first | with_reducible assumption | with_reducible exact ⟨HR.out.1.c0, trivial⟩ | with_reducible exact ⟨H9.out.1, trivial⟩ | with_reducible exact ⟨H2.out.c0, trivial⟩ | exact t1_bel (by assumption) (by assumption) | assumption | exact t1_alloc (by assumption) _ | exact ⟨HR.out.1.c0, trivial⟩ | exact ⟨H9.out.1, trivial⟩ | exact ⟨H2.out.c0, trivial⟩)
    clear hK K
    try simp only [Act.put, List.setIfInBounds_toArray, List.set_cons_zero, List.set_cons_succ]
    refine wpAnyH_done (by kernel_rfl) ?_ _
    refine NoPanic.normal ?_
  all_goals
    have HB := hid ((hbel.mono hL).trans HR.out.2.2)
    have HCm := hid (((WCalm.refl pd w).on hbel).trans HR.out.2.1)
    have HWS := hid HR.out.1
    obtain ⟨W9, hW9⟩ : ∃ W9, W9 = w9.setCell ⟨wb, 2, none⟩ (.slice A9 b9.length c9) := ⟨_, rfl⟩
    rw [← hW9] at HB HCm HWS ⊢
    have HE9 := hid (show b9 = x.b ++ M.asc (x.k.cb code) by rw [HB9.out, HDl.out]; rfl)
    have pz : W9.cell? ⟨wb, 0, none⟩ = some (.pointer (some ⟨fb, 0, none⟩)) := HWS.out.c0
    clear hW9 HR hbel hHeld f9 q9 H9 ha9 hg9 ho9 HB9 H2 hL2 hbQ HW H1 hL1
    go_wp2_with fail
    refine (c_wset L wb T xs pd fb _ _ _ HWS.out).mono ?_
    rintro e w3 ⟨rfl, hb3⟩
    replace HB := hid (HB.out.trans (hb3.mono (Nat.le_trans hL HB.out.size)))
    replace HCm := hid (HCm.out.on hb3)
    replace HWS := hid (HWS.out.on hb3)
    clear hb3 pz
    go_wp2_with fail
    refine (HEn.out _).mono ?_
    rintro e w4 ⟨rfl, hb4⟩
    replace HB := hid (HB.out.trans (hb4.mono (Nat.le_trans hL HB.out.size)))
    replace HCm := hid (HCm.out.on hb4)
    replace HWS := hid (HWS.out.on hb4)
    clear hb4
    by_cases hce : code = C + 1
    · have he := ne_no hce
      have HP := hid (show x.put code = { x with b := b9 } by
        unfold Wr.put
        rw [if_pos (by rw [HC.out]; exact hce), HE9.out])
      clear hce
      go_wp2
      go_end0
      exact ⟨rfl, HB.out, HCm.out, _, by rw [HP.out]; exact HWS.out⟩
    · have he := ne_yes (a := code) (b := C + 1) (by omega)
      have HP := hid (show x.put code = { x with b := b9, k := x.k.step code } by
        unfold Wr.put
        rw [if_neg (by rw [HC.out]; exact hce), HE9.out])
      have HF := hid (show code = x.k.c ∨ x.k.Fol code from by
        rcases HCo.out with h1 | h1 | h1
        · exact Or.inl h1
        · exact absurd (h1.trans (by rw [HC.out])) hce
        · exact Or.inr h1)
      have pz : w4.cell? ⟨wb, 0, none⟩ = some (.pointer (some ⟨fb, 0, none⟩)) := HWS.out.c0
      clear hce
      go_wp2_with fail
      refine (c_ffollow L fb x.k _ HX.out.ok (Nat.le_trans hL HB.out.size) HWS.out.fa code HF.out).mono ?_
      rintro e w5 ⟨rfl, hb5, hc5, hF5⟩
      go_wp2
      go_end0
      exact ⟨rfl, HB.out.trans hb5, HCm.out.calm hc5, _, by rw [HP.out]; exact HWS.out.calm HT.out hc5 hb5.size hF5⟩

theorem c_begin (hT : WT T) (hx : x.Go) (hL : L ≤ w.heap.size) (hbl : x.b.length ≤ 99000) (h : WS L wb T xs pd fb sv x w) : Calls Try.prog 206 #[.pointer (some ⟨wb, 0, none⟩)] w fun e w' => e = .returned (.tuple #[]) ∧ Below L w w' ∧ WCalm pd w w' ∧ ∃ v', WS L wb T xs pd fb v' x.start w' := by
  by_cases hg : x.g = true
  · have p3 : w.cell? ⟨wb, 3, none⟩ = some (.bool true) := by rw [← hg]; exact h.c3
    have HE := hid (show x.start = x by unfold Wr.start; rw [if_pos hg])
    have H := hid h
    clear h hg
    go_enter Try.func206, Try.ntmps206
    go_wp2
    go_end0
    exact ⟨rfl, Below.refl _ _, WCalm.refl _ _, _, by rw [HE.out]; exact H.out⟩
  · have hg2 : x.g = false := by simpa using hg
    have p3 : w.cell? ⟨wb, 3, none⟩ = some (.bool false) := by rw [← hg2]; exact h.c3
    have HE := hid (show x.start = { x.put x.k.c with g := true } by unfold Wr.start; rw [if_neg hg])
    have H := hid h
    have HX := hid hx
    have HT := hid hT
    have hset := hx.ok.set
    have hce : x.k.c = pow2 x.k.l := rfl
    have HCl := hid (fun (u : World) => c_ClearCode_yes x.k.o x.k.l x.k.m u hset)
    obtain ⟨C, hC⟩ : ∃ C, C = pow2 x.k.l := ⟨_, rfl⟩
    have HC := hid (show x.k.c = C from hC.symm)
    simp only [← hC] at HCl
    clear h hx hT hg hg2 hset hce hC
    go_enter Try.func206, Try.ntmps206
    go_wp2_with fail
    refine (c_wset L wb T xs pd fb sv x _ H.out).mono ?_
    rintro e w1 ⟨rfl, hb1⟩
    have HB := hid (hb1.mono hL)
    have H1 := hid (H.out.on hb1)
    have HCm := hid ((WCalm.refl pd w).on hb1)
    clear hb1 p3
    go_wp2_with fail
    refine (HCl.out _).mono ?_
    rintro e w2 ⟨rfl, hb2⟩
    replace HB := hid (HB.out.trans (hb2.mono (Nat.le_trans hL HB.out.size)))
    replace HCm := hid (HCm.out.on hb2)
    replace H1 := hid (H1.out.on hb2)
    clear hb2
    go_wp2_with fail
    refine (c_put L wb T xs pd fb sv x _ HT.out HX.out (Nat.le_trans hL HB.out.size) (by omega) H1.out C (Or.inl HC.out.symm)).mono ?_
    rintro e w3 ⟨rfl, hb3, hc3, v3, h3⟩
    replace HB := hid (HB.out.trans hb3)
    replace HCm := hid (HCm.out.trans hc3)
    rw [← HC.out] at h3
    have H3 := hid h3
    have p3 : w3.cell? ⟨wb, 3, none⟩ = some (.bool (x.put x.k.c).g) := H3.out.c3
    have f3 := H3.out.f 3
    clear hb3 hc3 h3
    go_wp2
    go_end0
    refine ⟨rfl, HB.out.setCell H3.out.lb (.bool true), HCm.out.trans (WCalm.store pd H3.out.bx HT.out 3 (.bool true)), v3, ?_⟩
    rw [HE.out]
    exact H3.out.at_ HT.out 3 (.bool true) v3 { x.put x.k.c with g := true } rfl H3.out.row H3.out.ap (by simp)
end
end Go.Proofs.Ytfklkepodpcdgaa
