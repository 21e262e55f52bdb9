/- The contracts of a primed writer's compress. No condition but that a string has a length. -/
import Derived.Test.YtfklkepodpcdgaaQa
import Derived.Test.YtfklkepodpcdgaaGc
namespace Go.Proofs.Ytfklkepodpcdgaa
open Go.ChangeShapes Go.WideShapes Go.ChangeAt Go.RowKit Go.Joins
set_option linter.unusedVariables false
set_option linter.unusedSimpArgs false

theorem str_nil_add (D : ByteArray) : str ([] : List UInt8) ++ D = D := by
  rw [str_add, List.nil_append, str_self]

section
variable (L pb : Nat) (xs : List Value) (pd : Nat → Prop) (fb : Nat) (sv : Value) (K : Kn) (w : World)

set_option maxHeartbeats 4000000 in
set_option maxRecDepth 100000 in
theorem c_compress_no (hK : K.Ok) (hKc : K.cleared = K) (hL : L ≤ w.heap.size) (D : ByteArray) (hs : D.size ≤ maxLen) (hf : dataFits K.o K.l K.m D = false) (h : WS L pb 133 xs pd fb sv (Wr.fresh K) w) : Calls Try.prog 106 #[.pointer (some ⟨pb, 0, none⟩), .string D] w fun e w' => e = .returned (.tuple #[.string ByteArray.empty, .bool false]) ∧ Below L w w' ∧ WCalm pd w w' ∧ ∃ v', WS L pb 133 xs pd fb v' (Wr.fresh K) w' := by
  have HTa := hid (fun (W : World) (hW : L ≤ W.heap.size) (h2 : WS L pb 133 xs pd fb sv (Wr.fresh K) W) (s0 : Nat) (hs0 : Blk W s0 9 #[.string D]) => c_takeAll_no L pb xs pd fb sv (Wr.fresh K) W (Wr.fresh_go hK) hW s0 D (by show (str [] ++ D).size ≤ maxLen; rw [str_nil_add]; exact hs) (by show dataFits K.o K.l K.m (str [] ++ D) = false; rw [str_nil_add]; exact hf) h2 hs0)
  obtain ⟨u, hu0⟩ : ∃ u, u = Wr.fresh K := ⟨_, rfl⟩
  have hu : u.Go ∧ u.k.cleared = K ∧ u.p = [] ∧ u.b = [] := by rw [hu0]; exact ⟨Wr.fresh_go hK, hKc, rfl, rfl⟩
  rw [← hu0] at h
  simp only [← hu0] at HTa
  have H := hid h
  clear h hK hKc hs hf
  have HU0 := hid hu0
  clear hu0
  go_enter Try.func106, Try.ntmps106
  go_wp2_with fail
  have hal := bel_alloc (Below.refl _ w) (.cells #[.string D] 9)
  refine (HTa.out _ (Nat.le_trans hL hal.size) (H.out.on hal) w.heap.size (Blk.new w _ _)).mono ?_
  rintro e w1 ⟨rfl, hb1, hc1, h1⟩
  have HB1 := hid ((hal.mono hL).trans hb1)
  have HC1 := hid (((WCalm.refl pd w).on hal).trans hc1)
  have H1 := hid h1
  have hset := hu.1.ok.set
  have hce : u.k.c = pow2 u.k.l := rfl
  have HCl := hid (fun (q : World) => c_ClearCode_yes u.k.o u.k.l u.k.m q hset)
  obtain ⟨C, hC⟩ : ∃ C, C = pow2 u.k.l := ⟨_, rfl⟩
  have HCq := hid (show u.k.c = C from hC.symm)
  simp only [← hC] at HCl
  have HU := hid hu
  have hS : w1.cell? ⟨pb, 0, none⟩ = some (.pointer (some ⟨fb, 0, none⟩)) ∧ True := ⟨H1.out.c0, trivial⟩
  clear hb1 hc1 h1 hal hu hset hce hC HTa
  go_wp2_with fail
  have H2 := hid (H1.out.on (bel_drew (Below.refl _ w1)))
  have HB2 := hid (HB1.out.drew)
  have HC2 := hid (HC1.out.on (bel_drew (Below.refl _ w1)))
  clear H1 HB1 HC1
  refine wp_region_noPanic ?_
  refine wp_region_held_drew (S := (fun v => v.cell? ⟨pb, 0, none⟩ = some (.pointer (some ⟨fb, 0, none⟩)) ∧ True)) (by kernel_rfl) (t1_drew hS) (fun hHeld => ?_)
  refine tk 0 ?_
  refine tk 1 ?_
  refine tk 2 ?_
  refine tk 3 ?_
  refine tk 4 ?_
  refine tk 5 ?_
  refine tk 6 ?_
  refine tk 7 ?_
  refine wpAnyH_ready (rs := [8]) (by kernel_rfl) (by simp) ?_
  refine AllReadyH.cons (o := ?or1_8) ?ir1_8 (fun K hK => ?sr1_8) AllReadyH.nil
  case ir1_8 => (simp only [List.getElem?_toArray, List.getElem?_cons_succ, List.getElem?_cons_zero]; rfl)
  (go_simp; (go_at_call 154; refine (c_wset L pb 133 xs pd fb _ u _ H2.out).mono ?_; rintro e wQ ⟨rfl, hbQ⟩; replace H2 := hid (H2.out.on hbQ); replace HB2 := hid (HB2.out.trans (hbQ.mono (Nat.le_trans hL HB2.out.size))); replace HC2 := hid (HC2.out.on hbQ); clear hbQ; have t1 : wQ.cell? ⟨pb, 0, none⟩ = some (.pointer (some ⟨fb, 0, none⟩)) ∧ True := ⟨H2.out.c0, trivial⟩))
  refine hK.out _ _ ?kr1_8 (fun hHeld => ?_)
  case kr1_8 => (try dsimp only); (first | with_reducible assumption | with_reducible exact t3 | with_reducible exact t2 | with_reducible exact t1 | exact t1_bel (by assumption) (by assumption) | assumption | exact t1_alloc (by assumption) _ | exact t3 | exact t2 | exact t1)
  clear hK K
  try simp only [Act.put, List.setIfInBounds_toArray, List.set_cons_zero, List.set_cons_succ]
  refine wpAnyH_ready (rs := [9]) (by kernel_rfl) (by simp) ?_
  refine AllReadyH.cons (o := ?or1_9) ?ir1_9 (fun K hK => ?sr1_9) AllReadyH.nil
  case ir1_9 => (simp only [List.getElem?_toArray, List.getElem?_cons_succ, List.getElem?_cons_zero]; rfl)
  (go_simp; (go_at_call 144; refine (HCl.out _).mono ?_; rintro e wR ⟨rfl, hbR⟩; replace H2 := hid (H2.out.on hbR); replace HB2 := hid (HB2.out.trans (hbR.mono (Nat.le_trans hL HB2.out.size))); replace HC2 := hid (HC2.out.on hbR); clear hbR; have t2 : wR.cell? ⟨pb, 0, none⟩ = some (.pointer (some ⟨fb, 0, none⟩)) ∧ True := ⟨H2.out.c0, trivial⟩))
  refine hK.out _ _ ?kr1_9 (fun hHeld => ?_)
  case kr1_9 => (try dsimp only); (first | with_reducible assumption | with_reducible exact t3 | with_reducible exact t2 | with_reducible exact t1 | exact t1_bel (by assumption) (by assumption) | assumption | exact t1_alloc (by assumption) _ | exact t3 | exact t2 | exact t1)
  clear hK K
  try simp only [Act.put, List.setIfInBounds_toArray, List.set_cons_zero, List.set_cons_succ]
  refine wpAnyH_ready (rs := [10]) (by kernel_rfl) (by simp) ?_
  refine AllReadyH.cons (o := ?or1_10) ?ir1_10 (fun K hK => ?sr1_10) AllReadyH.nil
  case ir1_10 => (simp only [List.getElem?_toArray, List.getElem?_cons_succ, List.getElem?_cons_zero]; rfl)
  (go_simp; (go_at_call 143; refine (c_ffollow L fb u.k _ HU.out.1.ok (Nat.le_trans hL HB2.out.size) H2.out.fa C (Or.inl HCq.out.symm)).mono ?_; rintro e wF ⟨rfl, hbF, hcF, hF⟩; have HF := hid hF; have H3 := hid (H2.out.calm (Or.inr rfl) hcF hbF.size hF); have HB3 := hid (HB2.out.trans hbF); have HC3 := hid (HC2.out.calm hcF); clear hF hbF hcF; have t3 : wF.cell? ⟨pb, 0, none⟩ = some (.pointer (some ⟨fb, 0, none⟩)) ∧ True := ⟨H3.out.c0, trivial⟩))
  refine hK.out _ _ ?kr1_10 (fun hHeld => ?_)
  case kr1_10 => (try dsimp only); (first | with_reducible assumption | with_reducible exact t3 | with_reducible exact t2 | with_reducible exact t1 | exact t1_bel (by assumption) (by assumption) | assumption | exact t1_alloc (by assumption) _ | exact t3 | exact t2 | exact t1)
  clear hK K
  try simp only [Act.put, List.setIfInBounds_toArray, List.set_cons_zero, List.set_cons_succ]
  refine wpAnyH_done (by kernel_rfl) ?_ _
  refine NoPanic.normal ?_
  all_goals
    have p3 := H3.out.c3
    have f3 := H3.out.f 3
    have HE := hid (show ({ u with k := u.k.step C, g := false } : Wr) = Wr.fresh K by
      rw [← HCq.out, Kn.step_clear, HU.out.2.1]
      unfold Wr.fresh
      rw [HU.out.2.2.1, HU.out.2.2.2])
    go_wp2
    go_ret2
    exact ⟨rfl, HB3.out.setCell (p := ⟨pb, 3, none⟩) H3.out.lb _, HC3.out.trans (WCalm.store pd H3.out.bx (Or.inr rfl) 3 _), _, by rw [← HE.out]; exact H3.out.at_ (Or.inr rfl) 3 (.bool false) _ { u with k := u.k.step C, g := false } rfl H3.out.row H3.out.ap (by simp)⟩
set_option maxHeartbeats 4000000 in
set_option maxRecDepth 100000 in
theorem c_compress_yes (hKc : K.cleared = K) (hL : L ≤ w.heap.size) (D : ByteArray) (hf : FitsOk K D) (h : WS L pb 133 xs pd fb sv (Wr.fresh K) w) : Calls Try.prog 106 #[.pointer (some ⟨pb, 0, none⟩), .string D] w fun e w' => e = .returned (.tuple #[.string (K.packed (K.greedy D.data.toList)), .bool true]) ∧ Below L w w' ∧ WCalm pd w w' ∧ ∃ v', WS L pb 133 xs pd fb v' (Wr.fresh K) w' := by
  have hg := Wr.fresh_go hf.1
  have hw := hg.write_ (d := D.data.toList) hf.lits.1 (by show 0 ≤ 7; omega) (by rw [len_toList]; show 0 + D.size ≤ 2000; have := hf.lits.2; omega)
  obtain ⟨y, hy⟩ : ∃ y, y = (Wr.fresh K).write D.data.toList := ⟨_, rfl⟩
  obtain ⟨n, hn⟩ : ∃ n, n = y.b.length / 8 * 8 := ⟨_, rfl⟩
  have HTa := hid (fun (W : World) (hW : L ≤ W.heap.size) (h2 : WS L pb 133 xs pd fb sv (Wr.fresh K) W) (s0 : Nat) (hs0 : Blk W s0 9 #[.string D]) => c_takeAll_yes L pb xs pd fb sv (Wr.fresh K) W hg hW s0 D (by show 0 ≤ 7; omega) hf.lits.1 (by show 0 + D.size ≤ 2000; have := hf.lits.2; omega) (by show dataFits K.o K.l K.m (str [] ++ D) = true; rw [str_nil_add]; exact hf.2) n (by rw [hn, hy]) y (y.cut n) hy rfl h2 hs0)
  have htp := Wr.two_packs hf.1 hf.lits.1 n (by rw [hn, hy])
  rw [← hy] at htp hw
  obtain ⟨R, hR⟩ : ∃ R, R = K.packed (K.greedy D.data.toList) := ⟨_, rfl⟩
  rw [← hR] at htp ⊢
  have htp2 : packS (Wr.fresh K).k.o (str (y.b.take n)) ++ packS (Wr.fresh K).k.o (str (y.cut n).close.b) = R := htp
  simp only [htp2] at HTa
  have hcg : (y.cut n).Go := ⟨hw.1.ok, hw.1.lit, by
    show (y.b.drop n).all isBit = true
    have h1 := hw.1.bit
    rw [List.all_eq_true] at h1 ⊢
    exact fun b hb => h1 b (List.mem_of_mem_drop hb)⟩
  obtain ⟨u, hu0⟩ : ∃ u, u = (y.cut n).close.cut (y.cut n).close.b.length := ⟨_, rfl⟩
  have hu : u.Go ∧ u.k.cleared = K ∧ u.p = [] ∧ u.b = [] := by
    obtain ⟨q1, q2, q3, q4, q5⟩ := hcg.close_
    rw [hu0]
    refine ⟨⟨q1.ok, q1.lit, ?_⟩, ?_, q4, ?_⟩
    · show ((y.cut n).close.b.drop (y.cut n).close.b.length).all isBit = true
      rw [List.drop_length]; rfl
    · show (y.cut n).close.k.cleared = K
      rw [q2]
      show y.k.cleared = K
      rw [hw.2.1]
      exact hKc
    · show (y.cut n).close.b.drop (y.cut n).close.b.length = []
      exact List.drop_length
  simp only [← hu0] at HTa
  have H := hid h
  clear h hKc hf hg hw hy hn htp htp2 hR hcg hu0
  go_enter Try.func106, Try.ntmps106
  go_wp2_with fail
  have hal := bel_alloc (Below.refl _ w) (.cells #[.string D] 9)
  refine (HTa.out _ (Nat.le_trans hL hal.size) (H.out.on hal) w.heap.size (Blk.new w _ _)).mono ?_
  rintro e w1 ⟨rfl, hb1, hc1, v1, h1⟩
  have HB1 := hid ((hal.mono hL).trans hb1)
  have HC1 := hid (((WCalm.refl pd w).on hal).trans hc1)
  have H1 := hid h1
  have hset := hu.1.ok.set
  have hce : u.k.c = pow2 u.k.l := rfl
  have HCl := hid (fun (q : World) => c_ClearCode_yes u.k.o u.k.l u.k.m q hset)
  obtain ⟨C, hC⟩ : ∃ C, C = pow2 u.k.l := ⟨_, rfl⟩
  have HCq := hid (show u.k.c = C from hC.symm)
  simp only [← hC] at HCl
  have HU := hid hu
  have hS : w1.cell? ⟨pb, 0, none⟩ = some (.pointer (some ⟨fb, 0, none⟩)) ∧ True := ⟨H1.out.c0, trivial⟩
  clear hb1 hc1 h1 hal hu hset hce hC HTa
  go_wp2_with fail
  have H2 := hid (H1.out.on (bel_drew (Below.refl _ w1)))
  have HB2 := hid (HB1.out.drew)
  have HC2 := hid (HC1.out.on (bel_drew (Below.refl _ w1)))
  clear H1 HB1 HC1
  refine wp_region_noPanic ?_
  refine wp_region_held_drew (S := (fun v => v.cell? ⟨pb, 0, none⟩ = some (.pointer (some ⟨fb, 0, none⟩)) ∧ True)) (by kernel_rfl) (t1_drew hS) (fun hHeld => ?_)
  refine tk 0 ?_
  refine tk 1 ?_
  refine tk 2 ?_
  refine tk 3 ?_
  refine tk 4 ?_
  refine tk 5 ?_
  refine tk 6 ?_
  refine tk 7 ?_
  refine wpAnyH_ready (rs := [8]) (by kernel_rfl) (by simp) ?_
  refine AllReadyH.cons (o := ?or2_8) ?ir2_8 (fun K hK => ?sr2_8) AllReadyH.nil
  case ir2_8 => (simp only [List.getElem?_toArray, List.getElem?_cons_succ, List.getElem?_cons_zero]; rfl)
  (go_simp; (go_at_call 154; refine (c_wset L pb 133 xs pd fb _ u _ H2.out).mono ?_; rintro e wQ ⟨rfl, hbQ⟩; replace H2 := hid (H2.out.on hbQ); replace HB2 := hid (HB2.out.trans (hbQ.mono (Nat.le_trans hL HB2.out.size))); replace HC2 := hid (HC2.out.on hbQ); clear hbQ; have t1 : wQ.cell? ⟨pb, 0, none⟩ = some (.pointer (some ⟨fb, 0, none⟩)) ∧ True := ⟨H2.out.c0, trivial⟩))
  refine hK.out _ _ ?kr2_8 (fun hHeld => ?_)
  case kr2_8 => (try dsimp only); (first | with_reducible assumption | with_reducible exact t3 | with_reducible exact t2 | with_reducible exact t1 | exact t1_bel (by assumption) (by assumption) | assumption | exact t1_alloc (by assumption) _ | exact t3 | exact t2 | exact t1)
  clear hK K
  try simp only [Act.put, List.setIfInBounds_toArray, List.set_cons_zero, List.set_cons_succ]
  refine wpAnyH_ready (rs := [9]) (by kernel_rfl) (by simp) ?_
  refine AllReadyH.cons (o := ?or2_9) ?ir2_9 (fun K hK => ?sr2_9) AllReadyH.nil
  case ir2_9 => (simp only [List.getElem?_toArray, List.getElem?_cons_succ, List.getElem?_cons_zero]; rfl)
  (go_simp; (go_at_call 144; refine (HCl.out _).mono ?_; rintro e wR ⟨rfl, hbR⟩; replace H2 := hid (H2.out.on hbR); replace HB2 := hid (HB2.out.trans (hbR.mono (Nat.le_trans hL HB2.out.size))); replace HC2 := hid (HC2.out.on hbR); clear hbR; have t2 : wR.cell? ⟨pb, 0, none⟩ = some (.pointer (some ⟨fb, 0, none⟩)) ∧ True := ⟨H2.out.c0, trivial⟩))
  refine hK.out _ _ ?kr2_9 (fun hHeld => ?_)
  case kr2_9 => (try dsimp only); (first | with_reducible assumption | with_reducible exact t3 | with_reducible exact t2 | with_reducible exact t1 | exact t1_bel (by assumption) (by assumption) | assumption | exact t1_alloc (by assumption) _ | exact t3 | exact t2 | exact t1)
  clear hK K
  try simp only [Act.put, List.setIfInBounds_toArray, List.set_cons_zero, List.set_cons_succ]
  refine wpAnyH_ready (rs := [10]) (by kernel_rfl) (by simp) ?_
  refine AllReadyH.cons (o := ?or2_10) ?ir2_10 (fun K hK => ?sr2_10) AllReadyH.nil
  case ir2_10 => (simp only [List.getElem?_toArray, List.getElem?_cons_succ, List.getElem?_cons_zero]; rfl)
  (go_simp; (go_at_call 143; refine (c_ffollow L fb u.k _ HU.out.1.ok (Nat.le_trans hL HB2.out.size) H2.out.fa C (Or.inl HCq.out.symm)).mono ?_; rintro e wF ⟨rfl, hbF, hcF, hF⟩; have HF := hid hF; have H3 := hid (H2.out.calm (Or.inr rfl) hcF hbF.size hF); have HB3 := hid (HB2.out.trans hbF); have HC3 := hid (HC2.out.calm hcF); clear hF hbF hcF; have t3 : wF.cell? ⟨pb, 0, none⟩ = some (.pointer (some ⟨fb, 0, none⟩)) ∧ True := ⟨H3.out.c0, trivial⟩))
  refine hK.out _ _ ?kr2_10 (fun hHeld => ?_)
  case kr2_10 => (try dsimp only); (first | with_reducible assumption | with_reducible exact t3 | with_reducible exact t2 | with_reducible exact t1 | exact t1_bel (by assumption) (by assumption) | assumption | exact t1_alloc (by assumption) _ | exact t3 | exact t2 | exact t1)
  clear hK K
  try simp only [Act.put, List.setIfInBounds_toArray, List.set_cons_zero, List.set_cons_succ]
  refine wpAnyH_done (by kernel_rfl) ?_ _
  refine NoPanic.normal ?_
  all_goals
    have p3 := H3.out.c3
    have f3 := H3.out.f 3
    have HE := hid (show ({ u with k := u.k.step C, g := false } : Wr) = Wr.fresh K by
      rw [← HCq.out, Kn.step_clear, HU.out.2.1]
      unfold Wr.fresh
      rw [HU.out.2.2.1, HU.out.2.2.2])
    go_wp2
    go_ret2
    exact ⟨rfl, HB3.out.setCell (p := ⟨pb, 3, none⟩) H3.out.lb _, HC3.out.trans (WCalm.store pd H3.out.bx (Or.inr rfl) 3 _), _, by rw [← HE.out]; exact H3.out.at_ (Or.inr rfl) 3 (.bool false) _ { u with k := u.k.step C, g := false } rfl H3.out.row H3.out.ap (by simp)⟩
end
end Go.Proofs.Ytfklkepodpcdgaa
