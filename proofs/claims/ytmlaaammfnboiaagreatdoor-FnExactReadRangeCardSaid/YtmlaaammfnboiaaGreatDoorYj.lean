/- Contracts: readBlock in the program. The layout of the header and the errors are as the program's text lays them. -/
import Derived.Test.YtmlaaammfnboiaaGreatDoorYk
import Derived.Test.YtmlaaammfnboiaaGreatDoorQy
namespace Go.Proofs.YtmlaaammfnboiaaGreatDoor
open Go.ChangeShapes Go.WideShapes Go.ChangeAt Go.RowKit Go.Joins
set_option linter.unusedVariables false
set_option linter.unusedSimpArgs false

set_option maxHeartbeats 8000000 in
set_option maxRecDepth 100000 in
theorem c_readBlock_x1 (S : ByteArray) (A : Nat) (T : List UInt8) (w : World) (a0 a1 a2 : Addr) (hS : S.size ≤ 1000000000000) (hA : A ≤ S.size) (hT : T = S.data.toList.drop A) (hG : Glob0 w a0) (hd : hdOk T) (hl : 10 + pat2 T 6 ≤ T.length) (hk : ¬ (brd T).ok) : Calls Tryz.prog 167 #[.string S, .int .i64 (A : Int)] w fun e w' => e = .returned (noBl a0) ∧ Below w.heap.size w w' := by
 obtain ⟨b, hb0⟩ : ∃ b : Bl, b = brd T := ⟨_, rfl⟩
 have hp6 := hd.2.2.2.2.2
 have hbs : b.body.size = pat2 T 6 := by rw [hb0]; exact brd_size T hl
 have hbn : ((pat2 T 2 : Nat) : Int) = b.n := by rw [hb0]; rfl
 have hbz : ((pat2 T 4 : Nat) : Int) = b.z := by rw [hb0]; rfl
 have hbr : ((((bat T 1 : Nat) : Int)) == 0) = b.raw := by
  rw [hb0]
  show _ = (bat T 1 == 0)
  rw [Bool.eq_iff_iff]
  simp
 have hbb : (dr (dr S A) 8).extract 0 (pat2 T 6) = b.body := by
  rw [hb0, brd_eq]
  apply ByteArray.ext
  apply Array.toList_inj.1
  show _ = (str _).data.toList
  rw [str_list, ByteArray.data_extract, Array.toList_extract, dr_list, show (dr S A).data.toList = T from by rw [dr_list, hT], List.extract]
  simp
 have hTl0 : T.length = S.size - A := by rw [hT, List.length_drop]; simp
 have hsl2 : ∀ W, (Instr.slice 9 (.string (dr (dr S A) 8)) none (some (.int .i64 ((pat2 T 6 : Nat) : Int))) none).run Tryz.prog W = .ok (.string b.body) W := fun W => by
  rw [run_slice_string_h W 9 (dr (dr S A) 8) Tryz.underlying9 .i64 ((pat2 T 6 : Nat) : Int) (by omega) (by rw [dr_size, dr_size]; omega), ← hbb]; rfl
 have HBl := hid (show ∀ (v : World), Calls Tryz.prog 177 #[.agg #[.int .i64 (bat T 0 : Nat), .int .i64 (bat T 1 : Nat), .int .i64 (pat2 T 2 : Nat), .int .i64 (pat2 T 4 : Nat), .int .i64 (pat2 T 6 : Nat)], .string b.body] v fun e w' => e = .returned (.agg #[.int .i64 b.n, .bool b.raw, .int .i64 b.z, .string b.body]) ∧ Below v.heap.size v w' by
  intro v
  rw [← hbn, ← hbz, ← hbr]
  exact c_hblock (bat T 0 : Nat) (bat T 1 : Nat) (pat2 T 2 : Nat) (pat2 T 4 : Nat) (pat2 T 6 : Nat) b.body v)
 have HB0 := hid hb0
 have hbn2 : -9223372036854775808 ≤ b.n ∧ b.n ≤ 9223372036854775807 := by rw [← hbn]; have := bat_lt T 2; have := bat_lt T (2 + 1); unfold pat2; omega
 have hbz2 : -9223372036854775808 ≤ b.z ∧ b.z ≤ 9223372036854775807 := by rw [← hbz]; have := bat_lt T 4; have := bat_lt T (4 + 1); unfold pat2; omega
 have HV := hid (fun (v : World) (hL : Lay v) => c_blockValid b v hL hbn2 hbz2 (by unfold maxLen; omega))
 clear hbn hbz hbr hbn2 hbz2
 rw [← hb0] at hk
 rw [decide_eq_false hk] at HV
 have hT2 : (dr S A).data.toList = T := by rw [dr_list, hT]
 have hTl : T.length = S.size - A := by rw [hT, List.length_drop]; simp
 have hsl : ∀ W, (Instr.slice 9 (.string S) (some (.int .i64 (A : Int))) none none).run Tryz.prog W = .ok (.string (dr S A)) W := fun W => by rw [run_slice_string_l W 9 S Tryz.underlying9 .i64 (A : Int) (by omega) (by omega)]; rfl
 have hd1 : decide ((A : Int) < 0) = false := decide_eq_false (by omega)
 have hd2 : decide ((S.size : Int) < (A : Int)) = false := decide_eq_false (by omega)
 have HRh := hid (fun (v : World) (hv : Glob0 v a0) => rh_yes (dr S A) v a0 a1 a2 (by unfold maxLen; rw [dr_size]; omega) hv (by rw [hT2]; exact hd))
 simp only [hT2] at HRh
 have HG := hid hG
 have HR := hid (Blk.new w 25 #[.int .i64 0, .bool false, .int .i64 0, .string ByteArray.empty])
 have HB := hid (bel_alloc (Below.refl _ w) (.cells #[.int .i64 0, .bool false, .int .i64 0, .string ByteArray.empty] 25))
 have hlt3 : 3 < w.heap.size := World.block_lt_of_cell? _ _ hG.broken
 obtain ⟨rb, hrb⟩ : ∃ rb, rb = w.heap.size := ⟨_, rfl⟩
 have HN3 := hid (show ¬ (rb = 3) ∧ ¬ (3 = rb) by omega)
 have HLo := hid (show w.heap.size ≤ rb by omega)
 clear hG hlt3
 clear hd hT2 hT hbb hb0
 go_enter Tryz.func167, Tryz.ntmps167
 go_wp2_with fail
 obtain ⟨W, hW⟩ : ∃ W, W = w.alloc (.cells #[.int .i64 0, .bool false, .int .i64 0, .string ByteArray.empty] 25) := ⟨_, rfl⟩
 rw [← hW, ← hrb] at HR
 rw [← hW] at HB
 rw [show w.alloc (.cells #[.int .i64 0, .bool false, .int .i64 0, .string { data := #[] }] 25) = W from hW.symm, ← hrb]
 clear hW hrb
 have hltr : rb < W.heap.size := HR.out.lt
 refine (HRh.out _ (HG.out.on HB.out)).mono ?_
 rintro e w1 ⟨rfl, hb1⟩
 replace HR := hid (HR.out.on hb1)
 replace HB := hid (bel_trans HB.out hb1)
 clear hltr hb1 HRh W
 have hltr : rb < w1.heap.size := HR.out.lt
 have hd3 : decide ((S.size : Int) < (A : Int) + 10 + ((pat2 T 6 : Nat) : Int)) = false := decide_eq_false (by omega)
 go_wp2_with fail
 replace HR := hid (HR.out.alloc (.cells #[.int .i64 (bat T 0 : Nat), .int .i64 (bat T 1 : Nat), .int .i64 (pat2 T 2 : Nat), .int .i64 (pat2 T 4 : Nat), .int .i64 (pat2 T 6 : Nat)] 106))
 replace HB := hid (bel_alloc HB.out (.cells #[.int .i64 (bat T 0 : Nat), .int .i64 (bat T 1 : Nat), .int .i64 (pat2 T 2 : Nat), .int .i64 (pat2 T 4 : Nat), .int .i64 (pat2 T 6 : Nat)] 106))
 have HH := hid (Blk.new w1 106 #[.int .i64 (bat T 0 : Nat), .int .i64 (bat T 1 : Nat), .int .i64 (pat2 T 2 : Nat), .int .i64 (pat2 T 4 : Nat), .int .i64 (pat2 T 6 : Nat)])
 obtain ⟨hb, hhb⟩ : ∃ hb, hb = w1.heap.size := ⟨_, rfl⟩
 obtain ⟨W1, hW1⟩ : ∃ W1, W1 = w1.alloc (.cells #[.int .i64 (bat T 0 : Nat), .int .i64 (bat T 1 : Nat), .int .i64 (pat2 T 2 : Nat), .int .i64 (pat2 T 4 : Nat), .int .i64 (pat2 T 6 : Nat)] 106) := ⟨_, rfl⟩
 rw [← hW1] at HR HB HH ⊢
 rw [← hhb] at HH ⊢
 clear hW1 hhb hltr
 have hltr : rb < W1.heap.size := HR.out.lt
 have hS5 : W1.cell? ⟨hb, 0, none⟩ = some (.int .i64 (bat T 0 : Nat)) ∧ W1.cell? ⟨hb, 1, none⟩ = some (.int .i64 (bat T 1 : Nat)) ∧ W1.cell? ⟨hb, 2, none⟩ = some (.int .i64 (pat2 T 2 : Nat)) ∧ W1.cell? ⟨hb, 3, none⟩ = some (.int .i64 (pat2 T 4 : Nat)) ∧ W1.cell? ⟨hb, 4, none⟩ = some (.int .i64 (pat2 T 6 : Nat)) ∧ Below W1.heap.size W1 W1 := ⟨HH.out.cell 0, HH.out.cell 1, HH.out.cell 2, HH.out.cell 3, HH.out.cell 4, Below.refl _ _⟩
 refine wp_region_noPanic ?_
 refine wp_region_held_drew (S := (fun v => v.cell? ⟨hb, 0, none⟩ = some (.int .i64 (bat T 0 : Nat)) ∧ v.cell? ⟨hb, 1, none⟩ = some (.int .i64 (bat T 1 : Nat)) ∧ v.cell? ⟨hb, 2, none⟩ = some (.int .i64 (pat2 T 2 : Nat)) ∧ v.cell? ⟨hb, 3, none⟩ = some (.int .i64 (pat2 T 4 : Nat)) ∧ v.cell? ⟨hb, 4, none⟩ = some (.int .i64 (pat2 T 6 : Nat)) ∧ Below W1.heap.size W1 v)) (by kernel_rfl) (s5_drew hS5) (fun hHeld => ?_)
 refine tk 0 ?_
 refine tk 1 ?_
 refine tk 2 ?_
 refine tk 3 ?_
 refine tk 4 ?_
 refine wpAnyH_ready (rs := [5, 6]) (by kernel_rfl) (by simp) ?_
 refine AllReadyH.cons (o := ?or1_5) ?ir1_5 (fun K hK => ?sr1_5) (AllReadyH.cons (o := ?or1_6) ?ir1_6 (fun K hK => ?sr1_6) AllReadyH.nil)
 case ir1_5 => (simp only [List.getElem?_toArray, List.getElem?_cons_succ, List.getElem?_cons_zero]; rfl)
 case ir1_6 => (simp only [List.getElem?_toArray, List.getElem?_cons_succ, List.getElem?_cons_zero]; rfl)
 case' sr1_5 =>
  (go_simp; (go_at_call 177; refine (HBl.out _).mono ?_; rintro e wQ ⟨rfl, hbQ⟩))
  refine hK.out _ _ ?kr1_5 (fun hHeld => ?_)
  case kr1_5 => (try dsimp only); (first | with_reducible assumption | exact s5_bel (by assumption) (by assumption) | assumption | exact s5_alloc (by assumption) _)
  clear hK K
  try simp only [Act.put, List.setIfInBounds_toArray, List.set_cons_zero, List.set_cons_succ]
  have hbW : Below W1.heap.size W1 wQ := hHeld.2.2.2.2.2
  refine wpAnyH_ready (rs := [6]) (by kernel_rfl) (by simp) ?_
  refine AllReadyH.cons (o := ?or1b1_6) ?ir1b1_6 (fun K hK => ?sr1b1_6) AllReadyH.nil
  case ir1b1_6 => (simp only [List.getElem?_toArray, List.getElem?_cons_succ, List.getElem?_cons_zero]; rfl)
  ((go_simp; have hN6 : Blk (wQ.alloc (.cells #[.int .i64 0, .bool false, .int .i64 0, .string ByteArray.empty] 25)) wQ.heap.size 25 #[.int .i64 0, .bool false, .int .i64 0, .string ByteArray.empty] := Blk.new wQ _ _; have k0 := hN6.cell 0; have k1 := hN6.cell 1; have k2 := hN6.cell 2; have k3 := hN6.cell 3; have kf0 := hN6.frozen 0; have kf1 := hN6.frozen 1; have kf2 := hN6.frozen 2; have kf3 := hN6.frozen 3))
  refine hK.out _ _ ?kr1b1_6 (fun hHeld => ?_)
  case kr1b1_6 => (try dsimp only); (first | with_reducible assumption | exact s5_bel (by assumption) (by assumption) | assumption | exact s5_alloc (by assumption) _)
  clear hK K
  try simp only [Act.put, List.setIfInBounds_toArray, List.set_cons_zero, List.set_cons_succ]
  refine wpAnyH_ready (rs := [7]) (by kernel_rfl) (by simp) ?_
  refine AllReadyH.cons (o := ?or1b1_7) ?ir1b1_7 (fun K hK => ?sr1b1_7) AllReadyH.nil
  case ir1b1_7 => (simp only [List.getElem?_toArray, List.getElem?_cons_succ, List.getElem?_cons_zero]; rfl)
  go_simp
  have KH1 := HH.out.on hbW
  have KR1 := HR.out.on hbW
  refine hK.out _ _ ?ke1 (fun hHeld => ?_)
  case ke1 => exact ⟨(KH1.alloc _).cell 0, (KH1.alloc _).cell 1, (KH1.alloc _).cell 2, (KH1.alloc _).cell 3, (KH1.alloc _).cell 4, bel_alloc hbW _⟩
  clear hK K
  refine wpAnyH_done (by kernel_rfl) ?_ _
  refine NoPanic.normal ?_
  obtain ⟨V, hV⟩ : ∃ V, V = wQ.alloc (.cells #[.int .i64 b.n, .bool b.raw, .int .i64 b.z, .string b.body] 25) := ⟨_, rfl⟩
  obtain ⟨nb, hnb⟩ : ∃ nb, nb = wQ.heap.size := ⟨_, rfl⟩
  have KB := hid (Blk.new wQ 25 #[.int .i64 b.n, .bool b.raw, .int .i64 b.z, .string b.body])
  replace HR := hid (KR1.alloc (.cells #[.int .i64 b.n, .bool b.raw, .int .i64 b.z, .string b.body] 25))
  replace HB := hid (bel_trans HB.out (bel_alloc hbW (.cells #[.int .i64 b.n, .bool b.raw, .int .i64 b.z, .string b.body] 25)))
  rw [← hV, ← hnb] at KB
  rw [← hV] at HR HB
  rw [← hV, ← hnb]
  clear hHeld KH1 KR1 hbW k0 k1 k2 k3 kf0 kf1 kf2 kf3 hN6 hS5 hltr HH hV hnb
 case' sr1_6 =>
  ((go_simp; have hN6 : Blk (W1.alloc (.cells #[.int .i64 0, .bool false, .int .i64 0, .string ByteArray.empty] 25)).drew W1.heap.size 25 #[.int .i64 0, .bool false, .int .i64 0, .string ByteArray.empty] := (Blk.new W1 _ _).drew))
  refine hK.out _ _ ?kr1_6 (fun hHeld => ?_)
  case kr1_6 => (try dsimp only); (first | with_reducible assumption | exact s5_bel (by assumption) (by assumption) | assumption | exact s5_alloc (by assumption) _)
  clear hK K
  try simp only [Act.put, List.setIfInBounds_toArray, List.set_cons_zero, List.set_cons_succ]
  refine wpAnyH_ready (rs := [5]) (by kernel_rfl) (by simp) ?_
  refine AllReadyH.cons (o := ?or1b2_5) ?ir1b2_5 (fun K hK => ?sr1b2_5) AllReadyH.nil
  case ir1b2_5 => (simp only [List.getElem?_toArray, List.getElem?_cons_succ, List.getElem?_cons_zero]; rfl)
  (go_simp; (go_at_call 177; refine (HBl.out _).mono ?_; rintro e wQ ⟨rfl, hbQ⟩))
  have kN := hN6.on hbQ
  have k0 := kN.cell 0
  have k1 := kN.cell 1
  have k2 := kN.cell 2
  have k3 := kN.cell 3
  have kf0 := kN.frozen 0
  have kf1 := kN.frozen 1
  have kf2 := kN.frozen 2
  have kf3 := kN.frozen 3
  refine hK.out _ _ ?kr1b2_5 (fun hHeld => ?_)
  case kr1b2_5 => (try dsimp only); (first | with_reducible assumption | exact s5_bel (by assumption) (by assumption) | assumption | exact s5_alloc (by assumption) _)
  clear hK K
  try simp only [Act.put, List.setIfInBounds_toArray, List.set_cons_zero, List.set_cons_succ]
  have hbW : Below W1.heap.size W1 wQ := hHeld.2.2.2.2.2
  refine wpAnyH_ready (rs := [7]) (by kernel_rfl) (by simp) ?_
  refine AllReadyH.cons (o := ?or1b2_7) ?ir1b2_7 (fun K hK => ?sr1b2_7) AllReadyH.nil
  case ir1b2_7 => (simp only [List.getElem?_toArray, List.getElem?_cons_succ, List.getElem?_cons_zero]; rfl)
  go_simp
  have KH1 := HH.out.on hbW
  have KR1 := HR.out.on hbW
  have hbn1 : hb ≠ W1.heap.size := by have := HH.out.lt; omega
  have hrn1 : rb ≠ W1.heap.size := by omega
  have KH2 := (((KH1.far 0 (.int .i64 b.n) hbn1).far 1 (.bool b.raw) hbn1).far 2 (.int .i64 b.z) hbn1).far 3 (.string b.body) hbn1
  have KR2 := (((KR1.far 0 (.int .i64 b.n) hrn1).far 1 (.bool b.raw) hrn1).far 2 (.int .i64 b.z) hrn1).far 3 (.string b.body) hrn1
  have KB2 := kN.put4y (.int .i64 b.n) (.bool b.raw) (.int .i64 b.z) (.string b.body)
  have hbW2 := bel_set (bel_set (bel_set (bel_set hbW (p := ⟨W1.heap.size, 0, none⟩) (Nat.le_refl _) (.int .i64 b.n)) (p := ⟨W1.heap.size, 1, none⟩) (Nat.le_refl _) (.bool b.raw)) (p := ⟨W1.heap.size, 2, none⟩) (Nat.le_refl _) (.int .i64 b.z)) (p := ⟨W1.heap.size, 3, none⟩) (Nat.le_refl _) (.string b.body)
  refine hK.out _ _ ?ke2 (fun hHeld => ?_)
  case ke2 => exact ⟨KH2.cell 0, KH2.cell 1, KH2.cell 2, KH2.cell 3, KH2.cell 4, hbW2⟩
  clear hK K
  refine wpAnyH_done (by kernel_rfl) ?_ _
  refine NoPanic.normal ?_
  obtain ⟨V, hV⟩ : ∃ V, V = (((wQ.setCell ⟨W1.heap.size, 0, none⟩ (.int .i64 b.n)).setCell ⟨W1.heap.size, 1, none⟩ (.bool b.raw)).setCell ⟨W1.heap.size, 2, none⟩ (.int .i64 b.z)).setCell ⟨W1.heap.size, 3, none⟩ (.string b.body) := ⟨_, rfl⟩
  obtain ⟨nb, hnb⟩ : ∃ nb, nb = W1.heap.size := ⟨_, rfl⟩
  have KB := hid KB2
  replace HB := hid (bel_trans HB.out hbW2)
  replace HR := hid KR2
  rw [← hV, ← hnb] at KB
  rw [← hV] at HR HB
  rw [← hV, ← hnb]
  clear hHeld KH1 KR1 KH2 KR2 KB2 hbW2 hbn1 hrn1 hbW k0 k1 k2 k3 kf0 kf1 kf2 kf3 hN6 kN hS5 hltr HH hV hnb
 all_goals
  have hltV : rb < V.heap.size := HR.out.lt
  have hltB : nb < V.heap.size := KB.out.lt
  go_wp2_with fail
  have hS4 : V.cell? ⟨nb, 0, none⟩ = some (.int .i64 b.n) ∧ V.cell? ⟨nb, 1, none⟩ = some (.bool b.raw) ∧ V.cell? ⟨nb, 2, none⟩ = some (.int .i64 b.z) ∧ V.cell? ⟨nb, 3, none⟩ = some (.string b.body) ∧ Below V.heap.size V V := ⟨KB.out.cell 0, KB.out.cell 1, KB.out.cell 2, KB.out.cell 3, Below.refl _ _⟩
  refine qB (S := (fun v => v.cell? ⟨nb, 0, none⟩ = some (.int .i64 b.n) ∧ v.cell? ⟨nb, 1, none⟩ = some (.bool b.raw) ∧ v.cell? ⟨nb, 2, none⟩ = some (.int .i64 b.z) ∧ v.cell? ⟨nb, 3, none⟩ = some (.string b.body) ∧ Below V.heap.size V v)) (by kernel_rfl) (by kernel_rfl) (s4_drew hS4) ?_
  refine qK ?_
  refine qC (fun wq hSq => HV.out wq (HG.out.on (bel_trans HB.out hSq.2.2.2.2)).lay) (fun wq wr hbr hSq => s4_bel hbr hSq) ?_
  refine qK ?_
  refine qK ?_
  refine qU ?_
  refine qU ?_
  refine qU ?_
  refine qU ?_
  refine qU ?_
  refine qU ?_
  refine qU ?_
  refine qK ?_
  refine qN ?_
  intro wq hSq
  (try dsimp only at hSq)
  have hbq := hSq.2.2.2.2
  replace HR := hid (HR.out.on hbq)
  replace KB := hid (KB.out.on hbq)
  replace HB := hid (bel_trans HB.out hbq)
  clear hSq hS4 hltV hltB hbq
  go_wp2_with fail
  obtain ⟨r0, r1, r2, r3⟩ := HR.out.cells4y
  have rf0 := HR.out.frozen 0
  have rf1 := HR.out.frozen 1
  have rf2 := HR.out.frozen 2
  have rf3 := HR.out.frozen 3
  have hgb := (HG.out.on HB.out).broken
  have hn3 := HN3.out.1
  have hn4 := HN3.out.2
  have hltr : rb < wq.heap.size := HR.out.lt
  go_region
  all_goals
   go_wp2
   obtain ⟨Wz, hWz⟩ : ∃ Wz, Wz = ((((wq.setCell ⟨rb, 0, none⟩ (.int .i64 0)).setCell ⟨rb, 1, none⟩ (.bool false)).setCell ⟨rb, 2, none⟩ (.int .i64 0)).setCell ⟨rb, 3, none⟩ (.string ByteArray.empty)).drew := ⟨_, rfl⟩
   have HZ : Blk Wz rb 25 #[.int .i64 0, .bool false, .int .i64 0, .string ByteArray.empty] := by rw [hWz]; exact (HR.out.put4y _ _ _ _).drew
   have HBz : Below w.heap.size w Wz := by rw [hWz]; exact bel_drew (bel_set (bel_set (bel_set (bel_set HB.out HLo.out _) HLo.out _) HLo.out _) HLo.out _)
   rw [show ((((wq.setCell ⟨rb, 0, none⟩ (.int .i64 0)).setCell ⟨rb, 1, none⟩ (.bool false)).setCell ⟨rb, 2, none⟩ (.int .i64 0)).setCell ⟨rb, 3, none⟩ (.string { data := #[] })).drew = Wz from hWz.symm]
   obtain ⟨z0, z1, z2, z3⟩ := HZ.cells4y
   clear hWz
   exact bodyPost_ret (v := noBl a0) (by simp [results, Tryz.results167, go_sem, z0, z1, z2, z3, noBl]) rfl ⟨rfl, HBz⟩

set_option maxHeartbeats 8000000 in
set_option maxRecDepth 100000 in
theorem c_readBlock_x2 (S : ByteArray) (A : Nat) (T : List UInt8) (w : World) (a0 a1 a2 : Addr) (hS : S.size ≤ 1000000000000) (hA : A ≤ S.size) (hT : T = S.data.toList.drop A) (hG : Glob0 w a0) (hd : hdOk T) (hl : 10 + pat2 T 6 ≤ T.length) (hk : (brd T).ok) (ht : (brd T).text ≠ T.take (10 + pat2 T 6)) : Calls Tryz.prog 167 #[.string S, .int .i64 (A : Int)] w fun e w' => e = .returned (noBl a0) ∧ Below w.heap.size w w' := by
 obtain ⟨b, hb0⟩ : ∃ b : Bl, b = brd T := ⟨_, rfl⟩
 have hp6 := hd.2.2.2.2.2
 have hbs : b.body.size = pat2 T 6 := by rw [hb0]; exact brd_size T hl
 have hbn : ((pat2 T 2 : Nat) : Int) = b.n := by rw [hb0]; rfl
 have hbz : ((pat2 T 4 : Nat) : Int) = b.z := by rw [hb0]; rfl
 have hbr : ((((bat T 1 : Nat) : Int)) == 0) = b.raw := by
  rw [hb0]
  show _ = (bat T 1 == 0)
  rw [Bool.eq_iff_iff]
  simp
 have hbb : (dr (dr S A) 8).extract 0 (pat2 T 6) = b.body := by
  rw [hb0, brd_eq]
  apply ByteArray.ext
  apply Array.toList_inj.1
  show _ = (str _).data.toList
  rw [str_list, ByteArray.data_extract, Array.toList_extract, dr_list, show (dr S A).data.toList = T from by rw [dr_list, hT], List.extract]
  simp
 have hTl0 : T.length = S.size - A := by rw [hT, List.length_drop]; simp
 have hsl2 : ∀ W, (Instr.slice 9 (.string (dr (dr S A) 8)) none (some (.int .i64 ((pat2 T 6 : Nat) : Int))) none).run Tryz.prog W = .ok (.string b.body) W := fun W => by
  rw [run_slice_string_h W 9 (dr (dr S A) 8) Tryz.underlying9 .i64 ((pat2 T 6 : Nat) : Int) (by omega) (by rw [dr_size, dr_size]; omega), ← hbb]; rfl
 have HBl := hid (show ∀ (v : World), Calls Tryz.prog 177 #[.agg #[.int .i64 (bat T 0 : Nat), .int .i64 (bat T 1 : Nat), .int .i64 (pat2 T 2 : Nat), .int .i64 (pat2 T 4 : Nat), .int .i64 (pat2 T 6 : Nat)], .string b.body] v fun e w' => e = .returned (.agg #[.int .i64 b.n, .bool b.raw, .int .i64 b.z, .string b.body]) ∧ Below v.heap.size v w' by
  intro v
  rw [← hbn, ← hbz, ← hbr]
  exact c_hblock (bat T 0 : Nat) (bat T 1 : Nat) (pat2 T 2 : Nat) (pat2 T 4 : Nat) (pat2 T 6 : Nat) b.body v)
 have HB0 := hid hb0
 have hbn2 : -9223372036854775808 ≤ b.n ∧ b.n ≤ 9223372036854775807 := by rw [← hbn]; have := bat_lt T 2; have := bat_lt T (2 + 1); unfold pat2; omega
 have hbz2 : -9223372036854775808 ≤ b.z ∧ b.z ≤ 9223372036854775807 := by rw [← hbz]; have := bat_lt T 4; have := bat_lt T (4 + 1); unfold pat2; omega
 have HV := hid (fun (v : World) (hL : Lay v) => c_blockValid b v hL hbn2 hbz2 (by unfold maxLen; omega))
 clear hbn hbz hbr hbn2 hbz2
 rw [← hb0] at hk ht
 rw [decide_eq_true hk] at HV
 obtain ⟨Y, hY⟩ : ∃ Y, Y = str b.text := ⟨_, rfl⟩
 have HY := hid (fun (v : World) (hL : Lay v) => c_blockBytes b v hk hL)
 rw [← hY] at HY
 obtain ⟨X, hX⟩ : ∃ X, X = S.extract A (A + 10 + pat2 T 6) := ⟨_, rfl⟩
 have hXl : X.data.toList = T.take (10 + pat2 T 6) := by
  rw [hX, ByteArray.data_extract, Array.toList_extract, hT, List.extract]
  congr 1
  omega
 have hslX : ∀ W, (Instr.slice 9 (.string S) (some (.int .i64 (A : Int))) (some (.int .i64 ((A : Int) + 10 + ((pat2 T 6 : Nat) : Int)))) none).run Tryz.prog W = .ok (.string X) W := fun W => by
  have e1 : ((A : Int)).toNat = A := by omega
  have e2 : ((A : Int) + 10 + ((pat2 T 6 : Nat) : Int)).toNat = A + 10 + pat2 T 6 := by omega
  rw [run_slice_string W 9 S .i64 .i64 (A : Int) ((A : Int) + 10 + ((pat2 T 6 : Nat) : Int)) Tryz.underlying9 (by omega) (by omega) (by omega), e1, e2, hX]
 have hYX := bytesNe (a := Y) (b := X) (fun h => ht (by rw [← hXl, ← h, hY, str_list]))
 clear ht hY hX hXl hk
 have hT2 : (dr S A).data.toList = T := by rw [dr_list, hT]
 have hTl : T.length = S.size - A := by rw [hT, List.length_drop]; simp
 have hsl : ∀ W, (Instr.slice 9 (.string S) (some (.int .i64 (A : Int))) none none).run Tryz.prog W = .ok (.string (dr S A)) W := fun W => by rw [run_slice_string_l W 9 S Tryz.underlying9 .i64 (A : Int) (by omega) (by omega)]; rfl
 have hd1 : decide ((A : Int) < 0) = false := decide_eq_false (by omega)
 have hd2 : decide ((S.size : Int) < (A : Int)) = false := decide_eq_false (by omega)
 have HRh := hid (fun (v : World) (hv : Glob0 v a0) => rh_yes (dr S A) v a0 a1 a2 (by unfold maxLen; rw [dr_size]; omega) hv (by rw [hT2]; exact hd))
 simp only [hT2] at HRh
 have HG := hid hG
 have HR := hid (Blk.new w 25 #[.int .i64 0, .bool false, .int .i64 0, .string ByteArray.empty])
 have HB := hid (bel_alloc (Below.refl _ w) (.cells #[.int .i64 0, .bool false, .int .i64 0, .string ByteArray.empty] 25))
 have hlt3 : 3 < w.heap.size := World.block_lt_of_cell? _ _ hG.broken
 obtain ⟨rb, hrb⟩ : ∃ rb, rb = w.heap.size := ⟨_, rfl⟩
 have HN3 := hid (show ¬ (rb = 3) ∧ ¬ (3 = rb) by omega)
 have HLo := hid (show w.heap.size ≤ rb by omega)
 clear hG hlt3
 clear hd hT2 hT hbb hb0
 go_enter Tryz.func167, Tryz.ntmps167
 go_wp2_with fail
 obtain ⟨W, hW⟩ : ∃ W, W = w.alloc (.cells #[.int .i64 0, .bool false, .int .i64 0, .string ByteArray.empty] 25) := ⟨_, rfl⟩
 rw [← hW, ← hrb] at HR
 rw [← hW] at HB
 rw [show w.alloc (.cells #[.int .i64 0, .bool false, .int .i64 0, .string { data := #[] }] 25) = W from hW.symm, ← hrb]
 clear hW hrb
 have hltr : rb < W.heap.size := HR.out.lt
 refine (HRh.out _ (HG.out.on HB.out)).mono ?_
 rintro e w1 ⟨rfl, hb1⟩
 replace HR := hid (HR.out.on hb1)
 replace HB := hid (bel_trans HB.out hb1)
 clear hltr hb1 HRh W
 have hltr : rb < w1.heap.size := HR.out.lt
 have hd3 : decide ((S.size : Int) < (A : Int) + 10 + ((pat2 T 6 : Nat) : Int)) = false := decide_eq_false (by omega)
 go_wp2_with fail
 replace HR := hid (HR.out.alloc (.cells #[.int .i64 (bat T 0 : Nat), .int .i64 (bat T 1 : Nat), .int .i64 (pat2 T 2 : Nat), .int .i64 (pat2 T 4 : Nat), .int .i64 (pat2 T 6 : Nat)] 106))
 replace HB := hid (bel_alloc HB.out (.cells #[.int .i64 (bat T 0 : Nat), .int .i64 (bat T 1 : Nat), .int .i64 (pat2 T 2 : Nat), .int .i64 (pat2 T 4 : Nat), .int .i64 (pat2 T 6 : Nat)] 106))
 have HH := hid (Blk.new w1 106 #[.int .i64 (bat T 0 : Nat), .int .i64 (bat T 1 : Nat), .int .i64 (pat2 T 2 : Nat), .int .i64 (pat2 T 4 : Nat), .int .i64 (pat2 T 6 : Nat)])
 obtain ⟨hb, hhb⟩ : ∃ hb, hb = w1.heap.size := ⟨_, rfl⟩
 obtain ⟨W1, hW1⟩ : ∃ W1, W1 = w1.alloc (.cells #[.int .i64 (bat T 0 : Nat), .int .i64 (bat T 1 : Nat), .int .i64 (pat2 T 2 : Nat), .int .i64 (pat2 T 4 : Nat), .int .i64 (pat2 T 6 : Nat)] 106) := ⟨_, rfl⟩
 rw [← hW1] at HR HB HH ⊢
 rw [← hhb] at HH ⊢
 clear hW1 hhb hltr
 have hltr : rb < W1.heap.size := HR.out.lt
 have hS5 : W1.cell? ⟨hb, 0, none⟩ = some (.int .i64 (bat T 0 : Nat)) ∧ W1.cell? ⟨hb, 1, none⟩ = some (.int .i64 (bat T 1 : Nat)) ∧ W1.cell? ⟨hb, 2, none⟩ = some (.int .i64 (pat2 T 2 : Nat)) ∧ W1.cell? ⟨hb, 3, none⟩ = some (.int .i64 (pat2 T 4 : Nat)) ∧ W1.cell? ⟨hb, 4, none⟩ = some (.int .i64 (pat2 T 6 : Nat)) ∧ Below W1.heap.size W1 W1 := ⟨HH.out.cell 0, HH.out.cell 1, HH.out.cell 2, HH.out.cell 3, HH.out.cell 4, Below.refl _ _⟩
 refine wp_region_noPanic ?_
 refine wp_region_held_drew (S := (fun v => v.cell? ⟨hb, 0, none⟩ = some (.int .i64 (bat T 0 : Nat)) ∧ v.cell? ⟨hb, 1, none⟩ = some (.int .i64 (bat T 1 : Nat)) ∧ v.cell? ⟨hb, 2, none⟩ = some (.int .i64 (pat2 T 2 : Nat)) ∧ v.cell? ⟨hb, 3, none⟩ = some (.int .i64 (pat2 T 4 : Nat)) ∧ v.cell? ⟨hb, 4, none⟩ = some (.int .i64 (pat2 T 6 : Nat)) ∧ Below W1.heap.size W1 v)) (by kernel_rfl) (s5_drew hS5) (fun hHeld => ?_)
 refine tk 0 ?_
 refine tk 1 ?_
 refine tk 2 ?_
 refine tk 3 ?_
 refine tk 4 ?_
 refine wpAnyH_ready (rs := [5, 6]) (by kernel_rfl) (by simp) ?_
 refine AllReadyH.cons (o := ?or1_5) ?ir1_5 (fun K hK => ?sr1_5) (AllReadyH.cons (o := ?or1_6) ?ir1_6 (fun K hK => ?sr1_6) AllReadyH.nil)
 case ir1_5 => (simp only [List.getElem?_toArray, List.getElem?_cons_succ, List.getElem?_cons_zero]; rfl)
 case ir1_6 => (simp only [List.getElem?_toArray, List.getElem?_cons_succ, List.getElem?_cons_zero]; rfl)
 case' sr1_5 =>
  (go_simp; (go_at_call 177; refine (HBl.out _).mono ?_; rintro e wQ ⟨rfl, hbQ⟩))
  refine hK.out _ _ ?kr1_5 (fun hHeld => ?_)
  case kr1_5 => (try dsimp only); (first | with_reducible assumption | exact s5_bel (by assumption) (by assumption) | assumption | exact s5_alloc (by assumption) _)
  clear hK K
  try simp only [Act.put, List.setIfInBounds_toArray, List.set_cons_zero, List.set_cons_succ]
  have hbW : Below W1.heap.size W1 wQ := hHeld.2.2.2.2.2
  refine wpAnyH_ready (rs := [6]) (by kernel_rfl) (by simp) ?_
  refine AllReadyH.cons (o := ?or1b1_6) ?ir1b1_6 (fun K hK => ?sr1b1_6) AllReadyH.nil
  case ir1b1_6 => (simp only [List.getElem?_toArray, List.getElem?_cons_succ, List.getElem?_cons_zero]; rfl)
  ((go_simp; have hN6 : Blk (wQ.alloc (.cells #[.int .i64 0, .bool false, .int .i64 0, .string ByteArray.empty] 25)) wQ.heap.size 25 #[.int .i64 0, .bool false, .int .i64 0, .string ByteArray.empty] := Blk.new wQ _ _; have k0 := hN6.cell 0; have k1 := hN6.cell 1; have k2 := hN6.cell 2; have k3 := hN6.cell 3; have kf0 := hN6.frozen 0; have kf1 := hN6.frozen 1; have kf2 := hN6.frozen 2; have kf3 := hN6.frozen 3))
  refine hK.out _ _ ?kr1b1_6 (fun hHeld => ?_)
  case kr1b1_6 => (try dsimp only); (first | with_reducible assumption | exact s5_bel (by assumption) (by assumption) | assumption | exact s5_alloc (by assumption) _)
  clear hK K
  try simp only [Act.put, List.setIfInBounds_toArray, List.set_cons_zero, List.set_cons_succ]
  refine wpAnyH_ready (rs := [7]) (by kernel_rfl) (by simp) ?_
  refine AllReadyH.cons (o := ?or1b1_7) ?ir1b1_7 (fun K hK => ?sr1b1_7) AllReadyH.nil
  case ir1b1_7 => (simp only [List.getElem?_toArray, List.getElem?_cons_succ, List.getElem?_cons_zero]; rfl)
  go_simp
  have KH1 := HH.out.on hbW
  have KR1 := HR.out.on hbW
  refine hK.out _ _ ?ke1 (fun hHeld => ?_)
  case ke1 => exact ⟨(KH1.alloc _).cell 0, (KH1.alloc _).cell 1, (KH1.alloc _).cell 2, (KH1.alloc _).cell 3, (KH1.alloc _).cell 4, bel_alloc hbW _⟩
  clear hK K
  refine wpAnyH_done (by kernel_rfl) ?_ _
  refine NoPanic.normal ?_
  obtain ⟨V, hV⟩ : ∃ V, V = wQ.alloc (.cells #[.int .i64 b.n, .bool b.raw, .int .i64 b.z, .string b.body] 25) := ⟨_, rfl⟩
  obtain ⟨nb, hnb⟩ : ∃ nb, nb = wQ.heap.size := ⟨_, rfl⟩
  have KB := hid (Blk.new wQ 25 #[.int .i64 b.n, .bool b.raw, .int .i64 b.z, .string b.body])
  replace HR := hid (KR1.alloc (.cells #[.int .i64 b.n, .bool b.raw, .int .i64 b.z, .string b.body] 25))
  replace HB := hid (bel_trans HB.out (bel_alloc hbW (.cells #[.int .i64 b.n, .bool b.raw, .int .i64 b.z, .string b.body] 25)))
  rw [← hV, ← hnb] at KB
  rw [← hV] at HR HB
  rw [← hV, ← hnb]
  clear hHeld KH1 KR1 hbW k0 k1 k2 k3 kf0 kf1 kf2 kf3 hN6 hS5 hltr HH hV hnb
 case' sr1_6 =>
  ((go_simp; have hN6 : Blk (W1.alloc (.cells #[.int .i64 0, .bool false, .int .i64 0, .string ByteArray.empty] 25)).drew W1.heap.size 25 #[.int .i64 0, .bool false, .int .i64 0, .string ByteArray.empty] := (Blk.new W1 _ _).drew))
  refine hK.out _ _ ?kr1_6 (fun hHeld => ?_)
  case kr1_6 => (try dsimp only); (first | with_reducible assumption | exact s5_bel (by assumption) (by assumption) | assumption | exact s5_alloc (by assumption) _)
  clear hK K
  try simp only [Act.put, List.setIfInBounds_toArray, List.set_cons_zero, List.set_cons_succ]
  refine wpAnyH_ready (rs := [5]) (by kernel_rfl) (by simp) ?_
  refine AllReadyH.cons (o := ?or1b2_5) ?ir1b2_5 (fun K hK => ?sr1b2_5) AllReadyH.nil
  case ir1b2_5 => (simp only [List.getElem?_toArray, List.getElem?_cons_succ, List.getElem?_cons_zero]; rfl)
  (go_simp; (go_at_call 177; refine (HBl.out _).mono ?_; rintro e wQ ⟨rfl, hbQ⟩))
  have kN := hN6.on hbQ
  have k0 := kN.cell 0
  have k1 := kN.cell 1
  have k2 := kN.cell 2
  have k3 := kN.cell 3
  have kf0 := kN.frozen 0
  have kf1 := kN.frozen 1
  have kf2 := kN.frozen 2
  have kf3 := kN.frozen 3
  refine hK.out _ _ ?kr1b2_5 (fun hHeld => ?_)
  case kr1b2_5 => (try dsimp only); (first | with_reducible assumption | exact s5_bel (by assumption) (by assumption) | assumption | exact s5_alloc (by assumption) _)
  clear hK K
  try simp only [Act.put, List.setIfInBounds_toArray, List.set_cons_zero, List.set_cons_succ]
  have hbW : Below W1.heap.size W1 wQ := hHeld.2.2.2.2.2
  refine wpAnyH_ready (rs := [7]) (by kernel_rfl) (by simp) ?_
  refine AllReadyH.cons (o := ?or1b2_7) ?ir1b2_7 (fun K hK => ?sr1b2_7) AllReadyH.nil
  case ir1b2_7 => (simp only [List.getElem?_toArray, List.getElem?_cons_succ, List.getElem?_cons_zero]; rfl)
  go_simp
  have KH1 := HH.out.on hbW
  have KR1 := HR.out.on hbW
  have hbn1 : hb ≠ W1.heap.size := by have := HH.out.lt; omega
  have hrn1 : rb ≠ W1.heap.size := by omega
  have KH2 := (((KH1.far 0 (.int .i64 b.n) hbn1).far 1 (.bool b.raw) hbn1).far 2 (.int .i64 b.z) hbn1).far 3 (.string b.body) hbn1
  have KR2 := (((KR1.far 0 (.int .i64 b.n) hrn1).far 1 (.bool b.raw) hrn1).far 2 (.int .i64 b.z) hrn1).far 3 (.string b.body) hrn1
  have KB2 := kN.put4y (.int .i64 b.n) (.bool b.raw) (.int .i64 b.z) (.string b.body)
  have hbW2 := bel_set (bel_set (bel_set (bel_set hbW (p := ⟨W1.heap.size, 0, none⟩) (Nat.le_refl _) (.int .i64 b.n)) (p := ⟨W1.heap.size, 1, none⟩) (Nat.le_refl _) (.bool b.raw)) (p := ⟨W1.heap.size, 2, none⟩) (Nat.le_refl _) (.int .i64 b.z)) (p := ⟨W1.heap.size, 3, none⟩) (Nat.le_refl _) (.string b.body)
  refine hK.out _ _ ?ke2 (fun hHeld => ?_)
  case ke2 => exact ⟨KH2.cell 0, KH2.cell 1, KH2.cell 2, KH2.cell 3, KH2.cell 4, hbW2⟩
  clear hK K
  refine wpAnyH_done (by kernel_rfl) ?_ _
  refine NoPanic.normal ?_
  obtain ⟨V, hV⟩ : ∃ V, V = (((wQ.setCell ⟨W1.heap.size, 0, none⟩ (.int .i64 b.n)).setCell ⟨W1.heap.size, 1, none⟩ (.bool b.raw)).setCell ⟨W1.heap.size, 2, none⟩ (.int .i64 b.z)).setCell ⟨W1.heap.size, 3, none⟩ (.string b.body) := ⟨_, rfl⟩
  obtain ⟨nb, hnb⟩ : ∃ nb, nb = W1.heap.size := ⟨_, rfl⟩
  have KB := hid KB2
  replace HB := hid (bel_trans HB.out hbW2)
  replace HR := hid KR2
  rw [← hV, ← hnb] at KB
  rw [← hV] at HR HB
  rw [← hV, ← hnb]
  clear hHeld KH1 KR1 KH2 KR2 KB2 hbW2 hbn1 hrn1 hbW k0 k1 k2 k3 kf0 kf1 kf2 kf3 hN6 kN hS5 hltr HH hV hnb
 all_goals
  have hltV : rb < V.heap.size := HR.out.lt
  have hltB : nb < V.heap.size := KB.out.lt
  go_wp2_with fail
  have hS4 : V.cell? ⟨nb, 0, none⟩ = some (.int .i64 b.n) ∧ V.cell? ⟨nb, 1, none⟩ = some (.bool b.raw) ∧ V.cell? ⟨nb, 2, none⟩ = some (.int .i64 b.z) ∧ V.cell? ⟨nb, 3, none⟩ = some (.string b.body) ∧ Below V.heap.size V V := ⟨KB.out.cell 0, KB.out.cell 1, KB.out.cell 2, KB.out.cell 3, Below.refl _ _⟩
  refine qB (S := (fun v => v.cell? ⟨nb, 0, none⟩ = some (.int .i64 b.n) ∧ v.cell? ⟨nb, 1, none⟩ = some (.bool b.raw) ∧ v.cell? ⟨nb, 2, none⟩ = some (.int .i64 b.z) ∧ v.cell? ⟨nb, 3, none⟩ = some (.string b.body) ∧ Below V.heap.size V v)) (by kernel_rfl) (by kernel_rfl) (s4_drew hS4) ?_
  refine qK ?_
  refine qC (fun wq hSq => HV.out wq (HG.out.on (bel_trans HB.out hSq.2.2.2.2)).lay) (fun wq wr hbr hSq => s4_bel hbr hSq) ?_
  refine qK ?_
  refine qK ?_
  refine qK ?_
  refine qC (fun wq hSq => HY.out wq (HG.out.on (bel_trans HB.out hSq.2.2.2.2)).lay) (fun wq wr hbr hSq => s4_bel hbr hSq) ?_
  refine qK ?_
  refine qK ?_
  refine qK ?_
  refine qK ?_
  refine qK ?_
  refine qK ?_
  refine qN ?_
  intro wq hSq
  (try dsimp only at hSq)
  have hbq := hSq.2.2.2.2
  replace HR := hid (HR.out.on hbq)
  replace KB := hid (KB.out.on hbq)
  replace HB := hid (bel_trans HB.out hbq)
  clear hSq hS4 hltV hltB hbq
  go_wp2_with fail
  obtain ⟨r0, r1, r2, r3⟩ := HR.out.cells4y
  have rf0 := HR.out.frozen 0
  have rf1 := HR.out.frozen 1
  have rf2 := HR.out.frozen 2
  have rf3 := HR.out.frozen 3
  have hgb := (HG.out.on HB.out).broken
  have hn3 := HN3.out.1
  have hn4 := HN3.out.2
  have hltr : rb < wq.heap.size := HR.out.lt
  go_region
  all_goals
   go_wp2
   obtain ⟨Wz, hWz⟩ : ∃ Wz, Wz = ((((wq.setCell ⟨rb, 0, none⟩ (.int .i64 0)).setCell ⟨rb, 1, none⟩ (.bool false)).setCell ⟨rb, 2, none⟩ (.int .i64 0)).setCell ⟨rb, 3, none⟩ (.string ByteArray.empty)).drew := ⟨_, rfl⟩
   have HZ : Blk Wz rb 25 #[.int .i64 0, .bool false, .int .i64 0, .string ByteArray.empty] := by rw [hWz]; exact (HR.out.put4y _ _ _ _).drew
   have HBz : Below w.heap.size w Wz := by rw [hWz]; exact bel_drew (bel_set (bel_set (bel_set (bel_set HB.out HLo.out _) HLo.out _) HLo.out _) HLo.out _)
   rw [show ((((wq.setCell ⟨rb, 0, none⟩ (.int .i64 0)).setCell ⟨rb, 1, none⟩ (.bool false)).setCell ⟨rb, 2, none⟩ (.int .i64 0)).setCell ⟨rb, 3, none⟩ (.string { data := #[] })).drew = Wz from hWz.symm]
   obtain ⟨z0, z1, z2, z3⟩ := HZ.cells4y
   clear hWz
   exact bodyPost_ret (v := noBl a0) (by simp [results, Tryz.results167, go_sem, z0, z1, z2, z3, noBl]) rfl ⟨rfl, HBz⟩

set_option maxHeartbeats 8000000 in
set_option maxRecDepth 100000 in
theorem c_readBlock_x3 (S : ByteArray) (A : Nat) (T : List UInt8) (w : World) (a0 a1 a2 : Addr) (hS : S.size ≤ 1000000000000) (hA : A ≤ S.size) (hT : T = S.data.toList.drop A) (hG : Glob0 w a0) (hd : hdOk T) (hl : 10 + pat2 T 6 ≤ T.length) (hk : (brd T).ok) (ht : (brd T).text = T.take (10 + pat2 T 6)) : Calls Tryz.prog 167 #[.string S, .int .i64 (A : Int)] w fun e w' => e = .returned (.tuple #[.agg #[.int .i64 (brd T).n, .bool (brd T).raw, .int .i64 (brd T).z, .string (brd T).body], .int .i64 ((A : Int) + 10 + (brd T).body.size), .nilIface]) ∧ Below w.heap.size w w' := by
 obtain ⟨b, hb0⟩ : ∃ b : Bl, b = brd T := ⟨_, rfl⟩
 have hp6 := hd.2.2.2.2.2
 have hbs : b.body.size = pat2 T 6 := by rw [hb0]; exact brd_size T hl
 have hbn : ((pat2 T 2 : Nat) : Int) = b.n := by rw [hb0]; rfl
 have hbz : ((pat2 T 4 : Nat) : Int) = b.z := by rw [hb0]; rfl
 have hbr : ((((bat T 1 : Nat) : Int)) == 0) = b.raw := by
  rw [hb0]
  show _ = (bat T 1 == 0)
  rw [Bool.eq_iff_iff]
  simp
 have hbb : (dr (dr S A) 8).extract 0 (pat2 T 6) = b.body := by
  rw [hb0, brd_eq]
  apply ByteArray.ext
  apply Array.toList_inj.1
  show _ = (str _).data.toList
  rw [str_list, ByteArray.data_extract, Array.toList_extract, dr_list, show (dr S A).data.toList = T from by rw [dr_list, hT], List.extract]
  simp
 have hTl0 : T.length = S.size - A := by rw [hT, List.length_drop]; simp
 have hsl2 : ∀ W, (Instr.slice 9 (.string (dr (dr S A) 8)) none (some (.int .i64 ((pat2 T 6 : Nat) : Int))) none).run Tryz.prog W = .ok (.string b.body) W := fun W => by
  rw [run_slice_string_h W 9 (dr (dr S A) 8) Tryz.underlying9 .i64 ((pat2 T 6 : Nat) : Int) (by omega) (by rw [dr_size, dr_size]; omega), ← hbb]; rfl
 have HBl := hid (show ∀ (v : World), Calls Tryz.prog 177 #[.agg #[.int .i64 (bat T 0 : Nat), .int .i64 (bat T 1 : Nat), .int .i64 (pat2 T 2 : Nat), .int .i64 (pat2 T 4 : Nat), .int .i64 (pat2 T 6 : Nat)], .string b.body] v fun e w' => e = .returned (.agg #[.int .i64 b.n, .bool b.raw, .int .i64 b.z, .string b.body]) ∧ Below v.heap.size v w' by
  intro v
  rw [← hbn, ← hbz, ← hbr]
  exact c_hblock (bat T 0 : Nat) (bat T 1 : Nat) (pat2 T 2 : Nat) (pat2 T 4 : Nat) (pat2 T 6 : Nat) b.body v)
 have HB0 := hid hb0
 have hbn2 : -9223372036854775808 ≤ b.n ∧ b.n ≤ 9223372036854775807 := by rw [← hbn]; have := bat_lt T 2; have := bat_lt T (2 + 1); unfold pat2; omega
 have hbz2 : -9223372036854775808 ≤ b.z ∧ b.z ≤ 9223372036854775807 := by rw [← hbz]; have := bat_lt T 4; have := bat_lt T (4 + 1); unfold pat2; omega
 have HV := hid (fun (v : World) (hL : Lay v) => c_blockValid b v hL hbn2 hbz2 (by unfold maxLen; omega))
 clear hbn hbz hbr hbn2 hbz2
 rw [← hb0] at hk ht ⊢
 rw [decide_eq_true hk] at HV
 obtain ⟨Y, hY⟩ : ∃ Y, Y = str b.text := ⟨_, rfl⟩
 have HY := hid (fun (v : World) (hL : Lay v) => c_blockBytes b v hk hL)
 rw [← hY] at HY
 obtain ⟨X, hX⟩ : ∃ X, X = S.extract A (A + 10 + pat2 T 6) := ⟨_, rfl⟩
 have hXl : X.data.toList = T.take (10 + pat2 T 6) := by
  rw [hX, ByteArray.data_extract, Array.toList_extract, hT, List.extract]
  congr 1
  omega
 have hslX : ∀ W, (Instr.slice 9 (.string S) (some (.int .i64 (A : Int))) (some (.int .i64 ((A : Int) + 10 + ((pat2 T 6 : Nat) : Int)))) none).run Tryz.prog W = .ok (.string X) W := fun W => by
  have e1 : ((A : Int)).toNat = A := by omega
  have e2 : ((A : Int) + 10 + ((pat2 T 6 : Nat) : Int)).toNat = A + 10 + pat2 T 6 := by omega
  rw [run_slice_string W 9 S .i64 .i64 (A : Int) ((A : Int) + 10 + ((pat2 T 6 : Nat) : Int)) Tryz.underlying9 (by omega) (by omega) (by omega), e1, e2, hX]
 have hYX : Y = X := ByteArray.ext (Array.toList_inj.1 (by rw [hXl, hY, str_list, ht]))
 subst hYX
 clear ht hY hX hXl hk
 have hT2 : (dr S A).data.toList = T := by rw [dr_list, hT]
 have hTl : T.length = S.size - A := by rw [hT, List.length_drop]; simp
 have hsl : ∀ W, (Instr.slice 9 (.string S) (some (.int .i64 (A : Int))) none none).run Tryz.prog W = .ok (.string (dr S A)) W := fun W => by rw [run_slice_string_l W 9 S Tryz.underlying9 .i64 (A : Int) (by omega) (by omega)]; rfl
 have hd1 : decide ((A : Int) < 0) = false := decide_eq_false (by omega)
 have hd2 : decide ((S.size : Int) < (A : Int)) = false := decide_eq_false (by omega)
 have HRh := hid (fun (v : World) (hv : Glob0 v a0) => rh_yes (dr S A) v a0 a1 a2 (by unfold maxLen; rw [dr_size]; omega) hv (by rw [hT2]; exact hd))
 simp only [hT2] at HRh
 have HG := hid hG
 have HR := hid (Blk.new w 25 #[.int .i64 0, .bool false, .int .i64 0, .string ByteArray.empty])
 have HB := hid (bel_alloc (Below.refl _ w) (.cells #[.int .i64 0, .bool false, .int .i64 0, .string ByteArray.empty] 25))
 have hlt3 : 3 < w.heap.size := World.block_lt_of_cell? _ _ hG.broken
 obtain ⟨rb, hrb⟩ : ∃ rb, rb = w.heap.size := ⟨_, rfl⟩
 have HN3 := hid (show ¬ (rb = 3) ∧ ¬ (3 = rb) by omega)
 have HLo := hid (show w.heap.size ≤ rb by omega)
 clear hG hlt3
 clear hd hT2 hT hbb hb0
 go_enter Tryz.func167, Tryz.ntmps167
 go_wp2_with fail
 obtain ⟨W, hW⟩ : ∃ W, W = w.alloc (.cells #[.int .i64 0, .bool false, .int .i64 0, .string ByteArray.empty] 25) := ⟨_, rfl⟩
 rw [← hW, ← hrb] at HR
 rw [← hW] at HB
 rw [show w.alloc (.cells #[.int .i64 0, .bool false, .int .i64 0, .string { data := #[] }] 25) = W from hW.symm, ← hrb]
 clear hW hrb
 have hltr : rb < W.heap.size := HR.out.lt
 refine (HRh.out _ (HG.out.on HB.out)).mono ?_
 rintro e w1 ⟨rfl, hb1⟩
 replace HR := hid (HR.out.on hb1)
 replace HB := hid (bel_trans HB.out hb1)
 clear hltr hb1 HRh W
 have hltr : rb < w1.heap.size := HR.out.lt
 have hd3 : decide ((S.size : Int) < (A : Int) + 10 + ((pat2 T 6 : Nat) : Int)) = false := decide_eq_false (by omega)
 go_wp2_with fail
 replace HR := hid (HR.out.alloc (.cells #[.int .i64 (bat T 0 : Nat), .int .i64 (bat T 1 : Nat), .int .i64 (pat2 T 2 : Nat), .int .i64 (pat2 T 4 : Nat), .int .i64 (pat2 T 6 : Nat)] 106))
 replace HB := hid (bel_alloc HB.out (.cells #[.int .i64 (bat T 0 : Nat), .int .i64 (bat T 1 : Nat), .int .i64 (pat2 T 2 : Nat), .int .i64 (pat2 T 4 : Nat), .int .i64 (pat2 T 6 : Nat)] 106))
 have HH := hid (Blk.new w1 106 #[.int .i64 (bat T 0 : Nat), .int .i64 (bat T 1 : Nat), .int .i64 (pat2 T 2 : Nat), .int .i64 (pat2 T 4 : Nat), .int .i64 (pat2 T 6 : Nat)])
 obtain ⟨hb, hhb⟩ : ∃ hb, hb = w1.heap.size := ⟨_, rfl⟩
 obtain ⟨W1, hW1⟩ : ∃ W1, W1 = w1.alloc (.cells #[.int .i64 (bat T 0 : Nat), .int .i64 (bat T 1 : Nat), .int .i64 (pat2 T 2 : Nat), .int .i64 (pat2 T 4 : Nat), .int .i64 (pat2 T 6 : Nat)] 106) := ⟨_, rfl⟩
 rw [← hW1] at HR HB HH ⊢
 rw [← hhb] at HH ⊢
 clear hW1 hhb hltr
 have hltr : rb < W1.heap.size := HR.out.lt
 have hS5 : W1.cell? ⟨hb, 0, none⟩ = some (.int .i64 (bat T 0 : Nat)) ∧ W1.cell? ⟨hb, 1, none⟩ = some (.int .i64 (bat T 1 : Nat)) ∧ W1.cell? ⟨hb, 2, none⟩ = some (.int .i64 (pat2 T 2 : Nat)) ∧ W1.cell? ⟨hb, 3, none⟩ = some (.int .i64 (pat2 T 4 : Nat)) ∧ W1.cell? ⟨hb, 4, none⟩ = some (.int .i64 (pat2 T 6 : Nat)) ∧ Below W1.heap.size W1 W1 := ⟨HH.out.cell 0, HH.out.cell 1, HH.out.cell 2, HH.out.cell 3, HH.out.cell 4, Below.refl _ _⟩
 refine wp_region_noPanic ?_
 refine wp_region_held_drew (S := (fun v => v.cell? ⟨hb, 0, none⟩ = some (.int .i64 (bat T 0 : Nat)) ∧ v.cell? ⟨hb, 1, none⟩ = some (.int .i64 (bat T 1 : Nat)) ∧ v.cell? ⟨hb, 2, none⟩ = some (.int .i64 (pat2 T 2 : Nat)) ∧ v.cell? ⟨hb, 3, none⟩ = some (.int .i64 (pat2 T 4 : Nat)) ∧ v.cell? ⟨hb, 4, none⟩ = some (.int .i64 (pat2 T 6 : Nat)) ∧ Below W1.heap.size W1 v)) (by kernel_rfl) (s5_drew hS5) (fun hHeld => ?_)
 refine tk 0 ?_
 refine tk 1 ?_
 refine tk 2 ?_
 refine tk 3 ?_
 refine tk 4 ?_
 refine wpAnyH_ready (rs := [5, 6]) (by kernel_rfl) (by simp) ?_
 refine AllReadyH.cons (o := ?or1_5) ?ir1_5 (fun K hK => ?sr1_5) (AllReadyH.cons (o := ?or1_6) ?ir1_6 (fun K hK => ?sr1_6) AllReadyH.nil)
 case ir1_5 => (simp only [List.getElem?_toArray, List.getElem?_cons_succ, List.getElem?_cons_zero]; rfl)
 case ir1_6 => (simp only [List.getElem?_toArray, List.getElem?_cons_succ, List.getElem?_cons_zero]; rfl)
 case' sr1_5 =>
  (go_simp; (go_at_call 177; refine (HBl.out _).mono ?_; rintro e wQ ⟨rfl, hbQ⟩))
  refine hK.out _ _ ?kr1_5 (fun hHeld => ?_)
  case kr1_5 => (try dsimp only); (first | with_reducible assumption | exact s5_bel (by assumption) (by assumption) | assumption | exact s5_alloc (by assumption) _)
  clear hK K
  try simp only [Act.put, List.setIfInBounds_toArray, List.set_cons_zero, List.set_cons_succ]
  have hbW : Below W1.heap.size W1 wQ := hHeld.2.2.2.2.2
  refine wpAnyH_ready (rs := [6]) (by kernel_rfl) (by simp) ?_
  refine AllReadyH.cons (o := ?or1b1_6) ?ir1b1_6 (fun K hK => ?sr1b1_6) AllReadyH.nil
  case ir1b1_6 => (simp only [List.getElem?_toArray, List.getElem?_cons_succ, List.getElem?_cons_zero]; rfl)
  ((go_simp; have hN6 : Blk (wQ.alloc (.cells #[.int .i64 0, .bool false, .int .i64 0, .string ByteArray.empty] 25)) wQ.heap.size 25 #[.int .i64 0, .bool false, .int .i64 0, .string ByteArray.empty] := Blk.new wQ _ _; have k0 := hN6.cell 0; have k1 := hN6.cell 1; have k2 := hN6.cell 2; have k3 := hN6.cell 3; have kf0 := hN6.frozen 0; have kf1 := hN6.frozen 1; have kf2 := hN6.frozen 2; have kf3 := hN6.frozen 3))
  refine hK.out _ _ ?kr1b1_6 (fun hHeld => ?_)
  case kr1b1_6 => (try dsimp only); (first | with_reducible assumption | exact s5_bel (by assumption) (by assumption) | assumption | exact s5_alloc (by assumption) _)
  clear hK K
  try simp only [Act.put, List.setIfInBounds_toArray, List.set_cons_zero, List.set_cons_succ]
  refine wpAnyH_ready (rs := [7]) (by kernel_rfl) (by simp) ?_
  refine AllReadyH.cons (o := ?or1b1_7) ?ir1b1_7 (fun K hK => ?sr1b1_7) AllReadyH.nil
  case ir1b1_7 => (simp only [List.getElem?_toArray, List.getElem?_cons_succ, List.getElem?_cons_zero]; rfl)
  go_simp
  have KH1 := HH.out.on hbW
  have KR1 := HR.out.on hbW
  refine hK.out _ _ ?ke1 (fun hHeld => ?_)
  case ke1 => exact ⟨(KH1.alloc _).cell 0, (KH1.alloc _).cell 1, (KH1.alloc _).cell 2, (KH1.alloc _).cell 3, (KH1.alloc _).cell 4, bel_alloc hbW _⟩
  clear hK K
  refine wpAnyH_done (by kernel_rfl) ?_ _
  refine NoPanic.normal ?_
  obtain ⟨V, hV⟩ : ∃ V, V = wQ.alloc (.cells #[.int .i64 b.n, .bool b.raw, .int .i64 b.z, .string b.body] 25) := ⟨_, rfl⟩
  obtain ⟨nb, hnb⟩ : ∃ nb, nb = wQ.heap.size := ⟨_, rfl⟩
  have KB := hid (Blk.new wQ 25 #[.int .i64 b.n, .bool b.raw, .int .i64 b.z, .string b.body])
  replace HR := hid (KR1.alloc (.cells #[.int .i64 b.n, .bool b.raw, .int .i64 b.z, .string b.body] 25))
  replace HB := hid (bel_trans HB.out (bel_alloc hbW (.cells #[.int .i64 b.n, .bool b.raw, .int .i64 b.z, .string b.body] 25)))
  rw [← hV, ← hnb] at KB
  rw [← hV] at HR HB
  rw [← hV, ← hnb]
  clear hHeld KH1 KR1 hbW k0 k1 k2 k3 kf0 kf1 kf2 kf3 hN6 hS5 hltr HH hV hnb
 case' sr1_6 =>
  ((go_simp; have hN6 : Blk (W1.alloc (.cells #[.int .i64 0, .bool false, .int .i64 0, .string ByteArray.empty] 25)).drew W1.heap.size 25 #[.int .i64 0, .bool false, .int .i64 0, .string ByteArray.empty] := (Blk.new W1 _ _).drew))
  refine hK.out _ _ ?kr1_6 (fun hHeld => ?_)
  case kr1_6 => (try dsimp only); (first | with_reducible assumption | exact s5_bel (by assumption) (by assumption) | assumption | exact s5_alloc (by assumption) _)
  clear hK K
  try simp only [Act.put, List.setIfInBounds_toArray, List.set_cons_zero, List.set_cons_succ]
  refine wpAnyH_ready (rs := [5]) (by kernel_rfl) (by simp) ?_
  refine AllReadyH.cons (o := ?or1b2_5) ?ir1b2_5 (fun K hK => ?sr1b2_5) AllReadyH.nil
  case ir1b2_5 => (simp only [List.getElem?_toArray, List.getElem?_cons_succ, List.getElem?_cons_zero]; rfl)
  (go_simp; (go_at_call 177; refine (HBl.out _).mono ?_; rintro e wQ ⟨rfl, hbQ⟩))
  have kN := hN6.on hbQ
  have k0 := kN.cell 0
  have k1 := kN.cell 1
  have k2 := kN.cell 2
  have k3 := kN.cell 3
  have kf0 := kN.frozen 0
  have kf1 := kN.frozen 1
  have kf2 := kN.frozen 2
  have kf3 := kN.frozen 3
  refine hK.out _ _ ?kr1b2_5 (fun hHeld => ?_)
  case kr1b2_5 => (try dsimp only); (first | with_reducible assumption | exact s5_bel (by assumption) (by assumption) | assumption | exact s5_alloc (by assumption) _)
  clear hK K
  try simp only [Act.put, List.setIfInBounds_toArray, List.set_cons_zero, List.set_cons_succ]
  have hbW : Below W1.heap.size W1 wQ := hHeld.2.2.2.2.2
  refine wpAnyH_ready (rs := [7]) (by kernel_rfl) (by simp) ?_
  refine AllReadyH.cons (o := ?or1b2_7) ?ir1b2_7 (fun K hK => ?sr1b2_7) AllReadyH.nil
  case ir1b2_7 => (simp only [List.getElem?_toArray, List.getElem?_cons_succ, List.getElem?_cons_zero]; rfl)
  go_simp
  have KH1 := HH.out.on hbW
  have KR1 := HR.out.on hbW
  have hbn1 : hb ≠ W1.heap.size := by have := HH.out.lt; omega
  have hrn1 : rb ≠ W1.heap.size := by omega
  have KH2 := (((KH1.far 0 (.int .i64 b.n) hbn1).far 1 (.bool b.raw) hbn1).far 2 (.int .i64 b.z) hbn1).far 3 (.string b.body) hbn1
  have KR2 := (((KR1.far 0 (.int .i64 b.n) hrn1).far 1 (.bool b.raw) hrn1).far 2 (.int .i64 b.z) hrn1).far 3 (.string b.body) hrn1
  have KB2 := kN.put4y (.int .i64 b.n) (.bool b.raw) (.int .i64 b.z) (.string b.body)
  have hbW2 := bel_set (bel_set (bel_set (bel_set hbW (p := ⟨W1.heap.size, 0, none⟩) (Nat.le_refl _) (.int .i64 b.n)) (p := ⟨W1.heap.size, 1, none⟩) (Nat.le_refl _) (.bool b.raw)) (p := ⟨W1.heap.size, 2, none⟩) (Nat.le_refl _) (.int .i64 b.z)) (p := ⟨W1.heap.size, 3, none⟩) (Nat.le_refl _) (.string b.body)
  refine hK.out _ _ ?ke2 (fun hHeld => ?_)
  case ke2 => exact ⟨KH2.cell 0, KH2.cell 1, KH2.cell 2, KH2.cell 3, KH2.cell 4, hbW2⟩
  clear hK K
  refine wpAnyH_done (by kernel_rfl) ?_ _
  refine NoPanic.normal ?_
  obtain ⟨V, hV⟩ : ∃ V, V = (((wQ.setCell ⟨W1.heap.size, 0, none⟩ (.int .i64 b.n)).setCell ⟨W1.heap.size, 1, none⟩ (.bool b.raw)).setCell ⟨W1.heap.size, 2, none⟩ (.int .i64 b.z)).setCell ⟨W1.heap.size, 3, none⟩ (.string b.body) := ⟨_, rfl⟩
  obtain ⟨nb, hnb⟩ : ∃ nb, nb = W1.heap.size := ⟨_, rfl⟩
  have KB := hid KB2
  replace HB := hid (bel_trans HB.out hbW2)
  replace HR := hid KR2
  rw [← hV, ← hnb] at KB
  rw [← hV] at HR HB
  rw [← hV, ← hnb]
  clear hHeld KH1 KR1 KH2 KR2 KB2 hbW2 hbn1 hrn1 hbW k0 k1 k2 k3 kf0 kf1 kf2 kf3 hN6 kN hS5 hltr HH hV hnb
 all_goals
  have hltV : rb < V.heap.size := HR.out.lt
  have hltB : nb < V.heap.size := KB.out.lt
  go_wp2_with fail
  have hS4 : V.cell? ⟨nb, 0, none⟩ = some (.int .i64 b.n) ∧ V.cell? ⟨nb, 1, none⟩ = some (.bool b.raw) ∧ V.cell? ⟨nb, 2, none⟩ = some (.int .i64 b.z) ∧ V.cell? ⟨nb, 3, none⟩ = some (.string b.body) ∧ Below V.heap.size V V := ⟨KB.out.cell 0, KB.out.cell 1, KB.out.cell 2, KB.out.cell 3, Below.refl _ _⟩
  refine qB (S := (fun v => v.cell? ⟨nb, 0, none⟩ = some (.int .i64 b.n) ∧ v.cell? ⟨nb, 1, none⟩ = some (.bool b.raw) ∧ v.cell? ⟨nb, 2, none⟩ = some (.int .i64 b.z) ∧ v.cell? ⟨nb, 3, none⟩ = some (.string b.body) ∧ Below V.heap.size V v)) (by kernel_rfl) (by kernel_rfl) (s4_drew hS4) ?_
  refine qK ?_
  refine qC (fun wq hSq => HV.out wq (HG.out.on (bel_trans HB.out hSq.2.2.2.2)).lay) (fun wq wr hbr hSq => s4_bel hbr hSq) ?_
  refine qK ?_
  refine qK ?_
  refine qK ?_
  refine qC (fun wq hSq => HY.out wq (HG.out.on (bel_trans HB.out hSq.2.2.2.2)).lay) (fun wq wr hbr hSq => s4_bel hbr hSq) ?_
  refine qK ?_
  refine qK ?_
  refine qK ?_
  refine qK ?_
  refine qK ?_
  refine qK ?_
  refine qN ?_
  intro wq hSq
  (try dsimp only at hSq)
  have hbq := hSq.2.2.2.2
  replace HR := hid (HR.out.on hbq)
  replace KB := hid (KB.out.on hbq)
  replace HB := hid (bel_trans HB.out hbq)
  clear hSq hS4 hltV hltB hbq
  obtain ⟨r0, r1, r2, r3⟩ := HR.out.cells4y
  obtain ⟨n0, n1, n2, n3⟩ := KB.out.cells4y
  have rf0 := HR.out.frozen 0
  have rf1 := HR.out.frozen 1
  have rf2 := HR.out.frozen 2
  have rf3 := HR.out.frozen 3
  have hltr : rb < wq.heap.size := HR.out.lt
  go_wp2_with fail
  obtain ⟨Wz, hWz⟩ : ∃ Wz, Wz = ((((wq.setCell ⟨rb, 0, none⟩ (.int .i64 b.n)).setCell ⟨rb, 1, none⟩ (.bool b.raw)).setCell ⟨rb, 2, none⟩ (.int .i64 b.z)).setCell ⟨rb, 3, none⟩ (.string b.body)) := ⟨_, rfl⟩
  rw [← hWz]
  have HZ : Blk Wz rb 25 #[.int .i64 b.n, .bool b.raw, .int .i64 b.z, .string b.body] := by rw [hWz]; exact HR.out.put4y _ _ _ _
  have HBz : Below w.heap.size w Wz := by rw [hWz]; exact bel_set (bel_set (bel_set (bel_set HB.out HLo.out _) HLo.out _) HLo.out _) HLo.out _
  obtain ⟨z0, z1, z2, z3⟩ := HZ.cells4y
  clear hWz n0 n1 n2 n3 r0 r1 r2 r3
  exact bodyPost_ret (v := .tuple #[.agg #[.int .i64 b.n, .bool b.raw, .int .i64 b.z, .string b.body], .int .i64 ((A : Int) + 10 + ((pat2 T 6 : Nat) : Int)), .nilIface]) (by simp [results, Tryz.results167, go_sem, z0, z1, z2, z3]) rfl ⟨by rw [hbs], HBz⟩
end Go.Proofs.YtmlaaammfnboiaaGreatDoor
