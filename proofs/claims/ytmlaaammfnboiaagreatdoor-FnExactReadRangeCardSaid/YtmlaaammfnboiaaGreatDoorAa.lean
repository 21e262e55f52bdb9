/- The contract of l2After. No condition but that what is known is valid. -/
import Derived.Test.YtmlaaammfnboiaaGreatDoorBh
namespace Go.Proofs.YtmlaaammfnboiaaGreatDoor
open Go.ChangeShapes Go.WideShapes Go.ChangeAt Go.RowKit Go.Joins
set_option linter.unusedVariables false

set_option maxHeartbeats 4000000 in
set_option maxRecDepth 100000 in
theorem c_l2After (k : Kn) (A : Option Addr) (cap L : Nat) (w : World) (h : PsAt w L A cap k.ps) (hL : L ≤ w.heap.size) (hk : k.Ok) (code : Int) (hc : k.Fol code) : Calls Tryz.prog 147 #[.agg #[.int .i64 k.o, .int .i64 k.l, .int .i64 k.m, .slice A k.ps.length cap, .int .i64 k.base, .int .i64 k.last], .int .i64 code] w fun e w' => ∃ A' cap', e = .returned (.agg #[.int .i64 k.o, .int .i64 k.l, .int .i64 k.m, .slice A' (k.after code).ps.length cap', .int .i64 k.base, .int .i64 code]) ∧ w'.ownsRow w.heap.size 175 2 (.slice A' (k.after code).ps.length cap') (k.after code).ps.length (prs (k.after code).ps) ∧ Below w.heap.size w w' := by
 have hlen := hk.len
 have HH := hid h
 have HG := hid (fun (v : World) => c_l2Grows k A cap v hk)
 have HA := hid (fun (v : World) (hb : Below w.heap.size w v) => c_l2Any k A cap w.heap.size v hk ((h.below hb hL).mono hL) hb.size code hc)
 clear h
 have kN0 := (Blk.new w 88 #[.int .i64 k.o, .int .i64 k.l, .int .i64 k.m, .slice A k.ps.length cap, .int .i64 k.base, .int .i64 k.last]).alloc (.cells #[.int .i64 0, .int .i64 0, .int .i64 0, .slice none 0 0, .int .i64 0, .int .i64 0] 88)
 have kR0 := Blk.top w (.cells #[.int .i64 k.o, .int .i64 k.l, .int .i64 k.m, .slice A k.ps.length cap, .int .i64 k.base, .int .i64 k.last] 88) 88 #[.int .i64 0, .int .i64 0, .int .i64 0, .slice none 0 0, .int .i64 0, .int .i64 0]
 go_enter Tryz.func147, Tryz.ntmps147
 go_wp2_with fail
 obtain ⟨W, hW⟩ : ∃ W, W = (w.alloc (.cells #[.int .i64 k.o, .int .i64 k.l, .int .i64 k.m, .slice A k.ps.length cap, .int .i64 k.base, .int .i64 k.last] 88)).alloc (.cells #[.int .i64 0, .int .i64 0, .int .i64 0, .slice none 0 0, .int .i64 0, .int .i64 0] 88) := ⟨_, rfl⟩
 have hBW : Below w.heap.size w W := by rw [hW]; exact obB
 have hs : w.heap.size + 2 ≤ W.heap.size := by rw [hW]; simp
 rw [← hW] at kN0 kR0
 rw [← hW]
 clear hW
 have hNR : w.heap.size ≠ w.heap.size + 1 := by omega
 have hS := kN0.cells6t
 have kNa := kN0.alloc (.cells #[] 175)
 have kRa := kR0.alloc (.cells #[] 175)
 have kNb := kNa.alloc (.cells #[.int .i64 0, .int .i64 0, .int .i64 0, .slice none 0 0, .int .i64 0, .int .i64 0] 88)
 have kRb := kRa.alloc (.cells #[.int .i64 0, .int .i64 0, .int .i64 0, .slice none 0 0, .int .i64 0, .int .i64 0] 88)
 have kNz := kN0.alloc (.cells #[.int .i64 0, .int .i64 0, .int .i64 0, .slice none 0 0, .int .i64 0, .int .i64 0] 88)
 have kNc := kNz.alloc (.cells #[] 175)
 have kRc := (kR0.alloc (.cells #[.int .i64 0, .int .i64 0, .int .i64 0, .slice none 0 0, .int .i64 0, .int .i64 0] 88)).alloc (.cells #[] 175)
 have kMb := Blk.top W (.cells #[] 175) 88 #[.int .i64 0, .int .i64 0, .int .i64 0, .slice none 0 0, .int .i64 0, .int .i64 0]
 have kMc := (Blk.new W 88 #[.int .i64 0, .int .i64 0, .int .i64 0, .slice none 0 0, .int .i64 0, .int .i64 0]).alloc (.cells #[] 175)
 have HQ := HH.out.on hBW hL
 have HQa : PsAt (W.alloc (.cells #[] 175)).drew L A cap k.ps := (HQ.alloc (Nat.le_trans hL hBW.size) (.cells #[] 175)).keep (fun _ _ => rfl)
 have HQb : PsAt ((W.alloc (.cells #[] 175)).alloc (.cells #[.int .i64 0, .int .i64 0, .int .i64 0, .slice none 0 0, .int .i64 0, .int .i64 0] 88)).drew L A cap k.ps := ((HQ.alloc (Nat.le_trans hL hBW.size) (.cells #[] 175)).alloc (by have := hBW.size; simp; omega) (.cells #[.int .i64 0, .int .i64 0, .int .i64 0, .slice none 0 0, .int .i64 0, .int .i64 0] 88)).keep (fun _ _ => rfl)
 have HQc : PsAt ((W.alloc (.cells #[.int .i64 0, .int .i64 0, .int .i64 0, .slice none 0 0, .int .i64 0, .int .i64 0] 88)).alloc (.cells #[] 175)).drew L A cap k.ps := ((HQ.alloc (Nat.le_trans hL hBW.size) (.cells #[.int .i64 0, .int .i64 0, .int .i64 0, .slice none 0 0, .int .i64 0, .int .i64 0] 88)).alloc (by have := hBW.size; simp; omega) (.cells #[] 175)).keep (fun _ _ => rfl)
 have HOa : World.ownsRow (W.alloc (.cells #[] 175)).drew (w.heap.size + 2) 175 2 (.slice (some ⟨W.heap.size, 0, none⟩) 0 0) 0 (prs []) := (World.ownsRow_made W #[] 0 hs (Nat.zero_le _) rfl).drew
 have HOb : World.ownsRow ((W.alloc (.cells #[] 175)).alloc (.cells #[.int .i64 0, .int .i64 0, .int .i64 0, .slice none 0 0, .int .i64 0, .int .i64 0] 88)).drew (w.heap.size + 2) 175 2 (.slice (some ⟨W.heap.size, 0, none⟩) 0 0) 0 (prs []) := ((World.ownsRow_made W #[] 0 hs (Nat.zero_le _) rfl).alloc _).drew
 have HOc : World.ownsRow ((W.alloc (.cells #[.int .i64 0, .int .i64 0, .int .i64 0, .slice none 0 0, .int .i64 0, .int .i64 0] 88)).alloc (.cells #[] 175)).drew (w.heap.size + 2) 175 2 (.slice (some ⟨W.heap.size + 1, 0, none⟩) 0 0) 0 (prs []) := by
  have q := (World.ownsRow_made (e := 175) (size := 2) (base := w.heap.size + 2) (W.alloc (.cells #[.int .i64 0, .int .i64 0, .int .i64 0, .slice none 0 0, .int .i64 0, .int .i64 0] 88)) #[] 0 (by simp; omega) (Nat.zero_le _) rfl).drew
  rw [World.size_alloc] at q
  exact q
 clear HQ
 refine wp_region_noPanic ?_
 refine wp_region_held_drew (S := (fun v => v.cell? ⟨w.heap.size, 0, none⟩ = some (.int .i64 k.o) ∧ v.cell? ⟨w.heap.size, 1, none⟩ = some (.int .i64 k.l) ∧ v.cell? ⟨w.heap.size, 2, none⟩ = some (.int .i64 k.m) ∧ v.cell? ⟨w.heap.size, 3, none⟩ = some (.slice A k.ps.length cap) ∧ v.cell? ⟨w.heap.size, 4, none⟩ = some (.int .i64 k.base) ∧ v.cell? ⟨w.heap.size, 5, none⟩ = some (.int .i64 k.last) ∧ True)) (by kernel_rfl) (t6_drew hS) (fun hHeld => ?_)
 refine tk 0 ?_
 refine tk 1 ?_
 refine tk 3 ?_
 refine tk 4 ?_
 refine tk 6 ?_
 refine tk 7 ?_
 refine tk 8 ?_
 refine wpAnyH_ready (rs := [2, 10]) (by kernel_rfl) (by simp) ?_
 refine AllReadyH.cons (o := ?or1_2) ?ir1_2 (fun K hK => ?sr1_2) (AllReadyH.cons (o := ?or1_10) ?ir1_10 (fun K hK => ?sr1_10) AllReadyH.nil)
 case ir1_2 => (simp only [List.getElem?_toArray, List.getElem?_cons_succ, List.getElem?_cons_zero]; rfl)
 case ir1_10 => (simp only [List.getElem?_toArray, List.getElem?_cons_succ, List.getElem?_cons_zero]; rfl)
 case' sr1_2 =>
  (first | (go_simp; (first | (have kM8 := Blk.new w9 88 #[.int .i64 0, .int .i64 0, .int .i64 0, .slice none 0 0, .int .i64 0, .int .i64 0]; have kN8 := kN9.alloc (.cells #[.int .i64 0, .int .i64 0, .int .i64 0, .slice none 0 0, .int .i64 0, .int .i64 0] 88); have kR8 := kR9.alloc (.cells #[.int .i64 0, .int .i64 0, .int .i64 0, .slice none 0 0, .int .i64 0, .int .i64 0] 88); have hd8 : w.heap.size ≠ w9.heap.size := Nat.ne_of_lt kN9.lt; obtain ⟨t0, t1, t2, t3, t4, t5⟩ := kM8.cells6; obtain ⟨v0, v1, v2, v3, v4, v5⟩ := kM8.free6) | skip | skip)))
  refine hK.out _ _ ?kr1_2 (fun hHeld => ?_)
  case kr1_2 => (try dsimp only); (first | with_reducible assumption | with_reducible exact kNa.cells6t | with_reducible exact kNb.cells6t | with_reducible exact kNc.cells6t | with_reducible exact kNz.cells6t | with_reducible exact kN9.cells6t | with_reducible exact kN8.cells6t | with_reducible exact ((((((kN9.far _ _ (by omega)).far _ _ (by omega)).far _ _ (by omega)).far _ _ (by omega)).far _ _ (by omega)).far _ _ (by omega)).cells6t | with_reducible exact ((((((kN8.far _ _ hd8).far _ _ hd8).far _ _ hd8).far _ _ hd8).far _ _ hd8).far _ _ hd8).cells6t | exact t6_bel (by assumption) (by assumption) | assumption | exact t6_alloc (by assumption) _ | exact kNa.cells6t | exact kNb.cells6t | exact kNc.cells6t | exact kNz.cells6t | exact kN9.cells6t | exact kN8.cells6t | exact ((((((kN9.far _ _ (by omega)).far _ _ (by omega)).far _ _ (by omega)).far _ _ (by omega)).far _ _ (by omega)).far _ _ (by omega)).cells6t | exact ((((((kN8.far _ _ hd8).far _ _ hd8).far _ _ hd8).far _ _ hd8).far _ _ hd8).far _ _ hd8).cells6t)
  clear hK K
  try simp only [Act.put, List.setIfInBounds_toArray, List.set_cons_zero, List.set_cons_succ]
  refine wpAnyH_ready (rs := [5, 10]) (by kernel_rfl) (by simp) ?_
  refine AllReadyH.cons (o := ?or1b1_5) ?ir1b1_5 (fun K hK => ?sr1b1_5) (AllReadyH.cons (o := ?or1b1_10) ?ir1b1_10 (fun K hK => ?sr1b1_10) AllReadyH.nil)
  case ir1b1_5 => (simp only [List.getElem?_toArray, List.getElem?_cons_succ, List.getElem?_cons_zero]; rfl)
  case ir1b1_10 => (simp only [List.getElem?_toArray, List.getElem?_cons_succ, List.getElem?_cons_zero]; rfl)
  case' sr1b1_5 =>
   (first | ((refine step_pairs (by rfl) (.tmp 8) (.tmp 10) 86 (by rfl) (w.heap.size + 2) 175 Tryz.underlying86 Tryz.info_pair _ 0 [] (by rfl) HOa A cap L k.ps.length k.ps HQa (by rfl) (by rfl) (by omega) (by simp; omega) ?_; intro v9 w9 hown9 hb9 hg9; obtain ⟨A9, c9, rfl, _, hl9, hA9⟩ := own_ps hown9; have kN9 := kNa.drew.below hb9 (by omega); have kR9 := kRa.drew.below hb9 (by omega))) | ((refine step_pairs (by rfl) (.tmp 8) (.tmp 10) 86 (by rfl) (w.heap.size + 2) 175 Tryz.underlying86 Tryz.info_pair _ 0 [] (by rfl) HOb A cap L k.ps.length k.ps HQb (by rfl) (by rfl) (by omega) (by simp; omega) ?_; intro v9 w9 hown9 hb9 hg9; obtain ⟨A9, c9, rfl, _, hl9, hA9⟩ := own_ps hown9; have kN9 := kNb.drew.below hb9 (by omega); have kR9 := kRb.drew.below hb9 (by omega); have kM9 := kMb.drew.grown hg9 (by simp [Value.ownBlock]); obtain ⟨t0, t1, t2, t3, t4, t5⟩ := kM9.cells6; obtain ⟨v0, v1, v2, v3, v4, v5⟩ := kM9.free6)) | ((refine step_pairs (by rfl) (.tmp 8) (.tmp 10) 86 (by rfl) (w.heap.size + 2) 175 Tryz.underlying86 Tryz.info_pair _ 0 [] (by rfl) HOc A cap L k.ps.length k.ps HQc (by rfl) (by rfl) (by omega) (by simp; omega) ?_; intro v9 w9 hown9 hb9 hg9; obtain ⟨A9, c9, rfl, _, hl9, hA9⟩ := own_ps hown9; have kN9 := kNc.drew.below hb9 (by omega); have kR9 := kRc.drew.below hb9 (by omega); have kM9 := kMc.drew.grown hg9 (by simp [Value.ownBlock]); obtain ⟨t0, t1, t2, t3, t4, t5⟩ := kM9.cells6; obtain ⟨v0, v1, v2, v3, v4, v5⟩ := kM9.free6)) | (go_simp; (first | (have kM8 := Blk.new w9 88 #[.int .i64 0, .int .i64 0, .int .i64 0, .slice none 0 0, .int .i64 0, .int .i64 0]; have kN8 := kN9.alloc (.cells #[.int .i64 0, .int .i64 0, .int .i64 0, .slice none 0 0, .int .i64 0, .int .i64 0] 88); have kR8 := kR9.alloc (.cells #[.int .i64 0, .int .i64 0, .int .i64 0, .slice none 0 0, .int .i64 0, .int .i64 0] 88); have hd8 : w.heap.size ≠ w9.heap.size := Nat.ne_of_lt kN9.lt; obtain ⟨t0, t1, t2, t3, t4, t5⟩ := kM8.cells6; obtain ⟨v0, v1, v2, v3, v4, v5⟩ := kM8.free6) | skip | skip)))
   refine hK.out _ _ ?kr1b1_5 (fun hHeld => ?_)
   case kr1b1_5 => (try dsimp only); (first | with_reducible assumption | with_reducible exact kNa.cells6t | with_reducible exact kNb.cells6t | with_reducible exact kNc.cells6t | with_reducible exact kNz.cells6t | with_reducible exact kN9.cells6t | with_reducible exact kN8.cells6t | with_reducible exact ((((((kN9.far _ _ (by omega)).far _ _ (by omega)).far _ _ (by omega)).far _ _ (by omega)).far _ _ (by omega)).far _ _ (by omega)).cells6t | with_reducible exact ((((((kN8.far _ _ hd8).far _ _ hd8).far _ _ hd8).far _ _ hd8).far _ _ hd8).far _ _ hd8).cells6t | exact t6_bel (by assumption) (by assumption) | assumption | exact t6_alloc (by assumption) _ | exact kNa.cells6t | exact kNb.cells6t | exact kNc.cells6t | exact kNz.cells6t | exact kN9.cells6t | exact kN8.cells6t | exact ((((((kN9.far _ _ (by omega)).far _ _ (by omega)).far _ _ (by omega)).far _ _ (by omega)).far _ _ (by omega)).far _ _ (by omega)).cells6t | exact ((((((kN8.far _ _ hd8).far _ _ hd8).far _ _ hd8).far _ _ hd8).far _ _ hd8).far _ _ hd8).cells6t)
   clear hK K
   try simp only [Act.put, List.setIfInBounds_toArray, List.set_cons_zero, List.set_cons_succ]
   refine tk 9 ?_
   refine wpAnyH_ready (rs := [10]) (by kernel_rfl) (by simp) ?_
   refine AllReadyH.cons (o := ?or1b1b2_10) ?ir1b1b2_10 (fun K hK => ?sr1b1b2_10) AllReadyH.nil
   case ir1b1b2_10 => (simp only [List.getElem?_toArray, List.getElem?_cons_succ, List.getElem?_cons_zero]; rfl)
   (first | (go_simp; (first | (have kM8 := Blk.new w9 88 #[.int .i64 0, .int .i64 0, .int .i64 0, .slice none 0 0, .int .i64 0, .int .i64 0]; have kN8 := kN9.alloc (.cells #[.int .i64 0, .int .i64 0, .int .i64 0, .slice none 0 0, .int .i64 0, .int .i64 0] 88); have kR8 := kR9.alloc (.cells #[.int .i64 0, .int .i64 0, .int .i64 0, .slice none 0 0, .int .i64 0, .int .i64 0] 88); have hd8 : w.heap.size ≠ w9.heap.size := Nat.ne_of_lt kN9.lt; obtain ⟨t0, t1, t2, t3, t4, t5⟩ := kM8.cells6; obtain ⟨v0, v1, v2, v3, v4, v5⟩ := kM8.free6) | skip | skip)))
   refine hK.out _ _ ?kr1b1b2_10 (fun hHeld => ?_)
   case kr1b1b2_10 => (try dsimp only); (first | with_reducible assumption | with_reducible exact kNa.cells6t | with_reducible exact kNb.cells6t | with_reducible exact kNc.cells6t | with_reducible exact kNz.cells6t | with_reducible exact kN9.cells6t | with_reducible exact kN8.cells6t | with_reducible exact ((((((kN9.far _ _ (by omega)).far _ _ (by omega)).far _ _ (by omega)).far _ _ (by omega)).far _ _ (by omega)).far _ _ (by omega)).cells6t | with_reducible exact ((((((kN8.far _ _ hd8).far _ _ hd8).far _ _ hd8).far _ _ hd8).far _ _ hd8).far _ _ hd8).cells6t | exact t6_bel (by assumption) (by assumption) | assumption | exact t6_alloc (by assumption) _ | exact kNa.cells6t | exact kNb.cells6t | exact kNc.cells6t | exact kNz.cells6t | exact kN9.cells6t | exact kN8.cells6t | exact ((((((kN9.far _ _ (by omega)).far _ _ (by omega)).far _ _ (by omega)).far _ _ (by omega)).far _ _ (by omega)).far _ _ (by omega)).cells6t | exact ((((((kN8.far _ _ hd8).far _ _ hd8).far _ _ hd8).far _ _ hd8).far _ _ hd8).far _ _ hd8).cells6t)
   clear hK K
   try simp only [Act.put, List.setIfInBounds_toArray, List.set_cons_zero, List.set_cons_succ]
   refine wpAnyH_ready (rs := [11]) (by kernel_rfl) (by simp) ?_
   refine AllReadyH.cons (o := ?or1b1b2_11) ?ir1b1b2_11 (fun K hK => ?sr1b1b2_11) AllReadyH.nil
   case ir1b1b2_11 => (simp only [List.getElem?_toArray, List.getElem?_cons_succ, List.getElem?_cons_zero]; rfl)
   (first | (go_simp; (first | (have kM8 := Blk.new w9 88 #[.int .i64 0, .int .i64 0, .int .i64 0, .slice none 0 0, .int .i64 0, .int .i64 0]; have kN8 := kN9.alloc (.cells #[.int .i64 0, .int .i64 0, .int .i64 0, .slice none 0 0, .int .i64 0, .int .i64 0] 88); have kR8 := kR9.alloc (.cells #[.int .i64 0, .int .i64 0, .int .i64 0, .slice none 0 0, .int .i64 0, .int .i64 0] 88); have hd8 : w.heap.size ≠ w9.heap.size := Nat.ne_of_lt kN9.lt; obtain ⟨t0, t1, t2, t3, t4, t5⟩ := kM8.cells6; obtain ⟨v0, v1, v2, v3, v4, v5⟩ := kM8.free6) | skip | skip)))
   refine hK.out _ _ ?kr1b1b2_11 (fun hHeld => ?_)
   case kr1b1b2_11 => (try dsimp only); (first | with_reducible assumption | with_reducible exact kNa.cells6t | with_reducible exact kNb.cells6t | with_reducible exact kNc.cells6t | with_reducible exact kNz.cells6t | with_reducible exact kN9.cells6t | with_reducible exact kN8.cells6t | with_reducible exact ((((((kN9.far _ _ (by omega)).far _ _ (by omega)).far _ _ (by omega)).far _ _ (by omega)).far _ _ (by omega)).far _ _ (by omega)).cells6t | with_reducible exact ((((((kN8.far _ _ hd8).far _ _ hd8).far _ _ hd8).far _ _ hd8).far _ _ hd8).far _ _ hd8).cells6t | exact t6_bel (by assumption) (by assumption) | assumption | exact t6_alloc (by assumption) _ | exact kNa.cells6t | exact kNb.cells6t | exact kNc.cells6t | exact kNz.cells6t | exact kN9.cells6t | exact kN8.cells6t | exact ((((((kN9.far _ _ (by omega)).far _ _ (by omega)).far _ _ (by omega)).far _ _ (by omega)).far _ _ (by omega)).far _ _ (by omega)).cells6t | exact ((((((kN8.far _ _ hd8).far _ _ hd8).far _ _ hd8).far _ _ hd8).far _ _ hd8).far _ _ hd8).cells6t)
   clear hK K
   try simp only [Act.put, List.setIfInBounds_toArray, List.set_cons_zero, List.set_cons_succ]
   refine wpAnyH_done (by kernel_rfl) ?_ _
   refine NoPanic.normal ?_
  case' sr1b1_10 =>
   (first | (go_simp; (first | (have kM8 := Blk.new w9 88 #[.int .i64 0, .int .i64 0, .int .i64 0, .slice none 0 0, .int .i64 0, .int .i64 0]; have kN8 := kN9.alloc (.cells #[.int .i64 0, .int .i64 0, .int .i64 0, .slice none 0 0, .int .i64 0, .int .i64 0] 88); have kR8 := kR9.alloc (.cells #[.int .i64 0, .int .i64 0, .int .i64 0, .slice none 0 0, .int .i64 0, .int .i64 0] 88); have hd8 : w.heap.size ≠ w9.heap.size := Nat.ne_of_lt kN9.lt; obtain ⟨t0, t1, t2, t3, t4, t5⟩ := kM8.cells6; obtain ⟨v0, v1, v2, v3, v4, v5⟩ := kM8.free6) | skip | skip)))
   refine hK.out _ _ ?kr1b1_10 (fun hHeld => ?_)
   case kr1b1_10 => (try dsimp only); (first | with_reducible assumption | with_reducible exact kNa.cells6t | with_reducible exact kNb.cells6t | with_reducible exact kNc.cells6t | with_reducible exact kNz.cells6t | with_reducible exact kN9.cells6t | with_reducible exact kN8.cells6t | with_reducible exact ((((((kN9.far _ _ (by omega)).far _ _ (by omega)).far _ _ (by omega)).far _ _ (by omega)).far _ _ (by omega)).far _ _ (by omega)).cells6t | with_reducible exact ((((((kN8.far _ _ hd8).far _ _ hd8).far _ _ hd8).far _ _ hd8).far _ _ hd8).far _ _ hd8).cells6t | exact t6_bel (by assumption) (by assumption) | assumption | exact t6_alloc (by assumption) _ | exact kNa.cells6t | exact kNb.cells6t | exact kNc.cells6t | exact kNz.cells6t | exact kN9.cells6t | exact kN8.cells6t | exact ((((((kN9.far _ _ (by omega)).far _ _ (by omega)).far _ _ (by omega)).far _ _ (by omega)).far _ _ (by omega)).far _ _ (by omega)).cells6t | exact ((((((kN8.far _ _ hd8).far _ _ hd8).far _ _ hd8).far _ _ hd8).far _ _ hd8).far _ _ hd8).cells6t)
   clear hK K
   try simp only [Act.put, List.setIfInBounds_toArray, List.set_cons_zero, List.set_cons_succ]
   refine wpAnyH_ready (rs := [5]) (by kernel_rfl) (by simp) ?_
   refine AllReadyH.cons (o := ?or1b1b3_5) ?ir1b1b3_5 (fun K hK => ?sr1b1b3_5) AllReadyH.nil
   case ir1b1b3_5 => (simp only [List.getElem?_toArray, List.getElem?_cons_succ, List.getElem?_cons_zero]; rfl)
   (first | ((refine step_pairs (by rfl) (.tmp 8) (.tmp 10) 86 (by rfl) (w.heap.size + 2) 175 Tryz.underlying86 Tryz.info_pair _ 0 [] (by rfl) HOa A cap L k.ps.length k.ps HQa (by rfl) (by rfl) (by omega) (by simp; omega) ?_; intro v9 w9 hown9 hb9 hg9; obtain ⟨A9, c9, rfl, _, hl9, hA9⟩ := own_ps hown9; have kN9 := kNa.drew.below hb9 (by omega); have kR9 := kRa.drew.below hb9 (by omega))) | ((refine step_pairs (by rfl) (.tmp 8) (.tmp 10) 86 (by rfl) (w.heap.size + 2) 175 Tryz.underlying86 Tryz.info_pair _ 0 [] (by rfl) HOb A cap L k.ps.length k.ps HQb (by rfl) (by rfl) (by omega) (by simp; omega) ?_; intro v9 w9 hown9 hb9 hg9; obtain ⟨A9, c9, rfl, _, hl9, hA9⟩ := own_ps hown9; have kN9 := kNb.drew.below hb9 (by omega); have kR9 := kRb.drew.below hb9 (by omega); have kM9 := kMb.drew.grown hg9 (by simp [Value.ownBlock]); obtain ⟨t0, t1, t2, t3, t4, t5⟩ := kM9.cells6; obtain ⟨v0, v1, v2, v3, v4, v5⟩ := kM9.free6)) | ((refine step_pairs (by rfl) (.tmp 8) (.tmp 10) 86 (by rfl) (w.heap.size + 2) 175 Tryz.underlying86 Tryz.info_pair _ 0 [] (by rfl) HOc A cap L k.ps.length k.ps HQc (by rfl) (by rfl) (by omega) (by simp; omega) ?_; intro v9 w9 hown9 hb9 hg9; obtain ⟨A9, c9, rfl, _, hl9, hA9⟩ := own_ps hown9; have kN9 := kNc.drew.below hb9 (by omega); have kR9 := kRc.drew.below hb9 (by omega); have kM9 := kMc.drew.grown hg9 (by simp [Value.ownBlock]); obtain ⟨t0, t1, t2, t3, t4, t5⟩ := kM9.cells6; obtain ⟨v0, v1, v2, v3, v4, v5⟩ := kM9.free6)) | (go_simp; (first | (have kM8 := Blk.new w9 88 #[.int .i64 0, .int .i64 0, .int .i64 0, .slice none 0 0, .int .i64 0, .int .i64 0]; have kN8 := kN9.alloc (.cells #[.int .i64 0, .int .i64 0, .int .i64 0, .slice none 0 0, .int .i64 0, .int .i64 0] 88); have kR8 := kR9.alloc (.cells #[.int .i64 0, .int .i64 0, .int .i64 0, .slice none 0 0, .int .i64 0, .int .i64 0] 88); have hd8 : w.heap.size ≠ w9.heap.size := Nat.ne_of_lt kN9.lt; obtain ⟨t0, t1, t2, t3, t4, t5⟩ := kM8.cells6; obtain ⟨v0, v1, v2, v3, v4, v5⟩ := kM8.free6) | skip | skip)))
   refine hK.out _ _ ?kr1b1b3_5 (fun hHeld => ?_)
   case kr1b1b3_5 => (try dsimp only); (first | with_reducible assumption | with_reducible exact kNa.cells6t | with_reducible exact kNb.cells6t | with_reducible exact kNc.cells6t | with_reducible exact kNz.cells6t | with_reducible exact kN9.cells6t | with_reducible exact kN8.cells6t | with_reducible exact ((((((kN9.far _ _ (by omega)).far _ _ (by omega)).far _ _ (by omega)).far _ _ (by omega)).far _ _ (by omega)).far _ _ (by omega)).cells6t | with_reducible exact ((((((kN8.far _ _ hd8).far _ _ hd8).far _ _ hd8).far _ _ hd8).far _ _ hd8).far _ _ hd8).cells6t | exact t6_bel (by assumption) (by assumption) | assumption | exact t6_alloc (by assumption) _ | exact kNa.cells6t | exact kNb.cells6t | exact kNc.cells6t | exact kNz.cells6t | exact kN9.cells6t | exact kN8.cells6t | exact ((((((kN9.far _ _ (by omega)).far _ _ (by omega)).far _ _ (by omega)).far _ _ (by omega)).far _ _ (by omega)).far _ _ (by omega)).cells6t | exact ((((((kN8.far _ _ hd8).far _ _ hd8).far _ _ hd8).far _ _ hd8).far _ _ hd8).far _ _ hd8).cells6t)
   clear hK K
   try simp only [Act.put, List.setIfInBounds_toArray, List.set_cons_zero, List.set_cons_succ]
   refine tk 9 ?_
   refine wpAnyH_ready (rs := [11]) (by kernel_rfl) (by simp) ?_
   refine AllReadyH.cons (o := ?or1b1b3_11) ?ir1b1b3_11 (fun K hK => ?sr1b1b3_11) AllReadyH.nil
   case ir1b1b3_11 => (simp only [List.getElem?_toArray, List.getElem?_cons_succ, List.getElem?_cons_zero]; rfl)
   (first | (go_simp; (first | (have kM8 := Blk.new w9 88 #[.int .i64 0, .int .i64 0, .int .i64 0, .slice none 0 0, .int .i64 0, .int .i64 0]; have kN8 := kN9.alloc (.cells #[.int .i64 0, .int .i64 0, .int .i64 0, .slice none 0 0, .int .i64 0, .int .i64 0] 88); have kR8 := kR9.alloc (.cells #[.int .i64 0, .int .i64 0, .int .i64 0, .slice none 0 0, .int .i64 0, .int .i64 0] 88); have hd8 : w.heap.size ≠ w9.heap.size := Nat.ne_of_lt kN9.lt; obtain ⟨t0, t1, t2, t3, t4, t5⟩ := kM8.cells6; obtain ⟨v0, v1, v2, v3, v4, v5⟩ := kM8.free6) | skip | skip)))
   refine hK.out _ _ ?kr1b1b3_11 (fun hHeld => ?_)
   case kr1b1b3_11 => (try dsimp only); (first | with_reducible assumption | with_reducible exact kNa.cells6t | with_reducible exact kNb.cells6t | with_reducible exact kNc.cells6t | with_reducible exact kNz.cells6t | with_reducible exact kN9.cells6t | with_reducible exact kN8.cells6t | with_reducible exact ((((((kN9.far _ _ (by omega)).far _ _ (by omega)).far _ _ (by omega)).far _ _ (by omega)).far _ _ (by omega)).far _ _ (by omega)).cells6t | with_reducible exact ((((((kN8.far _ _ hd8).far _ _ hd8).far _ _ hd8).far _ _ hd8).far _ _ hd8).far _ _ hd8).cells6t | exact t6_bel (by assumption) (by assumption) | assumption | exact t6_alloc (by assumption) _ | exact kNa.cells6t | exact kNb.cells6t | exact kNc.cells6t | exact kNz.cells6t | exact kN9.cells6t | exact kN8.cells6t | exact ((((((kN9.far _ _ (by omega)).far _ _ (by omega)).far _ _ (by omega)).far _ _ (by omega)).far _ _ (by omega)).far _ _ (by omega)).cells6t | exact ((((((kN8.far _ _ hd8).far _ _ hd8).far _ _ hd8).far _ _ hd8).far _ _ hd8).far _ _ hd8).cells6t)
   clear hK K
   try simp only [Act.put, List.setIfInBounds_toArray, List.set_cons_zero, List.set_cons_succ]
   refine wpAnyH_done (by kernel_rfl) ?_ _
   refine NoPanic.normal ?_
 case' sr1_10 =>
  (first | (go_simp; (first | (have kM8 := Blk.new w9 88 #[.int .i64 0, .int .i64 0, .int .i64 0, .slice none 0 0, .int .i64 0, .int .i64 0]; have kN8 := kN9.alloc (.cells #[.int .i64 0, .int .i64 0, .int .i64 0, .slice none 0 0, .int .i64 0, .int .i64 0] 88); have kR8 := kR9.alloc (.cells #[.int .i64 0, .int .i64 0, .int .i64 0, .slice none 0 0, .int .i64 0, .int .i64 0] 88); have hd8 : w.heap.size ≠ w9.heap.size := Nat.ne_of_lt kN9.lt; obtain ⟨t0, t1, t2, t3, t4, t5⟩ := kM8.cells6; obtain ⟨v0, v1, v2, v3, v4, v5⟩ := kM8.free6) | skip | skip)))
  refine hK.out _ _ ?kr1_10 (fun hHeld => ?_)
  case kr1_10 => (try dsimp only); (first | with_reducible assumption | with_reducible exact kNa.cells6t | with_reducible exact kNb.cells6t | with_reducible exact kNc.cells6t | with_reducible exact kNz.cells6t | with_reducible exact kN9.cells6t | with_reducible exact kN8.cells6t | with_reducible exact ((((((kN9.far _ _ (by omega)).far _ _ (by omega)).far _ _ (by omega)).far _ _ (by omega)).far _ _ (by omega)).far _ _ (by omega)).cells6t | with_reducible exact ((((((kN8.far _ _ hd8).far _ _ hd8).far _ _ hd8).far _ _ hd8).far _ _ hd8).far _ _ hd8).cells6t | exact t6_bel (by assumption) (by assumption) | assumption | exact t6_alloc (by assumption) _ | exact kNa.cells6t | exact kNb.cells6t | exact kNc.cells6t | exact kNz.cells6t | exact kN9.cells6t | exact kN8.cells6t | exact ((((((kN9.far _ _ (by omega)).far _ _ (by omega)).far _ _ (by omega)).far _ _ (by omega)).far _ _ (by omega)).far _ _ (by omega)).cells6t | exact ((((((kN8.far _ _ hd8).far _ _ hd8).far _ _ hd8).far _ _ hd8).far _ _ hd8).far _ _ hd8).cells6t)
  clear hK K
  try simp only [Act.put, List.setIfInBounds_toArray, List.set_cons_zero, List.set_cons_succ]
  refine wpAnyH_ready (rs := [2]) (by kernel_rfl) (by simp) ?_
  refine AllReadyH.cons (o := ?or1b4_2) ?ir1b4_2 (fun K hK => ?sr1b4_2) AllReadyH.nil
  case ir1b4_2 => (simp only [List.getElem?_toArray, List.getElem?_cons_succ, List.getElem?_cons_zero]; rfl)
  (first | (go_simp; (first | (have kM8 := Blk.new w9 88 #[.int .i64 0, .int .i64 0, .int .i64 0, .slice none 0 0, .int .i64 0, .int .i64 0]; have kN8 := kN9.alloc (.cells #[.int .i64 0, .int .i64 0, .int .i64 0, .slice none 0 0, .int .i64 0, .int .i64 0] 88); have kR8 := kR9.alloc (.cells #[.int .i64 0, .int .i64 0, .int .i64 0, .slice none 0 0, .int .i64 0, .int .i64 0] 88); have hd8 : w.heap.size ≠ w9.heap.size := Nat.ne_of_lt kN9.lt; obtain ⟨t0, t1, t2, t3, t4, t5⟩ := kM8.cells6; obtain ⟨v0, v1, v2, v3, v4, v5⟩ := kM8.free6) | skip | skip)))
  refine hK.out _ _ ?kr1b4_2 (fun hHeld => ?_)
  case kr1b4_2 => (try dsimp only); (first | with_reducible assumption | with_reducible exact kNa.cells6t | with_reducible exact kNb.cells6t | with_reducible exact kNc.cells6t | with_reducible exact kNz.cells6t | with_reducible exact kN9.cells6t | with_reducible exact kN8.cells6t | with_reducible exact ((((((kN9.far _ _ (by omega)).far _ _ (by omega)).far _ _ (by omega)).far _ _ (by omega)).far _ _ (by omega)).far _ _ (by omega)).cells6t | with_reducible exact ((((((kN8.far _ _ hd8).far _ _ hd8).far _ _ hd8).far _ _ hd8).far _ _ hd8).far _ _ hd8).cells6t | exact t6_bel (by assumption) (by assumption) | assumption | exact t6_alloc (by assumption) _ | exact kNa.cells6t | exact kNb.cells6t | exact kNc.cells6t | exact kNz.cells6t | exact kN9.cells6t | exact kN8.cells6t | exact ((((((kN9.far _ _ (by omega)).far _ _ (by omega)).far _ _ (by omega)).far _ _ (by omega)).far _ _ (by omega)).far _ _ (by omega)).cells6t | exact ((((((kN8.far _ _ hd8).far _ _ hd8).far _ _ hd8).far _ _ hd8).far _ _ hd8).far _ _ hd8).cells6t)
  clear hK K
  try simp only [Act.put, List.setIfInBounds_toArray, List.set_cons_zero, List.set_cons_succ]
  refine wpAnyH_ready (rs := [5]) (by kernel_rfl) (by simp) ?_
  refine AllReadyH.cons (o := ?or1b4_5) ?ir1b4_5 (fun K hK => ?sr1b4_5) AllReadyH.nil
  case ir1b4_5 => (simp only [List.getElem?_toArray, List.getElem?_cons_succ, List.getElem?_cons_zero]; rfl)
  (first | ((refine step_pairs (by rfl) (.tmp 8) (.tmp 10) 86 (by rfl) (w.heap.size + 2) 175 Tryz.underlying86 Tryz.info_pair _ 0 [] (by rfl) HOa A cap L k.ps.length k.ps HQa (by rfl) (by rfl) (by omega) (by simp; omega) ?_; intro v9 w9 hown9 hb9 hg9; obtain ⟨A9, c9, rfl, _, hl9, hA9⟩ := own_ps hown9; have kN9 := kNa.drew.below hb9 (by omega); have kR9 := kRa.drew.below hb9 (by omega))) | ((refine step_pairs (by rfl) (.tmp 8) (.tmp 10) 86 (by rfl) (w.heap.size + 2) 175 Tryz.underlying86 Tryz.info_pair _ 0 [] (by rfl) HOb A cap L k.ps.length k.ps HQb (by rfl) (by rfl) (by omega) (by simp; omega) ?_; intro v9 w9 hown9 hb9 hg9; obtain ⟨A9, c9, rfl, _, hl9, hA9⟩ := own_ps hown9; have kN9 := kNb.drew.below hb9 (by omega); have kR9 := kRb.drew.below hb9 (by omega); have kM9 := kMb.drew.grown hg9 (by simp [Value.ownBlock]); obtain ⟨t0, t1, t2, t3, t4, t5⟩ := kM9.cells6; obtain ⟨v0, v1, v2, v3, v4, v5⟩ := kM9.free6)) | ((refine step_pairs (by rfl) (.tmp 8) (.tmp 10) 86 (by rfl) (w.heap.size + 2) 175 Tryz.underlying86 Tryz.info_pair _ 0 [] (by rfl) HOc A cap L k.ps.length k.ps HQc (by rfl) (by rfl) (by omega) (by simp; omega) ?_; intro v9 w9 hown9 hb9 hg9; obtain ⟨A9, c9, rfl, _, hl9, hA9⟩ := own_ps hown9; have kN9 := kNc.drew.below hb9 (by omega); have kR9 := kRc.drew.below hb9 (by omega); have kM9 := kMc.drew.grown hg9 (by simp [Value.ownBlock]); obtain ⟨t0, t1, t2, t3, t4, t5⟩ := kM9.cells6; obtain ⟨v0, v1, v2, v3, v4, v5⟩ := kM9.free6)) | (go_simp; (first | (have kM8 := Blk.new w9 88 #[.int .i64 0, .int .i64 0, .int .i64 0, .slice none 0 0, .int .i64 0, .int .i64 0]; have kN8 := kN9.alloc (.cells #[.int .i64 0, .int .i64 0, .int .i64 0, .slice none 0 0, .int .i64 0, .int .i64 0] 88); have kR8 := kR9.alloc (.cells #[.int .i64 0, .int .i64 0, .int .i64 0, .slice none 0 0, .int .i64 0, .int .i64 0] 88); have hd8 : w.heap.size ≠ w9.heap.size := Nat.ne_of_lt kN9.lt; obtain ⟨t0, t1, t2, t3, t4, t5⟩ := kM8.cells6; obtain ⟨v0, v1, v2, v3, v4, v5⟩ := kM8.free6) | skip | skip)))
  refine hK.out _ _ ?kr1b4_5 (fun hHeld => ?_)
  case kr1b4_5 => (try dsimp only); (first | with_reducible assumption | with_reducible exact kNa.cells6t | with_reducible exact kNb.cells6t | with_reducible exact kNc.cells6t | with_reducible exact kNz.cells6t | with_reducible exact kN9.cells6t | with_reducible exact kN8.cells6t | with_reducible exact ((((((kN9.far _ _ (by omega)).far _ _ (by omega)).far _ _ (by omega)).far _ _ (by omega)).far _ _ (by omega)).far _ _ (by omega)).cells6t | with_reducible exact ((((((kN8.far _ _ hd8).far _ _ hd8).far _ _ hd8).far _ _ hd8).far _ _ hd8).far _ _ hd8).cells6t | exact t6_bel (by assumption) (by assumption) | assumption | exact t6_alloc (by assumption) _ | exact kNa.cells6t | exact kNb.cells6t | exact kNc.cells6t | exact kNz.cells6t | exact kN9.cells6t | exact kN8.cells6t | exact ((((((kN9.far _ _ (by omega)).far _ _ (by omega)).far _ _ (by omega)).far _ _ (by omega)).far _ _ (by omega)).far _ _ (by omega)).cells6t | exact ((((((kN8.far _ _ hd8).far _ _ hd8).far _ _ hd8).far _ _ hd8).far _ _ hd8).far _ _ hd8).cells6t)
  clear hK K
  try simp only [Act.put, List.setIfInBounds_toArray, List.set_cons_zero, List.set_cons_succ]
  refine tk 9 ?_
  refine wpAnyH_ready (rs := [11]) (by kernel_rfl) (by simp) ?_
  refine AllReadyH.cons (o := ?or1b4_11) ?ir1b4_11 (fun K hK => ?sr1b4_11) AllReadyH.nil
  case ir1b4_11 => (simp only [List.getElem?_toArray, List.getElem?_cons_succ, List.getElem?_cons_zero]; rfl)
  (first | (go_simp; (first | (have kM8 := Blk.new w9 88 #[.int .i64 0, .int .i64 0, .int .i64 0, .slice none 0 0, .int .i64 0, .int .i64 0]; have kN8 := kN9.alloc (.cells #[.int .i64 0, .int .i64 0, .int .i64 0, .slice none 0 0, .int .i64 0, .int .i64 0] 88); have kR8 := kR9.alloc (.cells #[.int .i64 0, .int .i64 0, .int .i64 0, .slice none 0 0, .int .i64 0, .int .i64 0] 88); have hd8 : w.heap.size ≠ w9.heap.size := Nat.ne_of_lt kN9.lt; obtain ⟨t0, t1, t2, t3, t4, t5⟩ := kM8.cells6; obtain ⟨v0, v1, v2, v3, v4, v5⟩ := kM8.free6) | skip | skip)))
  refine hK.out _ _ ?kr1b4_11 (fun hHeld => ?_)
  case kr1b4_11 => (try dsimp only); (first | with_reducible assumption | with_reducible exact kNa.cells6t | with_reducible exact kNb.cells6t | with_reducible exact kNc.cells6t | with_reducible exact kNz.cells6t | with_reducible exact kN9.cells6t | with_reducible exact kN8.cells6t | with_reducible exact ((((((kN9.far _ _ (by omega)).far _ _ (by omega)).far _ _ (by omega)).far _ _ (by omega)).far _ _ (by omega)).far _ _ (by omega)).cells6t | with_reducible exact ((((((kN8.far _ _ hd8).far _ _ hd8).far _ _ hd8).far _ _ hd8).far _ _ hd8).far _ _ hd8).cells6t | exact t6_bel (by assumption) (by assumption) | assumption | exact t6_alloc (by assumption) _ | exact kNa.cells6t | exact kNb.cells6t | exact kNc.cells6t | exact kNz.cells6t | exact kN9.cells6t | exact kN8.cells6t | exact ((((((kN9.far _ _ (by omega)).far _ _ (by omega)).far _ _ (by omega)).far _ _ (by omega)).far _ _ (by omega)).far _ _ (by omega)).cells6t | exact ((((((kN8.far _ _ hd8).far _ _ hd8).far _ _ hd8).far _ _ hd8).far _ _ hd8).far _ _ hd8).cells6t)
  clear hK K
  try simp only [Act.put, List.setIfInBounds_toArray, List.set_cons_zero, List.set_cons_succ]
  refine wpAnyH_done (by kernel_rfl) ?_ _
  refine NoPanic.normal ?_
 case sr1_10 =>
  have hl8 : ([] ++ k.ps).length = k.ps.length := by simp
  have hl7 : 0 + k.ps.length = k.ps.length := by simp
  rw [hl8, hl7, List.nil_append] at hown9
  have hMN : w.heap.size ≠ W.heap.size ∧ w.heap.size + 1 ≠ W.heap.size := by have := kR9.lt; constructor <;> (simp at *; omega)
  have hB9 : Below w.heap.size w w9 := (show Below w.heap.size w ((W.alloc (.cells #[.int .i64 0, .int .i64 0, .int .i64 0, .slice none 0 0, .int .i64 0, .int .i64 0] 88)).alloc (.cells #[] 175)).drew by exact obB).trans (hb9.mono (by omega))
  have hms : w.heap.size ≤ W.heap.size := by have := hB9.size; have := hBW.size; omega
  have hot := own_not_blk hown9 kM9 (by decide)
  have kM1 := kM9.put6 (.int .i64 k.o) (.int .i64 k.l) (.int .i64 k.m) (.slice A9 k.ps.length c9) (.int .i64 k.base) (.int .i64 code)
  have kN1 := ((((((kN9.far 0 (.int .i64 k.o) hMN.1).far 1 (.int .i64 k.l) hMN.1).far 2 (.int .i64 k.m) hMN.1).far 3 (.slice A9 k.ps.length c9) hMN.1).far 4 (.int .i64 k.base) hMN.1).far 5 (.int .i64 code) hMN.1)
  have kR1 := ((((((kR9.far 0 (.int .i64 k.o) hMN.2).far 1 (.int .i64 k.l) hMN.2).far 2 (.int .i64 k.m) hMN.2).far 3 (.slice A9 k.ps.length c9) hMN.2).far 4 (.int .i64 k.base) hMN.2).far 5 (.int .i64 code) hMN.2)
  have ho1 := (((((hown9.kept (grown_set (grown_refl _ (some W.heap.size)) 0 (.int .i64 k.o)) hot).kept (grown_set (grown_refl _ (some W.heap.size)) 1 (.int .i64 k.l)) hot).kept (grown_set (grown_refl _ (some W.heap.size)) 2 (.int .i64 k.m)) hot).kept (grown_set (grown_refl _ (some W.heap.size)) 3 (.slice A9 k.ps.length c9)) hot).kept (grown_set (grown_refl _ (some W.heap.size)) 4 (.int .i64 k.base)) hot).kept (grown_set (grown_refl _ (some W.heap.size)) 5 (.int .i64 code)) hot
  have hB1 : Below w.heap.size w (World.setCell (World.setCell (World.setCell (World.setCell (World.setCell (World.setCell w9 ⟨W.heap.size, 0, none⟩ (.int .i64 k.o)) ⟨W.heap.size, 1, none⟩ (.int .i64 k.l)) ⟨W.heap.size, 2, none⟩ (.int .i64 k.m)) ⟨W.heap.size, 3, none⟩ (.slice A9 k.ps.length c9)) ⟨W.heap.size, 4, none⟩ (.int .i64 k.base)) ⟨W.heap.size, 5, none⟩ (.int .i64 code)) := by exact obB
  obtain ⟨W1, hW1⟩ : ∃ x, x = (World.setCell (World.setCell (World.setCell (World.setCell (World.setCell (World.setCell w9 ⟨W.heap.size, 0, none⟩ (.int .i64 k.o)) ⟨W.heap.size, 1, none⟩ (.int .i64 k.l)) ⟨W.heap.size, 2, none⟩ (.int .i64 k.m)) ⟨W.heap.size, 3, none⟩ (.slice A9 k.ps.length c9)) ⟨W.heap.size, 4, none⟩ (.int .i64 k.base)) ⟨W.heap.size, 5, none⟩ (.int .i64 code)) := ⟨_, rfl⟩
  rw [← hW1] at kM1 kN1 kR1 ho1 hB1 ⊢
  obtain ⟨M, hM⟩ : ∃ x, x = W.heap.size := ⟨_, rfl⟩
  rw [← hM] at kM1 hMN hot hms ⊢
  have HO1 := hid ho1
  clear hW1 hM kN0 kR0 kNa kRa kNb kRb kNz kNc kRc kMb kMc HQa HQb HQc HOa HOb HOc hS hl7 hl8 hl9 hA9 hown9 hb9 hg9 kN9 kR9 kM8 kN8 kR8 hd8 t0 t1 t2 t3 t4 t5 v0 v1 v2 v3 v4 v5 ho1 hB9
  obtain ⟨p0, p1, p2, p3, p4, p5⟩ := kN1.cells6
  go_wp2_with fail
  refine (HG.out _).mono ?_
  rintro e w2 ⟨rfl, hb2⟩
  have kM2 := kM1.on hb2
  have kN2 := kN1.on hb2
  have kR2 := kR1.on hb2
  have hB2 : Below w.heap.size w w2 := by exact obB
  have ho2 := own_on HO1.out hb2
  clear hb2 hB1 kM1 kN1 kR1 p0 p1 p2 p3 p4 p5
  cases hg : k.grows with
  | false =>
   have hps2 : (k.after code).ps = k.ps := by simp [Kn.after, hg]
   have HP2 := hid hps2
   clear hg hps2
   have HO2 := hid ho2
   clear ho2
   obtain ⟨p0, p1, p2, p3, p4, p5⟩ := kM2.cells6
   obtain ⟨t0, t1, t2, t3, t4, t5⟩ := kR2.cells6
   obtain ⟨v0, v1, v2, v3, v4, v5⟩ := kR2.free6
   obtain ⟨j0, j1, j2, j3, j4, j5⟩ := (kR2.put6 (.int .i64 k.o) (.int .i64 k.l) (.int .i64 k.m) (.slice A9 k.ps.length c9) (.int .i64 k.base) (.int .i64 code)).cells6
   go_wp2
   refine bodyPost_ret (v := .agg #[.int .i64 k.o, .int .i64 k.l, .int .i64 k.m, .slice A9 k.ps.length c9, .int .i64 k.base, .int .i64 code]) (by simp [results, Tryz.results147, go_sem, j0, j1, j2, j3, j4, j5]) rfl ⟨A9, c9, by rw [HP2.out], ?_, by exact obB⟩
   rw [HP2.out]
   refine own_mono (B := w.heap.size + 2) ?_ (by omega)
   repeat refine ownsRow_setCell_below ?_ (by simp) _
   exact HO2.out
  | true =>
   have hps2 : (k.after code).ps = k.ps ++ [(k.last, k.fst code)] := by simp [Kn.after, hg]
   have HP2 := hid hps2
   obtain ⟨x, xs, hx⟩ : ∃ x xs, k.any code = x :: xs := List.exists_cons_of_ne_nil (hk.any_ne hc)
   have hF : k.fst code = (x.toNat : Int) := by simp [Kn.fst, hx]
   have HA2 := HA.out
   rw [hx] at HA2
   rw [hF] at HP2
   obtain ⟨T, hT⟩ : ∃ T, T = str (x :: xs) := ⟨_, rfl⟩
   have hTs : 0 < T.size := by rw [hT]; simp [str, ByteArray.size]
   have hT0 : ∀ (h : 0 < T.size), T[0]'h = x := by subst hT; intro h; rfl
   rw [← hT] at HA2
   have HA3 := hid HA2
   have hxw : IntKind.i64.wrap (x.toNat : Int) = (x.toNat : Int) := IntWalk.i64_in _ (by have := x.toNat_lt; omega)
   have HO2 := hid ho2
   have hx8 : (x.toNat : Int) < 256 := by have := x.toNat_lt; omega
   have hot2 : some M ≠ (Value.slice A9 k.ps.length c9).ownBlock := by rcases hot with e | e <;> intro e2 <;> simp_all
   have HOT := hid hot2
   clear hg hps2 HA HA2 ho2 hx hF hot hot2 hT
   have HKM := hid kM2
   have HKN := hid kN2
   obtain ⟨p0, p1, p2, p3, p4, p5⟩ := kN2.cells6
   obtain ⟨t0, t1, t2, t3, t4, t5⟩ := kM2.cells6
   go_wp2_with fail
   go_region_law (first | (refine step_pairs (by rfl) (.tmp 19) (.tmp 28) 86 (by rfl) (w.heap.size + 2) 175 Tryz.underlying86 Tryz.info_pair _ k.ps.length k.ps (by rfl) (own_on HO2.out (by exact obB)) (some ⟨w3.heap.size, 0, none⟩) 1 (w3.heap.size + 1) 1 [(k.last, (x.toNat : Int))] (ps_new w3 k.last (x.toNat : Int) 175) (by rfl) (by rfl) (by simp; omega) (by have := hb3.size; have := kR2.lt; simp at *; omega) ?_; intro v7 w7 hown7 hb7 hg7; obtain ⟨A7, c7, rfl, _, hl7, hA7⟩ := own_ps hown7; have kM7 := (kM3.alloc (.cells #[.int .i64 k.last, .int .i64 (x.toNat : Int)] 175)).grown hg7 HOT.out; obtain ⟨z0, z1, z2, z3, z4, z5⟩ := kM7.cells6; have f73 := kM7.frozen 3) | (go_simp; go_at_call 119; refine (HA3.out _ (by exact obB)).mono ?_; rintro e w3 ⟨rfl, hb3⟩; have kM3 : Blk w3 M _ _ := HKM.out.on (by exact obB); have kN3 : Blk w3 w.heap.size _ _ := HKN.out.on (by exact obB); obtain ⟨q0, q1, q2, q3, q4, q5⟩ := kN3.cells6; obtain ⟨u0, u1, u2, u3, u4, u5⟩ := kM3.cells6; have u6 := (kM3.alloc (.cells #[.int .i64 k.last, .int .i64 (x.toNat : Int)] 175)).cell 3))
   all_goals
    have hl6 : (k.ps ++ [(k.last, (x.toNat : Int))]).length = k.ps.length + 1 := by simp
    have hnot := own_not_blk hown7 kM7 (by decide)
    rw [hl6] at hown7 hnot
    have kMs : Blk _ M 88 #[.int .i64 k.o, .int .i64 k.l, .int .i64 k.m, .slice A7 (k.ps.length + 1) c7, .int .i64 k.base, .int .i64 code] := kM7.set_ 3 (.slice A7 (k.ps.length + 1) c7)
    have hB3 : Below w2.heap.size w2 w3 := by exact obB
    have kR7 := ((kR2.on hB3).alloc (.cells #[.int .i64 k.last, .int .i64 (x.toNat : Int)] 175)).below hb7 (by omega)
    have kRs := kR7.far 3 (.slice A7 (k.ps.length + 1) c7) hMN.2
    have hB7 : Below w.heap.size w w7 := (bel_alloc (bel_trans hB2 hB3) (.cells #[.int .i64 k.last, .int .i64 (x.toNat : Int)] 175)).trans (hb7.mono (by omega))
    have ho7 := hid (hown7.kept (grown_set (grown_refl w7 (some M)) 3 (.slice A7 (k.ps.length + 1) c7)) hnot)
    clear hown7 kM7 kR7 kM3 kN3 hb7 hg7 hb3 hB3 z0 z1 z2 z3 z4 z5 f73 q0 q1 q2 q3 q4 q5 u0 u1 u2 u3 u4 u5 u6 p0 p1 p2 p3 p4 p5 t0 t1 t2 t3 t4 t5
    obtain ⟨p0, p1, p2, p3, p4, p5⟩ := kMs.cells6
    obtain ⟨t0, t1, t2, t3, t4, t5⟩ := kRs.cells6
    obtain ⟨v0, v1, v2, v3, v4, v5⟩ := kRs.free6
    obtain ⟨j0, j1, j2, j3, j4, j5⟩ := (kRs.put6 (.int .i64 k.o) (.int .i64 k.l) (.int .i64 k.m) (.slice A7 (k.ps.length + 1) c7) (.int .i64 k.base) (.int .i64 code)).cells6
    go_wp2
    refine bodyPost_ret (v := .agg #[.int .i64 k.o, .int .i64 k.l, .int .i64 k.m, .slice A7 (k.ps.length + 1) c7, .int .i64 k.base, .int .i64 code]) (by simp [results, Tryz.results147, go_sem, j0, j1, j2, j3, j4, j5]) rfl ⟨A7, c7, by rw [HP2.out, hl6], ?_, by exact obB⟩
    rw [HP2.out, hl6]
    refine own_mono (B := w.heap.size + 2) ?_ (by omega)
    iterate 6 refine ownsRow_setCell_below ?_ (by simp) _
    exact ho7.out
 case sr1b1_10 =>
  have hl8 : ([] ++ k.ps).length = k.ps.length := by simp
  have hl7 : 0 + k.ps.length = k.ps.length := by simp
  rw [hl8, hl7, List.nil_append] at hown9
  have hMN : w.heap.size ≠ (W.heap.size + 1) ∧ w.heap.size + 1 ≠ (W.heap.size + 1) := by have := kR9.lt; constructor <;> (simp at *; omega)
  have hB9 : Below w.heap.size w w9 := (show Below w.heap.size w ((W.alloc (.cells #[] 175)).alloc (.cells #[.int .i64 0, .int .i64 0, .int .i64 0, .slice none 0 0, .int .i64 0, .int .i64 0] 88)).drew by exact obB).trans (hb9.mono (by omega))
  have hms : w.heap.size ≤ (W.heap.size + 1) := by have := hB9.size; have := hBW.size; omega
  have hot := own_not_blk hown9 kM9 (by decide)
  have kM1 := kM9.put6 (.int .i64 k.o) (.int .i64 k.l) (.int .i64 k.m) (.slice A9 k.ps.length c9) (.int .i64 k.base) (.int .i64 code)
  have kN1 := ((((((kN9.far 0 (.int .i64 k.o) hMN.1).far 1 (.int .i64 k.l) hMN.1).far 2 (.int .i64 k.m) hMN.1).far 3 (.slice A9 k.ps.length c9) hMN.1).far 4 (.int .i64 k.base) hMN.1).far 5 (.int .i64 code) hMN.1)
  have kR1 := ((((((kR9.far 0 (.int .i64 k.o) hMN.2).far 1 (.int .i64 k.l) hMN.2).far 2 (.int .i64 k.m) hMN.2).far 3 (.slice A9 k.ps.length c9) hMN.2).far 4 (.int .i64 k.base) hMN.2).far 5 (.int .i64 code) hMN.2)
  have ho1 := (((((hown9.kept (grown_set (grown_refl _ (some (W.heap.size + 1))) 0 (.int .i64 k.o)) hot).kept (grown_set (grown_refl _ (some (W.heap.size + 1))) 1 (.int .i64 k.l)) hot).kept (grown_set (grown_refl _ (some (W.heap.size + 1))) 2 (.int .i64 k.m)) hot).kept (grown_set (grown_refl _ (some (W.heap.size + 1))) 3 (.slice A9 k.ps.length c9)) hot).kept (grown_set (grown_refl _ (some (W.heap.size + 1))) 4 (.int .i64 k.base)) hot).kept (grown_set (grown_refl _ (some (W.heap.size + 1))) 5 (.int .i64 code)) hot
  have hB1 : Below w.heap.size w (World.setCell (World.setCell (World.setCell (World.setCell (World.setCell (World.setCell w9 ⟨(W.heap.size + 1), 0, none⟩ (.int .i64 k.o)) ⟨(W.heap.size + 1), 1, none⟩ (.int .i64 k.l)) ⟨(W.heap.size + 1), 2, none⟩ (.int .i64 k.m)) ⟨(W.heap.size + 1), 3, none⟩ (.slice A9 k.ps.length c9)) ⟨(W.heap.size + 1), 4, none⟩ (.int .i64 k.base)) ⟨(W.heap.size + 1), 5, none⟩ (.int .i64 code)) := by exact obB
  obtain ⟨W1, hW1⟩ : ∃ x, x = (World.setCell (World.setCell (World.setCell (World.setCell (World.setCell (World.setCell w9 ⟨(W.heap.size + 1), 0, none⟩ (.int .i64 k.o)) ⟨(W.heap.size + 1), 1, none⟩ (.int .i64 k.l)) ⟨(W.heap.size + 1), 2, none⟩ (.int .i64 k.m)) ⟨(W.heap.size + 1), 3, none⟩ (.slice A9 k.ps.length c9)) ⟨(W.heap.size + 1), 4, none⟩ (.int .i64 k.base)) ⟨(W.heap.size + 1), 5, none⟩ (.int .i64 code)) := ⟨_, rfl⟩
  rw [← hW1] at kM1 kN1 kR1 ho1 hB1 ⊢
  obtain ⟨M, hM⟩ : ∃ x, x = (W.heap.size + 1) := ⟨_, rfl⟩
  rw [← hM] at kM1 hMN hot hms ⊢
  have HO1 := hid ho1
  clear hW1 hM kN0 kR0 kNa kRa kNb kRb kNz kNc kRc kMb kMc HQa HQb HQc HOa HOb HOc hS hl7 hl8 hl9 hA9 hown9 hb9 hg9 kN9 kR9 kM8 kN8 kR8 hd8 t0 t1 t2 t3 t4 t5 v0 v1 v2 v3 v4 v5 ho1 hB9
  obtain ⟨p0, p1, p2, p3, p4, p5⟩ := kN1.cells6
  go_wp2_with fail
  refine (HG.out _).mono ?_
  rintro e w2 ⟨rfl, hb2⟩
  have kM2 := kM1.on hb2
  have kN2 := kN1.on hb2
  have kR2 := kR1.on hb2
  have hB2 : Below w.heap.size w w2 := by exact obB
  have ho2 := own_on HO1.out hb2
  clear hb2 hB1 kM1 kN1 kR1 p0 p1 p2 p3 p4 p5
  cases hg : k.grows with
  | false =>
   have hps2 : (k.after code).ps = k.ps := by simp [Kn.after, hg]
   have HP2 := hid hps2
   clear hg hps2
   have HO2 := hid ho2
   clear ho2
   obtain ⟨p0, p1, p2, p3, p4, p5⟩ := kM2.cells6
   obtain ⟨t0, t1, t2, t3, t4, t5⟩ := kR2.cells6
   obtain ⟨v0, v1, v2, v3, v4, v5⟩ := kR2.free6
   obtain ⟨j0, j1, j2, j3, j4, j5⟩ := (kR2.put6 (.int .i64 k.o) (.int .i64 k.l) (.int .i64 k.m) (.slice A9 k.ps.length c9) (.int .i64 k.base) (.int .i64 code)).cells6
   go_wp2
   refine bodyPost_ret (v := .agg #[.int .i64 k.o, .int .i64 k.l, .int .i64 k.m, .slice A9 k.ps.length c9, .int .i64 k.base, .int .i64 code]) (by simp [results, Tryz.results147, go_sem, j0, j1, j2, j3, j4, j5]) rfl ⟨A9, c9, by rw [HP2.out], ?_, by exact obB⟩
   rw [HP2.out]
   refine own_mono (B := w.heap.size + 2) ?_ (by omega)
   repeat refine ownsRow_setCell_below ?_ (by simp) _
   exact HO2.out
  | true =>
   have hps2 : (k.after code).ps = k.ps ++ [(k.last, k.fst code)] := by simp [Kn.after, hg]
   have HP2 := hid hps2
   obtain ⟨x, xs, hx⟩ : ∃ x xs, k.any code = x :: xs := List.exists_cons_of_ne_nil (hk.any_ne hc)
   have hF : k.fst code = (x.toNat : Int) := by simp [Kn.fst, hx]
   have HA2 := HA.out
   rw [hx] at HA2
   rw [hF] at HP2
   obtain ⟨T, hT⟩ : ∃ T, T = str (x :: xs) := ⟨_, rfl⟩
   have hTs : 0 < T.size := by rw [hT]; simp [str, ByteArray.size]
   have hT0 : ∀ (h : 0 < T.size), T[0]'h = x := by subst hT; intro h; rfl
   rw [← hT] at HA2
   have HA3 := hid HA2
   have hxw : IntKind.i64.wrap (x.toNat : Int) = (x.toNat : Int) := IntWalk.i64_in _ (by have := x.toNat_lt; omega)
   have HO2 := hid ho2
   have hx8 : (x.toNat : Int) < 256 := by have := x.toNat_lt; omega
   have hot2 : some M ≠ (Value.slice A9 k.ps.length c9).ownBlock := by rcases hot with e | e <;> intro e2 <;> simp_all
   have HOT := hid hot2
   clear hg hps2 HA HA2 ho2 hx hF hot hot2 hT
   have HKM := hid kM2
   have HKN := hid kN2
   obtain ⟨p0, p1, p2, p3, p4, p5⟩ := kN2.cells6
   obtain ⟨t0, t1, t2, t3, t4, t5⟩ := kM2.cells6
   go_wp2_with fail
   go_region_law (first | (refine step_pairs (by rfl) (.tmp 19) (.tmp 28) 86 (by rfl) (w.heap.size + 2) 175 Tryz.underlying86 Tryz.info_pair _ k.ps.length k.ps (by rfl) (own_on HO2.out (by exact obB)) (some ⟨w3.heap.size, 0, none⟩) 1 (w3.heap.size + 1) 1 [(k.last, (x.toNat : Int))] (ps_new w3 k.last (x.toNat : Int) 175) (by rfl) (by rfl) (by simp; omega) (by have := hb3.size; have := kR2.lt; simp at *; omega) ?_; intro v7 w7 hown7 hb7 hg7; obtain ⟨A7, c7, rfl, _, hl7, hA7⟩ := own_ps hown7; have kM7 := (kM3.alloc (.cells #[.int .i64 k.last, .int .i64 (x.toNat : Int)] 175)).grown hg7 HOT.out; obtain ⟨z0, z1, z2, z3, z4, z5⟩ := kM7.cells6; have f73 := kM7.frozen 3) | (go_simp; go_at_call 119; refine (HA3.out _ (by exact obB)).mono ?_; rintro e w3 ⟨rfl, hb3⟩; have kM3 : Blk w3 M _ _ := HKM.out.on (by exact obB); have kN3 : Blk w3 w.heap.size _ _ := HKN.out.on (by exact obB); obtain ⟨q0, q1, q2, q3, q4, q5⟩ := kN3.cells6; obtain ⟨u0, u1, u2, u3, u4, u5⟩ := kM3.cells6; have u6 := (kM3.alloc (.cells #[.int .i64 k.last, .int .i64 (x.toNat : Int)] 175)).cell 3))
   all_goals
    have hl6 : (k.ps ++ [(k.last, (x.toNat : Int))]).length = k.ps.length + 1 := by simp
    have hnot := own_not_blk hown7 kM7 (by decide)
    rw [hl6] at hown7 hnot
    have kMs : Blk _ M 88 #[.int .i64 k.o, .int .i64 k.l, .int .i64 k.m, .slice A7 (k.ps.length + 1) c7, .int .i64 k.base, .int .i64 code] := kM7.set_ 3 (.slice A7 (k.ps.length + 1) c7)
    have hB3 : Below w2.heap.size w2 w3 := by exact obB
    have kR7 := ((kR2.on hB3).alloc (.cells #[.int .i64 k.last, .int .i64 (x.toNat : Int)] 175)).below hb7 (by omega)
    have kRs := kR7.far 3 (.slice A7 (k.ps.length + 1) c7) hMN.2
    have hB7 : Below w.heap.size w w7 := (bel_alloc (bel_trans hB2 hB3) (.cells #[.int .i64 k.last, .int .i64 (x.toNat : Int)] 175)).trans (hb7.mono (by omega))
    have ho7 := hid (hown7.kept (grown_set (grown_refl w7 (some M)) 3 (.slice A7 (k.ps.length + 1) c7)) hnot)
    clear hown7 kM7 kR7 kM3 kN3 hb7 hg7 hb3 hB3 z0 z1 z2 z3 z4 z5 f73 q0 q1 q2 q3 q4 q5 u0 u1 u2 u3 u4 u5 u6 p0 p1 p2 p3 p4 p5 t0 t1 t2 t3 t4 t5
    obtain ⟨p0, p1, p2, p3, p4, p5⟩ := kMs.cells6
    obtain ⟨t0, t1, t2, t3, t4, t5⟩ := kRs.cells6
    obtain ⟨v0, v1, v2, v3, v4, v5⟩ := kRs.free6
    obtain ⟨j0, j1, j2, j3, j4, j5⟩ := (kRs.put6 (.int .i64 k.o) (.int .i64 k.l) (.int .i64 k.m) (.slice A7 (k.ps.length + 1) c7) (.int .i64 k.base) (.int .i64 code)).cells6
    go_wp2
    refine bodyPost_ret (v := .agg #[.int .i64 k.o, .int .i64 k.l, .int .i64 k.m, .slice A7 (k.ps.length + 1) c7, .int .i64 k.base, .int .i64 code]) (by simp [results, Tryz.results147, go_sem, j0, j1, j2, j3, j4, j5]) rfl ⟨A7, c7, by rw [HP2.out, hl6], ?_, by exact obB⟩
    rw [HP2.out, hl6]
    refine own_mono (B := w.heap.size + 2) ?_ (by omega)
    iterate 6 refine ownsRow_setCell_below ?_ (by simp) _
    exact ho7.out
 case sr1b1_5 =>
  have hl8 : ([] ++ k.ps).length = k.ps.length := by simp
  have hl7 : 0 + k.ps.length = k.ps.length := by simp
  rw [hl8, hl7, List.nil_append] at hown9
  have hMN : w.heap.size ≠ w9.heap.size ∧ w.heap.size + 1 ≠ w9.heap.size := by have := kR9.lt; constructor <;> (simp at *; omega)
  have hB9 : Below w.heap.size w w9 := (show Below w.heap.size w (W.alloc (.cells #[] 175)).drew by exact obB).trans (hb9.mono (by omega))
  have hms : w.heap.size ≤ w9.heap.size := by have := hB9.size; have := hBW.size; omega
  have kM1 := Blk.new w9 88 #[.int .i64 k.o, .int .i64 k.l, .int .i64 k.m, .slice A9 k.ps.length c9, .int .i64 k.base, .int .i64 code]
  have kN1 := kN9.alloc (.cells #[.int .i64 k.o, .int .i64 k.l, .int .i64 k.m, .slice A9 k.ps.length c9, .int .i64 k.base, .int .i64 code] 88)
  have kR1 := kR9.alloc (.cells #[.int .i64 k.o, .int .i64 k.l, .int .i64 k.m, .slice A9 k.ps.length c9, .int .i64 k.base, .int .i64 code] 88)
  have ho1 := hown9.alloc (.cells #[.int .i64 k.o, .int .i64 k.l, .int .i64 k.m, .slice A9 k.ps.length c9, .int .i64 k.base, .int .i64 code] 88)
  have hot := own_not_blk ho1 kM1 (by decide)
  have hB1 : Below w.heap.size w (w9.alloc (.cells #[.int .i64 k.o, .int .i64 k.l, .int .i64 k.m, .slice A9 k.ps.length c9, .int .i64 k.base, .int .i64 code] 88)) := by exact obB
  obtain ⟨W1, hW1⟩ : ∃ x, x = (w9.alloc (.cells #[.int .i64 k.o, .int .i64 k.l, .int .i64 k.m, .slice A9 k.ps.length c9, .int .i64 k.base, .int .i64 code] 88)) := ⟨_, rfl⟩
  rw [← hW1] at kM1 kN1 kR1 ho1 hB1 ⊢
  obtain ⟨M, hM⟩ : ∃ x, x = w9.heap.size := ⟨_, rfl⟩
  rw [← hM] at kM1 hMN hot hms ⊢
  have HO1 := hid ho1
  clear hW1 hM kN0 kR0 kNa kRa kNb kRb kNz kNc kRc kMb kMc HQa HQb HQc HOa HOb HOc hS hl7 hl8 hl9 hA9 hown9 hb9 hg9 kN9 kR9 kM8 kN8 kR8 hd8 t0 t1 t2 t3 t4 t5 v0 v1 v2 v3 v4 v5 ho1 hB9
  obtain ⟨p0, p1, p2, p3, p4, p5⟩ := kN1.cells6
  go_wp2_with fail
  refine (HG.out _).mono ?_
  rintro e w2 ⟨rfl, hb2⟩
  have kM2 := kM1.on hb2
  have kN2 := kN1.on hb2
  have kR2 := kR1.on hb2
  have hB2 : Below w.heap.size w w2 := by exact obB
  have ho2 := own_on HO1.out hb2
  clear hb2 hB1 kM1 kN1 kR1 p0 p1 p2 p3 p4 p5
  cases hg : k.grows with
  | false =>
   have hps2 : (k.after code).ps = k.ps := by simp [Kn.after, hg]
   have HP2 := hid hps2
   clear hg hps2
   have HO2 := hid ho2
   clear ho2
   obtain ⟨p0, p1, p2, p3, p4, p5⟩ := kM2.cells6
   obtain ⟨t0, t1, t2, t3, t4, t5⟩ := kR2.cells6
   obtain ⟨v0, v1, v2, v3, v4, v5⟩ := kR2.free6
   obtain ⟨j0, j1, j2, j3, j4, j5⟩ := (kR2.put6 (.int .i64 k.o) (.int .i64 k.l) (.int .i64 k.m) (.slice A9 k.ps.length c9) (.int .i64 k.base) (.int .i64 code)).cells6
   go_wp2
   refine bodyPost_ret (v := .agg #[.int .i64 k.o, .int .i64 k.l, .int .i64 k.m, .slice A9 k.ps.length c9, .int .i64 k.base, .int .i64 code]) (by simp [results, Tryz.results147, go_sem, j0, j1, j2, j3, j4, j5]) rfl ⟨A9, c9, by rw [HP2.out], ?_, by exact obB⟩
   rw [HP2.out]
   refine own_mono (B := w.heap.size + 2) ?_ (by omega)
   repeat refine ownsRow_setCell_below ?_ (by simp) _
   exact HO2.out
  | true =>
   have hps2 : (k.after code).ps = k.ps ++ [(k.last, k.fst code)] := by simp [Kn.after, hg]
   have HP2 := hid hps2
   obtain ⟨x, xs, hx⟩ : ∃ x xs, k.any code = x :: xs := List.exists_cons_of_ne_nil (hk.any_ne hc)
   have hF : k.fst code = (x.toNat : Int) := by simp [Kn.fst, hx]
   have HA2 := HA.out
   rw [hx] at HA2
   rw [hF] at HP2
   obtain ⟨T, hT⟩ : ∃ T, T = str (x :: xs) := ⟨_, rfl⟩
   have hTs : 0 < T.size := by rw [hT]; simp [str, ByteArray.size]
   have hT0 : ∀ (h : 0 < T.size), T[0]'h = x := by subst hT; intro h; rfl
   rw [← hT] at HA2
   have HA3 := hid HA2
   have hxw : IntKind.i64.wrap (x.toNat : Int) = (x.toNat : Int) := IntWalk.i64_in _ (by have := x.toNat_lt; omega)
   have HO2 := hid ho2
   have hx8 : (x.toNat : Int) < 256 := by have := x.toNat_lt; omega
   have hot2 : some M ≠ (Value.slice A9 k.ps.length c9).ownBlock := by rcases hot with e | e <;> intro e2 <;> simp_all
   have HOT := hid hot2
   clear hg hps2 HA HA2 ho2 hx hF hot hot2 hT
   have HKM := hid kM2
   have HKN := hid kN2
   obtain ⟨p0, p1, p2, p3, p4, p5⟩ := kN2.cells6
   obtain ⟨t0, t1, t2, t3, t4, t5⟩ := kM2.cells6
   go_wp2_with fail
   go_region_law (first | (refine step_pairs (by rfl) (.tmp 19) (.tmp 28) 86 (by rfl) (w.heap.size + 2) 175 Tryz.underlying86 Tryz.info_pair _ k.ps.length k.ps (by rfl) (own_on HO2.out (by exact obB)) (some ⟨w3.heap.size, 0, none⟩) 1 (w3.heap.size + 1) 1 [(k.last, (x.toNat : Int))] (ps_new w3 k.last (x.toNat : Int) 175) (by rfl) (by rfl) (by simp; omega) (by have := hb3.size; have := kR2.lt; simp at *; omega) ?_; intro v7 w7 hown7 hb7 hg7; obtain ⟨A7, c7, rfl, _, hl7, hA7⟩ := own_ps hown7; have kM7 := (kM3.alloc (.cells #[.int .i64 k.last, .int .i64 (x.toNat : Int)] 175)).grown hg7 HOT.out; obtain ⟨z0, z1, z2, z3, z4, z5⟩ := kM7.cells6; have f73 := kM7.frozen 3) | (go_simp; go_at_call 119; refine (HA3.out _ (by exact obB)).mono ?_; rintro e w3 ⟨rfl, hb3⟩; have kM3 : Blk w3 M _ _ := HKM.out.on (by exact obB); have kN3 : Blk w3 w.heap.size _ _ := HKN.out.on (by exact obB); obtain ⟨q0, q1, q2, q3, q4, q5⟩ := kN3.cells6; obtain ⟨u0, u1, u2, u3, u4, u5⟩ := kM3.cells6; have u6 := (kM3.alloc (.cells #[.int .i64 k.last, .int .i64 (x.toNat : Int)] 175)).cell 3))
   all_goals
    have hl6 : (k.ps ++ [(k.last, (x.toNat : Int))]).length = k.ps.length + 1 := by simp
    have hnot := own_not_blk hown7 kM7 (by decide)
    rw [hl6] at hown7 hnot
    have kMs : Blk _ M 88 #[.int .i64 k.o, .int .i64 k.l, .int .i64 k.m, .slice A7 (k.ps.length + 1) c7, .int .i64 k.base, .int .i64 code] := kM7.set_ 3 (.slice A7 (k.ps.length + 1) c7)
    have hB3 : Below w2.heap.size w2 w3 := by exact obB
    have kR7 := ((kR2.on hB3).alloc (.cells #[.int .i64 k.last, .int .i64 (x.toNat : Int)] 175)).below hb7 (by omega)
    have kRs := kR7.far 3 (.slice A7 (k.ps.length + 1) c7) hMN.2
    have hB7 : Below w.heap.size w w7 := (bel_alloc (bel_trans hB2 hB3) (.cells #[.int .i64 k.last, .int .i64 (x.toNat : Int)] 175)).trans (hb7.mono (by omega))
    have ho7 := hid (hown7.kept (grown_set (grown_refl w7 (some M)) 3 (.slice A7 (k.ps.length + 1) c7)) hnot)
    clear hown7 kM7 kR7 kM3 kN3 hb7 hg7 hb3 hB3 z0 z1 z2 z3 z4 z5 f73 q0 q1 q2 q3 q4 q5 u0 u1 u2 u3 u4 u5 u6 p0 p1 p2 p3 p4 p5 t0 t1 t2 t3 t4 t5
    obtain ⟨p0, p1, p2, p3, p4, p5⟩ := kMs.cells6
    obtain ⟨t0, t1, t2, t3, t4, t5⟩ := kRs.cells6
    obtain ⟨v0, v1, v2, v3, v4, v5⟩ := kRs.free6
    obtain ⟨j0, j1, j2, j3, j4, j5⟩ := (kRs.put6 (.int .i64 k.o) (.int .i64 k.l) (.int .i64 k.m) (.slice A7 (k.ps.length + 1) c7) (.int .i64 k.base) (.int .i64 code)).cells6
    go_wp2
    refine bodyPost_ret (v := .agg #[.int .i64 k.o, .int .i64 k.l, .int .i64 k.m, .slice A7 (k.ps.length + 1) c7, .int .i64 k.base, .int .i64 code]) (by simp [results, Tryz.results147, go_sem, j0, j1, j2, j3, j4, j5]) rfl ⟨A7, c7, by rw [HP2.out, hl6], ?_, by exact obB⟩
    rw [HP2.out, hl6]
    refine own_mono (B := w.heap.size + 2) ?_ (by omega)
    iterate 6 refine ownsRow_setCell_below ?_ (by simp) _
    exact ho7.out
end Go.Proofs.YtmlaaammfnboiaaGreatDoor
