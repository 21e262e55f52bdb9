/- Contracts of the words of codes in the model. No condition but that what is known is valid. Contracts of what can follow, and of WordOf, in both programs. No condition but that the numbers are int's. Contracts of WordOf in both programs, and the walk of FnExactWordOf. No condition but that the numbers are int's. Contracts of firstByte, of the library's slices.Clone at pairs, and of ownCopy. No condition but that what is known is valid. Appends to pairs as one step of a region; the contract of follow in the program. No condition but that what is known is valid. The contract of follow in the program. No condition but that what is known is valid. The contract of follow at a code with a word. No condition but that what is known is valid. -/
import Derived.Test.YtmlaaammfnboiaaGreatDoorBe
import Derived.Lib.SliceRun
import Derived.Deep.RegionLaw
namespace Go.Proofs.YtmlaaammfnboiaaGreatDoor
section
open Go.ChangeShapes Go.WideShapes Go.ChangeAt Go.RowKit Go.Joins
set_option linter.unusedVariables false

set_option maxHeartbeats 1000000 in
set_option maxRecDepth 100000 in
theorem c_l2Word (k : Kn) (A : Option Addr) (cap L : Nat) (w : World) (h : k.Ok) (hps : PsAt w L A cap k.ps) (hL : L ≤ w.heap.size) (code : Int) (hc : HasW (pow2 k.l) code k.ps.length) :
  Calls Tryz.prog 154 #[.agg #[.int .i64 k.o, .int .i64 k.l, .int .i64 k.m, .slice A k.ps.length cap, .int .i64 k.base, .int .i64 k.last], .int .i64 code] w fun e w' => e = .returned (.string (str (k.word code))) ∧ Below w.heap.size w w' := by
 have hp := set_bd h.set
 obtain ⟨_, ⟨hl1, hl2⟩, hm1, hm2⟩ := setOk_iff.1 h.set
 have hlen := h.len
 have HP := hid hps
 have HOk := hid h
 have HE := hid (fun (v : World) => c_l1End k.o k.l k.m v (by omega) (by omega))
 have HWL := hid (word_len _ _ h.pairs _ hc)
 have HC := hid hc
 have kN0 := (Blk.new w 88 #[.int .i64 k.o, .int .i64 k.l, .int .i64 k.m, .slice A k.ps.length cap, .int .i64 k.base, .int .i64 k.last])
 have HK := hid ((kN0.alloc (.cells #[] 5)).kat)
 have hown0 : ((w.alloc (.cells #[.int .i64 k.o, .int .i64 k.l, .int .i64 k.m, .slice A k.ps.length cap, .int .i64 k.base, .int .i64 k.last] 88)).alloc (.cells #[] 5)).ownsRow (w.heap.size + 1) 5 1 (.slice (some ⟨w.heap.size + 1, 0, none⟩) 0 0) 0 (([] : List UInt8).map vb) := by
  have h1 := World.ownsRow_made (e := 5) (size := 1) (base := w.heap.size + 1) (w.alloc (.cells #[.int .i64 k.o, .int .i64 k.l, .int .i64 k.m, .slice A k.ps.length cap, .int .i64 k.base, .int .i64 k.last] 88)) #[] 0 (by simp) (by simp [maxLen]) rfl
  rw [World.size_alloc] at h1; exact h1
 clear hps h hc kN0
 go_enter Tryz.func154, Tryz.ntmps154
 go_wp2_with fail
 go_loopw [1, 5] (fun i v wr => ∃ (cd : Int) (rl : List UInt8), i = .int .i64 cd ∧ Hid (HasW (pow2 k.l) cd k.ps.length) ∧ wr.ownsRow (w.heap.size + 1) 5 1 v rl.length (rl.map vb) ∧ Hid (k.word code = wd k.c k.ps cd ++ rl.reverse) ∧ Hid (KAt wr w.heap.size k (.slice A k.ps.length cap)) ∧ Below w.heap.size w wr) (fun i _ _ => (intOf i).toNat)
 case atStart => exact ⟨code, [], rfl, HC, hown0, hid (by simp [Kn.word]), HK, by exact obB⟩
 case round =>
  obtain ⟨cd, rl, rfl, HH, hown, HW, HKr, hbl⟩ := hrel
  have hk2 := HKr.out
  have hz0 := hk2.1
  have hz1 := hbl.size
  have hrl : rl.length ≤ 1021 := by
   have h1 := HWL.out
   have h2 := congrArg List.length HW.out
   simp only [List.length_append, List.length_reverse] at h2
   unfold Kn.word at h2; omega
  by_cases hlt : pow2 k.l + 1 < cd
  ·obtain ⟨i, hi⟩ : ∃ i : Nat, cd = pow2 k.l + 2 + i := ⟨(cd - pow2 k.l - 2).toNat, by omega⟩
   subst hi
   have hil : i < k.ps.length := by have := HH.out; unfold HasW at this; omega
   obtain ⟨d, off, rfl, hd, hd0, hd1⟩ := pair_at (HP.out.below hbl hL) i hil
   have HG := hid (List.getElem?_eq_getElem hil)
   obtain ⟨p, hp2⟩ : ∃ p, p = k.ps[i] := ⟨_, rfl⟩
   rw [← hp2] at hd0 hd1 HG
   clear hp2
   have hpk := HOk.out.pairs i p HG.out
   have HS2 := hid (word_step k HOk.out i p HG.out rl code HW.out)
   obtain ⟨x, y⟩ := p
   simp only at hd0 hd1 hpk HS2
   obtain ⟨hx, hy0, hy1⟩ := hpk
   have hy2 : y < pow2 k.l := hy1
   have HX := hid (show HasW (pow2 k.l) x k.ps.length from hx.mono (by omega))
   have hxlt : x < pow2 k.l + 2 + i ∧ 0 ≤ x := by unfold HasW at hx; unfold Kn.c at hx; omega
   have ey := IntWalk.u8_in y (by omega)
   have HY := hid (byt_nat hy0 (by omega))
   have ew1 : IntKind.i64.wrap (pow2 k.l + 2 + (i : Int) - (pow2 k.l + 1)) = (i : Int) + 1 := (IntWalk.i64_in _ (by omega)).trans (by omega)
   have ew2 : IntKind.i64.wrap ((i : Int) + 1 - 1) = (i : Int) := (IntWalk.i64_in _ (by omega)).trans (by omega)
   have ew3 : IntKind.i64.wrap (i : Int) = (i : Int) := IntWalk.i64_in _ (by omega)
   clear hx hy1
   obtain ⟨q0, q1, q2, q3, q4, q5, q6⟩ := hk2
   have HS := hid (And.intro q1 (And.intro q2 (And.intro q3 (And.intro q4 (And.intro q5 (And.intro q6 (And.intro hd0 (And.intro hd1 (Below.refl wr.heap.size wr)))))))))
   go_wp2_with fail
   clear q1 q2 q3 q4 q5 q6 hd0 hd1
   refine (HE.out _).mono ?_
   rintro e w2 ⟨rfl, hb2⟩
   go_wp2_with fail
   have hS := s8_bel hb2 HS.out
   have hz2 := hb2.size
   have HS2q := hid HS2
   clear HS2
   refine wp_region_noPanic ?_
   refine wp_region_held_drew (S := (fun v => v.cell? ⟨w.heap.size, 0, none⟩ = some (.int .i64 k.o) ∧ v.cell? ⟨w.heap.size, 1, none⟩ = some (.int .i64 k.l) ∧ v.cell? ⟨w.heap.size, 2, none⟩ = some (.int .i64 k.m) ∧ v.cell? ⟨w.heap.size, 3, none⟩ = some (.slice (some ⟨d, off, none⟩) k.ps.length cap) ∧ v.cell? ⟨w.heap.size, 4, none⟩ = some (.int .i64 k.base) ∧ v.cell? ⟨w.heap.size, 5, none⟩ = some (.int .i64 k.last) ∧ v.cell? ⟨d, off + i * 2, none⟩ = some (.int .i64 x) ∧ v.cell? ⟨d, off + i * 2 + 1, none⟩ = some (.int .i64 y) ∧ Below wr.heap.size wr v)) (by kernel_rfl) (s8_drew hS) (fun hHeld => ?_)
   refine tk 0 ?_
   refine tk 1 ?_
   refine tk 2 ?_
   refine tk 3 ?_
   refine tk 4 ?_
   refine wpAnyH_ready (rs := [5, 10]) (by kernel_rfl) (by simp) ?_
   refine AllReadyH.cons (o := ?or1_5) ?ir1_5 (fun K hK => ?sr1_5) (AllReadyH.cons (o := ?or1_10) ?ir1_10 (fun K hK => ?sr1_10) AllReadyH.nil)
   case ir1_5 => (simp only [List.getElem?_toArray, List.getElem?_cons_succ, List.getElem?_cons_zero]; rfl)
   case ir1_10 => (simp only [List.getElem?_toArray, List.getElem?_cons_succ, List.getElem?_cons_zero]; rfl)
   case' sr1_5 =>
    (first | (go_simp; (first | (go_at_call 116; refine (HE.out _).mono ?_; rintro e w3 ⟨rfl, hb3⟩; have kk : Blk w3 w2.heap.size 175 #[.int .i64 0, .int .i64 0] := (Blk.new w2.drew 175 #[.int .i64 0, .int .i64 0]).on hb3; obtain ⟨z0, z1⟩ := kk.cells2; have z2 := kk.frozen 0; have z3 := kk.frozen 1; have kW : Blk ((w3.setCell ⟨w2.heap.size, 0, none⟩ (.int .i64 x)).setCell ⟨w2.heap.size, 1, none⟩ (.int .i64 y)) w2.heap.size 175 #[.int .i64 x, .int .i64 y] := (kk.set_ 0 (.int .i64 x)).set_ 1 (.int .i64 y)) | (go_at_call 116; refine (HE.out _).mono ?_; rintro e w3 ⟨rfl, hb3⟩; have kW := Blk.new w3 175 #[.int .i64 x, .int .i64 y]) | skip)))
    refine hK.out _ _ ?kr1_5 (fun hHeld => ?_)
    case kr1_5 => (try dsimp only); (first | with_reducible assumption | with_reducible exact s8_bel (by exact obB) HS.out | exact s8_bel (by assumption) (by assumption) | assumption | exact s8_alloc (by assumption) _ | exact s8_bel (by exact obB) HS.out)
    clear hK K
    try simp only [Act.put, List.setIfInBounds_toArray, List.set_cons_zero, List.set_cons_succ]
    refine tk 6 ?_
    refine tk 7 ?_
    refine tk 8 ?_
    refine tk 9 ?_
    refine wpAnyH_ready (rs := [10]) (by kernel_rfl) (by simp) ?_
    refine AllReadyH.cons (o := ?or1b1_10) ?ir1b1_10 (fun K hK => ?sr1b1_10) AllReadyH.nil
    case ir1b1_10 => (simp only [List.getElem?_toArray, List.getElem?_cons_succ, List.getElem?_cons_zero]; rfl)
    (first | (go_simp; (first | (go_at_call 116; refine (HE.out _).mono ?_; rintro e w3 ⟨rfl, hb3⟩; have kk : Blk w3 w2.heap.size 175 #[.int .i64 0, .int .i64 0] := (Blk.new w2.drew 175 #[.int .i64 0, .int .i64 0]).on hb3; obtain ⟨z0, z1⟩ := kk.cells2; have z2 := kk.frozen 0; have z3 := kk.frozen 1; have kW : Blk ((w3.setCell ⟨w2.heap.size, 0, none⟩ (.int .i64 x)).setCell ⟨w2.heap.size, 1, none⟩ (.int .i64 y)) w2.heap.size 175 #[.int .i64 x, .int .i64 y] := (kk.set_ 0 (.int .i64 x)).set_ 1 (.int .i64 y)) | (go_at_call 116; refine (HE.out _).mono ?_; rintro e w3 ⟨rfl, hb3⟩; have kW := Blk.new w3 175 #[.int .i64 x, .int .i64 y]) | skip)))
    refine hK.out _ _ ?kr1b1_10 (fun hHeld => ?_)
    case kr1b1_10 => (try dsimp only); (first | with_reducible assumption | with_reducible exact s8_bel (by exact obB) HS.out | exact s8_bel (by assumption) (by assumption) | assumption | exact s8_alloc (by assumption) _ | exact s8_bel (by exact obB) HS.out)
    clear hK K
    try simp only [Act.put, List.setIfInBounds_toArray, List.set_cons_zero, List.set_cons_succ]
    refine wpAnyH_ready (rs := [11]) (by kernel_rfl) (by simp) ?_
    refine AllReadyH.cons (o := ?or1b1_11) ?ir1b1_11 (fun K hK => ?sr1b1_11) AllReadyH.nil
    case ir1b1_11 => (simp only [List.getElem?_toArray, List.getElem?_cons_succ, List.getElem?_cons_zero]; rfl)
    (first | (go_simp; (first | (go_at_call 116; refine (HE.out _).mono ?_; rintro e w3 ⟨rfl, hb3⟩; have kk : Blk w3 w2.heap.size 175 #[.int .i64 0, .int .i64 0] := (Blk.new w2.drew 175 #[.int .i64 0, .int .i64 0]).on hb3; obtain ⟨z0, z1⟩ := kk.cells2; have z2 := kk.frozen 0; have z3 := kk.frozen 1; have kW : Blk ((w3.setCell ⟨w2.heap.size, 0, none⟩ (.int .i64 x)).setCell ⟨w2.heap.size, 1, none⟩ (.int .i64 y)) w2.heap.size 175 #[.int .i64 x, .int .i64 y] := (kk.set_ 0 (.int .i64 x)).set_ 1 (.int .i64 y)) | (go_at_call 116; refine (HE.out _).mono ?_; rintro e w3 ⟨rfl, hb3⟩; have kW := Blk.new w3 175 #[.int .i64 x, .int .i64 y]) | skip)))
    refine hK.out _ _ ?kr1b1_11 (fun hHeld => ?_)
    case kr1b1_11 => (try dsimp only); (first | with_reducible assumption | with_reducible exact s8_bel (by exact obB) HS.out | exact s8_bel (by assumption) (by assumption) | assumption | exact s8_alloc (by assumption) _ | exact s8_bel (by exact obB) HS.out)
    clear hK K
    try simp only [Act.put, List.setIfInBounds_toArray, List.set_cons_zero, List.set_cons_succ]
    refine wpAnyH_done (by kernel_rfl) ?_ _
    refine NoPanic.normal ?_
   case' sr1_10 =>
    (first | (go_simp; (first | (go_at_call 116; refine (HE.out _).mono ?_; rintro e w3 ⟨rfl, hb3⟩; have kk : Blk w3 w2.heap.size 175 #[.int .i64 0, .int .i64 0] := (Blk.new w2.drew 175 #[.int .i64 0, .int .i64 0]).on hb3; obtain ⟨z0, z1⟩ := kk.cells2; have z2 := kk.frozen 0; have z3 := kk.frozen 1; have kW : Blk ((w3.setCell ⟨w2.heap.size, 0, none⟩ (.int .i64 x)).setCell ⟨w2.heap.size, 1, none⟩ (.int .i64 y)) w2.heap.size 175 #[.int .i64 x, .int .i64 y] := (kk.set_ 0 (.int .i64 x)).set_ 1 (.int .i64 y)) | (go_at_call 116; refine (HE.out _).mono ?_; rintro e w3 ⟨rfl, hb3⟩; have kW := Blk.new w3 175 #[.int .i64 x, .int .i64 y]) | skip)))
    refine hK.out _ _ ?kr1_10 (fun hHeld => ?_)
    case kr1_10 => (try dsimp only); (first | with_reducible assumption | with_reducible exact s8_bel (by exact obB) HS.out | exact s8_bel (by assumption) (by assumption) | assumption | exact s8_alloc (by assumption) _ | exact s8_bel (by exact obB) HS.out)
    clear hK K
    try simp only [Act.put, List.setIfInBounds_toArray, List.set_cons_zero, List.set_cons_succ]
    refine wpAnyH_ready (rs := [5]) (by kernel_rfl) (by simp) ?_
    refine AllReadyH.cons (o := ?or1b2_5) ?ir1b2_5 (fun K hK => ?sr1b2_5) AllReadyH.nil
    case ir1b2_5 => (simp only [List.getElem?_toArray, List.getElem?_cons_succ, List.getElem?_cons_zero]; rfl)
    (first | (go_simp; (first | (go_at_call 116; refine (HE.out _).mono ?_; rintro e w3 ⟨rfl, hb3⟩; have kk : Blk w3 w2.heap.size 175 #[.int .i64 0, .int .i64 0] := (Blk.new w2.drew 175 #[.int .i64 0, .int .i64 0]).on hb3; obtain ⟨z0, z1⟩ := kk.cells2; have z2 := kk.frozen 0; have z3 := kk.frozen 1; have kW : Blk ((w3.setCell ⟨w2.heap.size, 0, none⟩ (.int .i64 x)).setCell ⟨w2.heap.size, 1, none⟩ (.int .i64 y)) w2.heap.size 175 #[.int .i64 x, .int .i64 y] := (kk.set_ 0 (.int .i64 x)).set_ 1 (.int .i64 y)) | (go_at_call 116; refine (HE.out _).mono ?_; rintro e w3 ⟨rfl, hb3⟩; have kW := Blk.new w3 175 #[.int .i64 x, .int .i64 y]) | skip)))
    refine hK.out _ _ ?kr1b2_5 (fun hHeld => ?_)
    case kr1b2_5 => (try dsimp only); (first | with_reducible assumption | with_reducible exact s8_bel (by exact obB) HS.out | exact s8_bel (by assumption) (by assumption) | assumption | exact s8_alloc (by assumption) _ | exact s8_bel (by exact obB) HS.out)
    clear hK K
    try simp only [Act.put, List.setIfInBounds_toArray, List.set_cons_zero, List.set_cons_succ]
    refine tk 6 ?_
    refine tk 7 ?_
    refine tk 8 ?_
    refine tk 9 ?_
    refine wpAnyH_ready (rs := [11]) (by kernel_rfl) (by simp) ?_
    refine AllReadyH.cons (o := ?or1b2_11) ?ir1b2_11 (fun K hK => ?sr1b2_11) AllReadyH.nil
    case ir1b2_11 => (simp only [List.getElem?_toArray, List.getElem?_cons_succ, List.getElem?_cons_zero]; rfl)
    (first | (go_simp; (first | (go_at_call 116; refine (HE.out _).mono ?_; rintro e w3 ⟨rfl, hb3⟩; have kk : Blk w3 w2.heap.size 175 #[.int .i64 0, .int .i64 0] := (Blk.new w2.drew 175 #[.int .i64 0, .int .i64 0]).on hb3; obtain ⟨z0, z1⟩ := kk.cells2; have z2 := kk.frozen 0; have z3 := kk.frozen 1; have kW : Blk ((w3.setCell ⟨w2.heap.size, 0, none⟩ (.int .i64 x)).setCell ⟨w2.heap.size, 1, none⟩ (.int .i64 y)) w2.heap.size 175 #[.int .i64 x, .int .i64 y] := (kk.set_ 0 (.int .i64 x)).set_ 1 (.int .i64 y)) | (go_at_call 116; refine (HE.out _).mono ?_; rintro e w3 ⟨rfl, hb3⟩; have kW := Blk.new w3 175 #[.int .i64 x, .int .i64 y]) | skip)))
    refine hK.out _ _ ?kr1b2_11 (fun hHeld => ?_)
    case kr1b2_11 => (try dsimp only); (first | with_reducible assumption | with_reducible exact s8_bel (by exact obB) HS.out | exact s8_bel (by assumption) (by assumption) | assumption | exact s8_alloc (by assumption) _ | exact s8_bel (by exact obB) HS.out)
    clear hK K
    try simp only [Act.put, List.setIfInBounds_toArray, List.set_cons_zero, List.set_cons_succ]
    refine wpAnyH_done (by kernel_rfl) ?_ _
    refine NoPanic.normal ?_
   all_goals
    have hz3 := hb3.size
    have hz4 : w2.heap.size ≤ w3.heap.size := by first | exact hz3 | (simp at hz3; omega)
    clear hz3 hS hHeld
    go_wp2_with (at_builtin; refine app_byte rfl _ _ 98 rfl (w.heap.size + 1) 5 Tryz.underlying98 Tryz.info_u8w _ _ _ rfl (own_on hown (by exact obB)) (byt y) _ HY.out.symm 1 (by first | with_reducible rfl | simp [Act.eval]) (by omega) (by simp; omega) ?_; intro v9 w9 hown9 hb9 hg9; have kP := kW.grown hg9 (fun e => by have := (hown.lt _ e.symm).2; omega); obtain ⟨z4, z5⟩ := kP.cells2)
    go_roundw
    case rel => exact ⟨x, rl ++ [byt y], rfl, HX, by simpa using hown9, HS2q, hid ((HKr.out.on (B := wr.heap.size) (by exact obB) hz0).on hb9 (by omega)), Below.trans (by exact obB) (hb9.mono (by omega))⟩
    case measure => simp [intOf]; omega
  ·have hcd : 0 ≤ cd ∧ cd < pow2 k.l := by have := HH.out; unfold HasW at this; omega
   have ey := IntWalk.u8_in cd (by omega)
   have HY := hid (byt_nat hcd.1 (by omega))
   have HR := hid (word_bottom k cd (by unfold Kn.c; omega) rl code HW.out)
   obtain ⟨q0, q1, q2, q3, q4, q5, q6⟩ := hk2
   go_wp2_with fail
   clear q1 q2 q3 q4 q5 q6
   refine (HE.out _).mono ?_
   rintro e w2 ⟨rfl, hb2⟩
   have hz2 := hb2.size
   go_wp2_with (at_builtin; refine app_byte rfl _ _ 98 rfl (w.heap.size + 1) 5 Tryz.underlying98 Tryz.info_u8w _ _ _ rfl (own_on hown (by exact obB)) (byt cd) _ HY.out.symm 1 rfl (by omega) (by omega) ?_; intro v9 w9 hown9 hb9 hg9)
   obtain ⟨g9, c9, hv9, hg1, hg2⟩ := own_form hown9 (by omega)
   subst hv9
   have hB9 : Below w.heap.size w w9 := Below.trans (by exact obB) (hb9.mono (by omega))
   clear hb9 hg9 hown hb2 hbl
   have hlen9 : (rl ++ [byt cd]).length = rl.length + 1 := by simp
   have HR2 := hid (show (rl ++ [byt cd]).reverse = k.word code from HR.out.symm)
   obtain ⟨l9, hl9⟩ : ∃ l9, l9 = rl ++ [byt cd] := ⟨_, rfl⟩
   rw [← hl9] at hown9 hlen9 HR2
   clear hl9 HR
   obtain ⟨n, hn⟩ : ∃ n, n = rl.length + 1 := ⟨_, rfl⟩
   rw [← hn] at hown9 hlen9 ⊢
   have HL := hid hlen9
   have hn2 : n ≤ 1022 := by omega
   have hn1 : 1 ≤ n := by omega
   clear hlen9 hn
   go_loopw [7] (fun i wq => ∃ j : Nat, 2 * j ≤ n + 1 ∧ i = .int .i64 j ∧ wq.ownsRow (w.heap.size + 1) 5 1 (.slice (some ⟨g9, 0, none⟩) n c9) n ((rv l9 j).map vb) ∧ Below w.heap.size w wq) (fun i _ => n - (intOf i).toNat)
   case atStart => exact ⟨0, by omega, rfl, by rw [rv_zero]; exact hown9, hB9⟩
   case round =>
    obtain ⟨j, hj, rfl, hownj, hbj⟩ := hrel
    by_cases hlt2 : 2 * j + 1 < n
    ·have HM := hid (rv_mid l9 j (by have := HL.out; omega))
     have HS := hid (rv_step l9 j (by have := HL.out; omega))
     rw [HL.out] at HM HS
     obtain ⟨x, hx⟩ : ∃ x, x = (l9[j]?).getD 0 := ⟨_, rfl⟩
     obtain ⟨y, hy⟩ : ∃ y, y = (l9[n - 1 - j]?).getD 0 := ⟨_, rfl⟩
     rw [← hx, ← hy] at HM HS
     clear hx hy
     obtain ⟨m, hm⟩ : ∃ m : Nat, m = n - 1 - j := ⟨_, rfl⟩
     have hm2 : ((n : Int) - 1 - j) = (m : Int) := by omega
     rw [← hm] at HM HS
     have hmn : m < n := by omega
     have hjm : j < m := by omega
     clear hm
     have q0 := own_byte hownj j x HM.out.1
     have q1 := own_byte hownj m y HM.out.2
     have f0 := hownj.frozenAt j
     have f1 := hownj.frozenAt m
     have hst := own_bytes_set (own_bytes_set hownj j y) m x
     rw [← HS.out] at hst
     have HT := hid hst
     clear hst hownj
     go_wp2
     go_roundw
     case rel => exact ⟨j + 1, by omega, by go_num, HT.out, bel_set (bel_set hbj (by show w.heap.size ≤ g9; omega) _) (by show w.heap.size ≤ g9; omega) _⟩
     case measure => simp [intOf]; omega
    ·have hlast : rv l9 j = l9.reverse := rv_all l9 j (by have := HL.out; omega)
     rw [hlast, HR2.out] at hownj
     have hcv := run_own_str (P := Tryz.prog) Tryz.underlying98 Tryz.underlying5 Tryz.underlying9 hownj
     clear hlast hownj
     go_wp2
     go_ret
     exact ⟨rfl, by exact obB⟩
end

section
open Go.ChangeShapes Go.WideShapes Go.ChangeAt Go.RowKit Go.Joins
set_option linter.unusedVariables false

theorem has_ne {k : Kn} {code : Int} (hc : HasW (pow2 k.l) code k.ps.length) : (code == k.next) = false := by
 have := next_eq k
 unfold HasW at hc
 rw [beq_eq_false_iff_ne]; omega
theorem c_l2Any (k : Kn) (A : Option Addr) (cap L : Nat) (w : World) (h : k.Ok) (hps : PsAt w L A cap k.ps) (hL : L ≤ w.heap.size) (code : Int) (hc : k.Fol code) :
  Calls Tryz.prog 119 #[.agg #[.int .i64 k.o, .int .i64 k.l, .int .i64 k.m, .slice A k.ps.length cap, .int .i64 k.base, .int .i64 k.last], .int .i64 code] w fun e w' => e = .returned (.string (str (k.any code))) ∧ Below w.heap.size w w' := by
 have HN := hid (fun (v : World) => c_l2Next k A cap v h)
 have HWd := hid (fun (v : World) (hb : Below w.heap.size w v) (cd : Int) (hcd : HasW (pow2 k.l) cd k.ps.length) => c_l2Word k A cap L v h (hps.below hb hL) (Nat.le_trans hL hb.size) cd hcd)
 rcases hc with hc | ⟨hg, rfl⟩
 ·have hne := has_ne hc
  rw [Kn.any_has hc]
  have HC := hid hc
  clear hc hps h
  go_enter Tryz.func119, Tryz.ntmps119
  go_wp2_with fail
  refine (HN.out _).mono ?_
  rintro e w1 ⟨rfl, hb1⟩
  have hc1 := bcell hb1
  have hz1_0 : w.heap.size < w1.heap.size := (by have := hb1.size; first | omega | (simp at this; omega))
  go_wp2_with fail
  refine (HWd.out _ (by exact obB) code HC.out).mono ?_
  rintro e w2 ⟨rfl, hb2⟩
  have hc2 := bcell hb2
  go_wp2
  go_ret
  exact ⟨rfl, by exact obB⟩
 ·have hlw := h.lastW hg
  have hlen := h.len
  obtain ⟨T, hT⟩ : ∃ T, T = str (k.word k.last) := ⟨_, rfl⟩
  have hTl := word_len _ _ h.pairs _ hlw
  have hTn := word_ne _ _ h.pairs _ hlw
  have hT1 : 1 ≤ T.size := by rw [hT, str_size]; have := List.length_pos_iff.2 hTn; unfold Kn.word; omega
  have hT2 : T.size ≤ 1021 := by rw [hT, str_size]; unfold Kn.word; omega
  have HA := hid (show str (k.any k.next) = T ++ T.extract 0 1 by rw [Kn.any_next, ← str_append, str_take _ 1 T hT, hT])
  have HW := hid (fun (v : World) (hb : Below w.heap.size w v) => HWd.out v hb k.last hlw)
  rw [← hT] at HW
  clear hT hTl hTn hlw hps h HWd
  go_enter Tryz.func119, Tryz.ntmps119
  go_wp2_with fail
  refine (HN.out _).mono ?_
  rintro e w1 ⟨rfl, hb1⟩
  have hc1 := bcell hb1
  have hz1_0 : w.heap.size < w1.heap.size := (by have := hb1.size; first | omega | (simp at this; omega))
  go_wp2_with fail
  refine (HW.out _ (by exact obB)).mono ?_
  rintro e w2 ⟨rfl, hb2⟩
  have hc2 := bcell hb2
  go_wp2
  go_ret
  exact ⟨ret_str HA.out.symm, by exact obB⟩

theorem c_l2Follows (k : Kn) (A : Option Addr) (cap : Nat) (w : World) (h : k.Ok) (code : Int) :
  Calls Tryz.prog 118 #[.agg #[.int .i64 k.o, .int .i64 k.l, .int .i64 k.m, .slice A k.ps.length cap, .int .i64 k.base, .int .i64 k.last], .int .i64 code] w fun e w' => e = .returned (.bool (decide (k.Fol code))) ∧ Below w.heap.size w w' := by
 have hlen := h.len
 have HN := hid (fun (v : World) => c_l2Next k A cap v h)
 have HG := hid (fun (v : World) => c_l2Grows k A cap v h)
 have HC := hid (fun (v : World) => c_l2Code k.o k.l k.m code k.ps.length v h.set (by omega))
 by_cases h1 : HasW (pow2 k.l) code k.ps.length
 ·simp only [decide_eq_true h1] at HC
  have HR := hid (show decide (k.Fol code) = true from decide_eq_true (Or.inl h1))
  clear h1 h
  go_enter Tryz.func118, Tryz.ntmps118
  go_wp2_with fail
  refine (HC.out _).mono ?_
  rintro e w1 ⟨rfl, hb1⟩
  have hc1 := bcell hb1
  go_wp2
  go_ret
  exact ⟨ret_bool HR.out.symm, by exact obB⟩
 ·simp only [decide_eq_false h1] at HC
  cases hg : k.grows with
  | false =>
   rw [hg] at HG
   have HR := hid (show decide (k.Fol code) = false from decide_eq_false (by rintro (h2 | ⟨h2, _⟩); exact h1 h2; rw [hg] at h2; cases h2))
   clear h1 h hg
   go_enter Tryz.func118, Tryz.ntmps118
   go_wp2_with fail
   refine (HC.out _).mono ?_
   rintro e w1 ⟨rfl, hb1⟩
   have hc1 := bcell hb1
   have hz1_0 : w.heap.size < w1.heap.size := (by have := hb1.size; first | omega | (simp at this; omega))
   go_wp2_with fail
   refine (HG.out _).mono ?_
   rintro e w2 ⟨rfl, hb2⟩
   have hc2 := bcell hb2
   go_wp2
   go_ret
   exact ⟨ret_bool HR.out.symm, by exact obB⟩
  | true =>
   rw [hg] at HG
   have HR := hid (show decide (k.Fol code) = (code == k.next) by
    rw [Bool.eq_iff_iff, decide_eq_true_eq, beq_iff_eq]
    exact ⟨fun h2 => h2.elim (fun h3 => absurd h3 h1) (·.2), fun h2 => Or.inr ⟨hg, h2⟩⟩)
   clear h1 h hg
   go_enter Tryz.func118, Tryz.ntmps118
   go_wp2_with fail
   refine (HC.out _).mono ?_
   rintro e w1 ⟨rfl, hb1⟩
   have hc1 := bcell hb1
   have hz1_0 : w.heap.size < w1.heap.size := (by have := hb1.size; first | omega | (simp at this; omega))
   go_wp2_with fail
   refine (HG.out _).mono ?_
   rintro e w2 ⟨rfl, hb2⟩
   have hc2 := bcell hb2
   have hz2_0 : w.heap.size < w2.heap.size := (by have := hb2.size; first | omega | (simp at this; omega))
   go_wp2_with fail
   refine (HN.out _).mono ?_
   rintro e w3 ⟨rfl, hb3⟩
   have hc3 := bcell hb3
   go_wp2
   go_ret
   exact ⟨ret_bool HR.out.symm, by exact obB⟩

theorem c_canFollow (b : Nat) (k : Kn) (A : Option Addr) (cap : Nat) (w : World) (h : k.Ok) (hk : KAt w b k (.slice A k.ps.length cap)) (code : Int) : Calls Tryz.prog 172 #[.pointer (some ⟨b, 0, none⟩), .int .i64 code] w fun e w' => e = .returned (.bool (decide (0 ≤ code ∧ code ≤ k.great))) ∧ Below w.heap.size w w' := by
 have HG := hid (c_greatest b k A cap w h hk)
 clear hk h
 by_cases h0 : 0 ≤ code
 ·go_enter Tryz.func172, Tryz.ntmps172
  go_wp2_with fail
  refine (HG.out).mono ?_
  rintro e w1 ⟨rfl, hb1⟩
  have hc1 := bcell hb1
  go_wp2
  go_ret
  exact ⟨ret_bool (by simp [h0]), by exact obB⟩
 ·go_enter Tryz.func172, Tryz.ntmps172
  go_wp2
  go_ret
  exact ⟨ret_bool (by simp; omega), by exact obB⟩

theorem c_standsForWord (b : Nat) (k : Kn) (A : Option Addr) (cap : Nat) (w : World) (h : k.Ok) (hk : KAt w b k (.slice A k.ps.length cap)) (code : Int) : Calls Tryz.prog 173 #[.pointer (some ⟨b, 0, none⟩), .int .i64 code] w fun e w' => e = .returned (.bool (decide (k.Fol code))) ∧ Below w.heap.size w w' := by
 have HF := hid (c_canFollow b k A cap w h hk code)
 have HCl := hid (fun (v : World) => c_ClearCode_yes k.o k.l k.m v h.set)
 have HE := hid (fun (v : World) => c_EndCode_yes k.o k.l k.m v h.set)
 have hfi := h.fol_iff code
 have hc : k.c = pow2 k.l := rfl
 rw [hc] at hfi
 have HK := hid hk
 obtain ⟨hb, q0, q1, q2, q3, q4, q5⟩ := hk
 clear h hc
 by_cases h1 : 0 ≤ code ∧ code ≤ k.great
 ·rw [decide_eq_true h1] at HF
  by_cases h2 : code = pow2 k.l
  ·have HR := hid (show decide (k.Fol code) = false by rw [decide_eq_false_iff_not, hfi]; omega)
   have e2 : (code != pow2 k.l) = false := by simp [h2]
   clear h1 h2 hfi
   go_enter Tryz.func173, Tryz.ntmps173
   go_wp2_with fail
   refine (HF.out).mono ?_
   rintro e w1 ⟨rfl, hb1⟩
   have hc1 := bcell hb1
   have hz1_0 : b < w1.heap.size := (by have := hb1.size; first | omega | (simp at this; omega))
   go_wp2_with fail
   refine (HCl.out _).mono ?_
   rintro e w2 ⟨rfl, hb2⟩
   have hc2 := bcell hb2
   have hz2_0 : b < w2.heap.size := (by have := hb2.size; first | omega | (simp at this; omega))
   go_wp2
   go_ret
   exact ⟨ret_bool HR.out.symm, by exact obB⟩
  ·have e2 : (code != pow2 k.l) = true := by simp [h2]
   have HR := hid (show decide (k.Fol code) = (code != pow2 k.l + 1) by rw [Bool.eq_iff_iff]; simp [hfi, h1.1, h1.2, h2])
   clear h1 h2 hfi
   go_enter Tryz.func173, Tryz.ntmps173
   go_wp2_with fail
   refine (HF.out).mono ?_
   rintro e w1 ⟨rfl, hb1⟩
   have hc1 := bcell hb1
   have hz1_0 : b < w1.heap.size := (by have := hb1.size; first | omega | (simp at this; omega))
   go_wp2_with fail
   refine (HCl.out _).mono ?_
   rintro e w2 ⟨rfl, hb2⟩
   have hc2 := bcell hb2
   have hz2_0 : b < w2.heap.size := (by have := hb2.size; first | omega | (simp at this; omega))
   go_wp2_with fail
   refine (HE.out _).mono ?_
   rintro e w3 ⟨rfl, hb3⟩
   have hc3 := bcell hb3
   go_wp2
   go_ret
   exact ⟨ret_bool HR.out.symm, by exact obB⟩
 ·rw [decide_eq_false h1] at HF
  have HR := hid (show decide (k.Fol code) = false by rw [decide_eq_false_iff_not, hfi]; omega)
  clear h1 hfi
  go_enter Tryz.func173, Tryz.ntmps173
  go_wp2_with fail
  refine (HF.out).mono ?_
  rintro e w1 ⟨rfl, hb1⟩
  have hc1 := bcell hb1
  have hz1_0 : b < w1.heap.size := (by have := hb1.size; first | omega | (simp at this; omega))
  go_wp2
  go_ret
  exact ⟨ret_bool HR.out.symm, by exact obB⟩
end

section
open Go.ChangeShapes Go.WideShapes Go.ChangeAt Go.RowKit Go.Joins
set_option linter.unusedVariables false
end

section
open Go.ChangeShapes Go.WideShapes Go.ChangeAt Go.RowKit Go.Joins
set_option linter.unusedVariables false

theorem c_Clone (A : Option Addr) (cap L : Nat) (ps : List Pr) (w : World) (h : PsAt w L A cap ps) (hL : L ≤ w.heap.size) (hn : ps.length ≤ 1048576) : Calls Tryz.prog 137 #[.slice A ps.length cap] w fun e w' => ∃ v, e = .returned v ∧ w'.ownsRow w.heap.size 175 2 v ps.length (prs ps) ∧ Below w.heap.size w w' := by
 have q22 : ∀ (w : World) (a : Option Addr) (n c n' c' : Nat), (binOp .eql 86 (.slice a n c) (.slice none n' c')).run Tryz.prog w = .ok (.bool a.isNone) w := fun w a n c n' c' => Go.Lib.run_eql_slice_nil w _ _ a n c n' c' Tryz.underlying86
 have HH := hid h
 cases A with
 | none =>
  have hc := h.2.2.1 rfl
  have h0 : ps = [] := List.length_eq_zero_iff.1 (by have := h.1; omega)
  subst hc h0
  clear h
  go_enter Tryz.func137, Tryz.ntmps137
  go_wp2
  go_ret
  exact ⟨_, rfl, World.ownsRow_nil _ _ _ _, by exact obB⟩
 | some a =>
  clear h
  go_enter Tryz.func137, Tryz.ntmps137
  go_wp2_with (at_builtin; refine app_pairs rfl _ _ 86 rfl w.heap.size 175 Tryz.underlying86 Tryz.info_pair _ 0 [] rfl (World.ownsRow_made w #[] 0 (Nat.le_refl _) (Nat.zero_le _) rfl) (some a) cap L ps.length ps (HH.out.alloc hL _) rfl rfl (by omega) (by simp) ?_; intro v1 w1 hown1 hb1 hg1)
  go_ret
  exact ⟨_, rfl, by simpa using hown1, Below.trans (by exact obB) hb1⟩

theorem c_ownCopy (k : Kn) (A : Option Addr) (cap L : Nat) (w : World) (h : PsAt w L A cap k.ps) (hL : L ≤ w.heap.size) (hn : k.ps.length ≤ 1048576) : Calls Tryz.prog 93 #[.agg #[.int .i64 k.o, .int .i64 k.l, .int .i64 k.m, .slice A k.ps.length cap, .int .i64 k.base, .int .i64 k.last]] w fun e w' => ∃ A' cap', e = .returned (.agg #[.int .i64 k.o, .int .i64 k.l, .int .i64 k.m, .slice A' k.ps.length cap', .int .i64 k.base, .int .i64 k.last]) ∧ w'.ownsRow w.heap.size 175 2 (.slice A' k.ps.length cap') k.ps.length (prs k.ps) ∧ Below w.heap.size w w' := by
 have HH := hid h
 clear h
 have hs2 : ∀ (o1 o2 : Obj), ((w.alloc o1).alloc o2).heap.size = w.heap.size + 2 := fun o1 o2 => by simp
 go_enter Tryz.func93, Tryz.ntmps93
 go_wp2_with fail
 refine (c_Clone A cap L k.ps _ ((HH.out.alloc hL _).alloc (by simp; omega) _) (by simp; omega) hn).mono ?_
 rintro e w1 ⟨v1, rfl, hown1, hb1⟩
 obtain ⟨A1, c1, hv1, hps1, _, _⟩ := own_ps hown1
 subst hv1
 rw [hs2] at hown1
 have kN := ((Blk.new w 88 #[.int .i64 k.o, .int .i64 k.l, .int .i64 k.m, .slice A k.ps.length cap, .int .i64 k.base, .int .i64 k.last]).alloc _).on hb1
 have kR := (Blk.top w _ _ _).on hb1
 have hB1 : Below w.heap.size w w1 := by exact obB
 clear hb1
 obtain ⟨p0, p1, p2, p3, p4, p5⟩ := kN.cells6
 obtain ⟨u0, u1, u2, u3, u4, u5⟩ := kN.free6
 obtain ⟨t0, t1, t2, t3, t4, t5⟩ := kR.cells6
 obtain ⟨v0, v1, v2, v3, v4, v5⟩ := kR.free6
 obtain ⟨j0, j1, j2, j3, j4, j5⟩ := ((kR.far (R := w.heap.size) 3 (.slice A1 k.ps.length c1) (by omega)).put6 (.int .i64 k.o) (.int .i64 k.l) (.int .i64 k.m) (.slice A1 k.ps.length c1) (.int .i64 k.base) (.int .i64 k.last)).cells6
 clear kN kR
 go_wp2
 refine bodyPost_ret (v := .agg #[.int .i64 k.o, .int .i64 k.l, .int .i64 k.m, .slice A1 k.ps.length c1, .int .i64 k.base, .int .i64 k.last]) (by simp [results, Tryz.results93, go_sem, j0, j1, j2, j3, j4, j5]) rfl ⟨A1, c1, rfl, ?_, by exact obB⟩
 refine own_mono (B := w.heap.size + 2) ?_ (by omega)
 repeat refine ownsRow_setCell_below ?_ (by simp <;> omega) _
 exact hown1

theorem c_firstByte_has (b : Nat) (k : Kn) (A : Option Addr) (cap L : Nat) (w : World) (h : k.Ok) (hk : KAt w b k (.slice A k.ps.length cap)) (hps : PsAt w L A cap k.ps) (hL : L ≤ w.heap.size) (F code : Int) (next : Bool)
  (hc : next = true → code = k.next ∧ k.grows = true ∧ F = fstN k.c k.ps k.last) (hc2 : next = false → HasW (pow2 k.l) code k.ps.length ∧ F = fstN k.c k.ps code) :
  Calls Tryz.prog 161 #[.pointer (some ⟨b, 0, none⟩), .int .i64 code] w fun e w' => e = .returned (.int .i64 F) ∧ Below w.heap.size w w' := by
 have hp := set_bd h.set
 have hlen := h.len
 have hb := hk.1
 have HK := hid hk
 have HP := hid hps
 have HOk := hid h
 have HN := hid (fun (v : World) (hv : KAt v b k (.slice A k.ps.length cap)) => c_nextWord b k A cap v h hv)
 have HF := hid (fun (v : World) (hv : KAt v b k (.slice A k.ps.length cap)) => c_firstWord b k A cap v h hv)
 have hne : (code == k.next) = next := by
  cases next with
  | true => simp [(hc rfl).1]
  | false => exact has_ne (hc2 rfl).1
 have HA := hid (show HasW (pow2 k.l) (if next then k.last else code) k.ps.length ∧ F = fstN k.c k.ps (if next then k.last else code) by
  cases next with
  | true => exact ⟨h.lastW (hc rfl).2.1, (hc rfl).2.2⟩
  | false => exact hc2 rfl)
 clear hk hps h hc hc2
 have key : ∀ (w1 : World) (hb1 : Below w.heap.size w w1), True := fun _ _ => trivial
 cases next with
 | true =>
  go_enter Tryz.func161, Tryz.ntmps161
  go_wp2_with fail
  refine (HN.out _ HK.out).mono ?_
  rintro e w1 ⟨rfl, hb1⟩
  obtain ⟨q0, q1, q2, q3, q4, q5, q6⟩ := HK.out.on hb1 hb
  go_wp2_with fail
  clear q1 q2 q3 q4 q5 q6
  go_loopw [1] (fun i wr => ∃ cd : Int, i = .int .i64 cd ∧ Hid (HasW (pow2 k.l) cd k.ps.length ∧ F = fstN k.c k.ps cd) ∧ Below w.heap.size w wr) (fun i _ => (intOf i).toNat)
  case atStart => exact ⟨_, rfl, HA, by exact obB⟩
  case round =>
   obtain ⟨cd, rfl, HH, hbl⟩ := hrel
   have hk2 := HK.out.on hbl hb
   by_cases hlt : pow2 k.l + 2 ≤ cd
   ·obtain ⟨i, hi⟩ : ∃ i : Nat, cd = pow2 k.l + 2 + i := ⟨(cd - pow2 k.l - 2).toNat, by omega⟩
    subst hi
    have hil : i < k.ps.length := by have := HH.out.1; unfold HasW at this; omega
    obtain ⟨d, off, rfl, hd, hd0, hd1⟩ := pair_at (HP.out.below hbl hL) i hil
    have HG := hid (List.getElem?_eq_getElem hil)
    obtain ⟨p, hp2⟩ : ∃ p, p = k.ps[i] := ⟨_, rfl⟩
    rw [← hp2] at hd0 hd1 HG
    clear hp2
    have hpk := HOk.out.pairs i p HG.out
    have HX := hid (show HasW (pow2 k.l) p.1 k.ps.length ∧ F = fstN k.c k.ps p.1 from ⟨hpk.1.mono (by omega), HH.out.2.trans (fstN_pair _ _ HOk.out.pairs i p HG.out)⟩)
    obtain ⟨x, y⟩ := p
    simp only at hd0 hd1 hpk HX
    have hxlt : x < pow2 k.l + 2 + i ∧ 0 ≤ x := by have := hpk.1; unfold HasW at this; unfold Kn.c at this; omega
    have ew : IntKind.i64.wrap (pow2 k.l + 2 + (i : Int) - (pow2 k.l + 2)) = (i : Int) := (IntWalk.i64_in _ (by omega)).trans (by omega)
    clear hpk
    obtain ⟨q0, q1, q2, q3, q4, q5, q6⟩ := hk2
    have HS := hid (And.intro q1 (And.intro q2 (And.intro q3 (And.intro q4 (And.intro q5 (And.intro q6 (And.intro hd0 (And.intro hd1 (Below.refl wr.heap.size wr)))))))))
    clear q1 q2 q3 q4 q5 q6 hd0 hd1
    go_wp2_with fail
    refine (HF.out _ (HK.out.on hbl hb)).mono ?_
    rintro e w2 ⟨rfl, hb2⟩
    go_wp2_with fail
    have hS := s8_bel hb2 HS.out
    refine wp_region_noPanic ?_
    refine wp_region_held_drew (S := (fun v => v.cell? ⟨b, 0, none⟩ = some (.int .i64 k.o) ∧ v.cell? ⟨b, 1, none⟩ = some (.int .i64 k.l) ∧ v.cell? ⟨b, 2, none⟩ = some (.int .i64 k.m) ∧ v.cell? ⟨b, 3, none⟩ = some (.slice (some ⟨d, off, none⟩) k.ps.length cap) ∧ v.cell? ⟨b, 4, none⟩ = some (.int .i64 k.base) ∧ v.cell? ⟨b, 5, none⟩ = some (.int .i64 k.last) ∧ v.cell? ⟨d, off + i * 2, none⟩ = some (.int .i64 x) ∧ v.cell? ⟨d, off + i * 2 + 1, none⟩ = some (.int .i64 y) ∧ Below wr.heap.size wr v)) (by kernel_rfl) (s8_drew hS) (fun hHeld => ?_)
    refine tk 0 ?_
    refine tk 1 ?_
    refine tk 2 ?_
    refine tk 3 ?_
    refine tk 4 ?_
    refine tk 5 ?_
    refine wpAnyH_ready (rs := [6]) (by kernel_rfl) (by simp) ?_
    refine AllReadyH.cons (o := ?or1_6) ?ir1_6 (fun K hK => ?sr1_6) AllReadyH.nil
    case ir1_6 => (simp only [List.getElem?_toArray, List.getElem?_cons_succ, List.getElem?_cons_zero]; rfl)
    (first | (go_simp; (first | (go_at_call 94; refine (HF.out _ (HK.out.on (B := w.heap.size) (bel_trans hbl hHeld.2.2.2.2.2.2.2.2) hb)).mono ?_; rintro e w3 ⟨rfl, hb3⟩) | skip)))
    refine hK.out _ _ ?kr1_6 (fun hHeld => ?_)
    case kr1_6 => (try dsimp only); (first | with_reducible assumption | exact s8_bel (by assumption) (by assumption) | assumption | exact s8_alloc (by assumption) _)
    clear hK K
    try simp only [Act.put, List.setIfInBounds_toArray, List.set_cons_zero, List.set_cons_succ]
    refine tk 7 ?_
    refine tk 8 ?_
    refine tk 9 ?_
    refine tk 10 ?_
    refine tk 11 ?_
    refine wpAnyH_done (by kernel_rfl) ?_ _
    refine NoPanic.normal ?_
    all_goals
     clear hS hHeld
     go_wp2
     go_roundw
     case rel => exact ⟨x, rfl, HX, by exact obB⟩
     case measure => simp [intOf]; omega
   ·have hcd : 0 ≤ cd ∧ cd < pow2 k.l := by have := HH.out.1; unfold HasW at this; omega
    have HR := hid (show F = cd from HH.out.2.trans (fstN_lit _ _ (by unfold Kn.c; omega) cd hcd.1 hcd.2))
    obtain ⟨q0, q1, q2, q3, q4, q5, q6⟩ := hk2
    go_wp2_with fail
    clear q1 q2 q3 q4 q5 q6
    refine (HF.out _ (HK.out.on hbl hb)).mono ?_
    rintro e w2 ⟨rfl, hb2⟩
    go_wp2
    go_ret
    exact ⟨ret_int HR.out.symm, by exact obB⟩
 | false =>
  go_enter Tryz.func161, Tryz.ntmps161
  go_wp2_with fail
  refine (HN.out _ HK.out).mono ?_
  rintro e w1 ⟨rfl, hb1⟩
  go_wp2_with fail
  go_loopw [1] (fun i wr => ∃ cd : Int, i = .int .i64 cd ∧ Hid (HasW (pow2 k.l) cd k.ps.length ∧ F = fstN k.c k.ps cd) ∧ Below w.heap.size w wr) (fun i _ => (intOf i).toNat)
  case atStart => exact ⟨_, rfl, HA, by exact obB⟩
  case round =>
   obtain ⟨cd, rfl, HH, hbl⟩ := hrel
   have hk2 := HK.out.on hbl hb
   by_cases hlt : pow2 k.l + 2 ≤ cd
   ·obtain ⟨i, hi⟩ : ∃ i : Nat, cd = pow2 k.l + 2 + i := ⟨(cd - pow2 k.l - 2).toNat, by omega⟩
    subst hi
    have hil : i < k.ps.length := by have := HH.out.1; unfold HasW at this; omega
    obtain ⟨d, off, rfl, hd, hd0, hd1⟩ := pair_at (HP.out.below hbl hL) i hil
    have HG := hid (List.getElem?_eq_getElem hil)
    obtain ⟨p, hp2⟩ : ∃ p, p = k.ps[i] := ⟨_, rfl⟩
    rw [← hp2] at hd0 hd1 HG
    clear hp2
    have hpk := HOk.out.pairs i p HG.out
    have HX := hid (show HasW (pow2 k.l) p.1 k.ps.length ∧ F = fstN k.c k.ps p.1 from ⟨hpk.1.mono (by omega), HH.out.2.trans (fstN_pair _ _ HOk.out.pairs i p HG.out)⟩)
    obtain ⟨x, y⟩ := p
    simp only at hd0 hd1 hpk HX
    have hxlt : x < pow2 k.l + 2 + i ∧ 0 ≤ x := by have := hpk.1; unfold HasW at this; unfold Kn.c at this; omega
    have ew : IntKind.i64.wrap (pow2 k.l + 2 + (i : Int) - (pow2 k.l + 2)) = (i : Int) := (IntWalk.i64_in _ (by omega)).trans (by omega)
    clear hpk
    obtain ⟨q0, q1, q2, q3, q4, q5, q6⟩ := hk2
    have HS := hid (And.intro q1 (And.intro q2 (And.intro q3 (And.intro q4 (And.intro q5 (And.intro q6 (And.intro hd0 (And.intro hd1 (Below.refl wr.heap.size wr)))))))))
    clear q1 q2 q3 q4 q5 q6 hd0 hd1
    go_wp2_with fail
    refine (HF.out _ (HK.out.on hbl hb)).mono ?_
    rintro e w2 ⟨rfl, hb2⟩
    go_wp2_with fail
    have hS := s8_bel hb2 HS.out
    refine wp_region_noPanic ?_
    refine wp_region_held_drew (S := (fun v => v.cell? ⟨b, 0, none⟩ = some (.int .i64 k.o) ∧ v.cell? ⟨b, 1, none⟩ = some (.int .i64 k.l) ∧ v.cell? ⟨b, 2, none⟩ = some (.int .i64 k.m) ∧ v.cell? ⟨b, 3, none⟩ = some (.slice (some ⟨d, off, none⟩) k.ps.length cap) ∧ v.cell? ⟨b, 4, none⟩ = some (.int .i64 k.base) ∧ v.cell? ⟨b, 5, none⟩ = some (.int .i64 k.last) ∧ v.cell? ⟨d, off + i * 2, none⟩ = some (.int .i64 x) ∧ v.cell? ⟨d, off + i * 2 + 1, none⟩ = some (.int .i64 y) ∧ Below wr.heap.size wr v)) (by kernel_rfl) (s8_drew hS) (fun hHeld => ?_)
    refine tk 0 ?_
    refine tk 1 ?_
    refine tk 2 ?_
    refine tk 3 ?_
    refine tk 4 ?_
    refine tk 5 ?_
    refine wpAnyH_ready (rs := [6]) (by kernel_rfl) (by simp) ?_
    refine AllReadyH.cons (o := ?or2_6) ?ir2_6 (fun K hK => ?sr2_6) AllReadyH.nil
    case ir2_6 => (simp only [List.getElem?_toArray, List.getElem?_cons_succ, List.getElem?_cons_zero]; rfl)
    (first | (go_simp; (first | (go_at_call 94; refine (HF.out _ (HK.out.on (B := w.heap.size) (bel_trans hbl hHeld.2.2.2.2.2.2.2.2) hb)).mono ?_; rintro e w3 ⟨rfl, hb3⟩) | skip)))
    refine hK.out _ _ ?kr2_6 (fun hHeld => ?_)
    case kr2_6 => (try dsimp only); (first | with_reducible assumption | exact s8_bel (by assumption) (by assumption) | assumption | exact s8_alloc (by assumption) _)
    clear hK K
    try simp only [Act.put, List.setIfInBounds_toArray, List.set_cons_zero, List.set_cons_succ]
    refine tk 7 ?_
    refine tk 8 ?_
    refine tk 9 ?_
    refine tk 10 ?_
    refine tk 11 ?_
    refine wpAnyH_done (by kernel_rfl) ?_ _
    refine NoPanic.normal ?_
    all_goals
     clear hS hHeld
     go_wp2
     go_roundw
     case rel => exact ⟨x, rfl, HX, by exact obB⟩
     case measure => simp [intOf]; omega
   ·have hcd : 0 ≤ cd ∧ cd < pow2 k.l := by have := HH.out.1; unfold HasW at this; omega
    have HR := hid (show F = cd from HH.out.2.trans (fstN_lit _ _ (by unfold Kn.c; omega) cd hcd.1 hcd.2))
    obtain ⟨q0, q1, q2, q3, q4, q5, q6⟩ := hk2
    go_wp2_with fail
    clear q1 q2 q3 q4 q5 q6
    refine (HF.out _ (HK.out.on hbl hb)).mono ?_
    rintro e w2 ⟨rfl, hb2⟩
    go_wp2
    go_ret
    exact ⟨ret_int HR.out.symm, by exact obB⟩

theorem c_firstByte (b : Nat) (k : Kn) (A : Option Addr) (cap L : Nat) (w : World) (h : k.Ok) (hk : KAt w b k (.slice A k.ps.length cap)) (hps : PsAt w L A cap k.ps) (hL : L ≤ w.heap.size) (code : Int) (hc : k.Fol code) :
  Calls Tryz.prog 161 #[.pointer (some ⟨b, 0, none⟩), .int .i64 code] w fun e w' => e = .returned (.int .i64 (k.fst code)) ∧ Below w.heap.size w w' := by
 rcases hc with hc | ⟨hg, rfl⟩
 ·exact c_firstByte_has b k A cap L w h hk hps hL _ code false (by simp) (fun _ => ⟨hc, Kn.fst_has hc⟩)
 ·exact c_firstByte_has b k A cap L w h hk hps hL _ k.next true (fun _ => ⟨rfl, hg, h.fst_next hg⟩) (by simp)
end

section
open Go.ChangeShapes Go.WideShapes Go.ChangeAt Go.RowKit Go.Joins
set_option linter.unusedVariables false

theorem step_pairs {P : Program} {w : World} {ops : Array Oper} {o : Oper} {a : Act} {K : Act → World → Prop} {Q : Exit → Act → World → Prop} {E : Prop} (hgd : o.guard = none) (s x : Operand) (t : TypeId)
  (ho : o.op = .call { callee := .builtin .append, args := #[s, x], argTypes := #[t, t] }) (B : Nat) (e : TypeId) (ht : P.underlying t = some (.slice e))
  (hinfo : (P.info? e).map (fun i => (i.zero, i.size, i.bytes)) = some (some (.agg #[.int .i64 0, .int .i64 0]), 2, 16)) (v : Value) (n : Nat) (l : List Pr) (hs : a.eval s = v) (hown : w.ownsRow B e 2 v n (prs l)) (A : Option Addr) (cap L m : Nat) (ps : List Pr) (hA : PsAt w L A cap ps) (hm : m = ps.length)
  (hx : a.eval x = .slice A m cap) (hn : n + ps.length ≤ 1000000000000) (hB : B ≤ w.heap.size)
  (h : ∀ v' w', w'.ownsRow B e 2 v' (n + ps.length) (prs (l ++ ps)) → Below B w w' → w.grownBy w' v.ownBlock → K (a.put o.dst v') w') : if Region.wanted o (yielded ops a.tmps) = true then Oper.wp P o a w K Q else E := by
 have hw : Region.wanted o (yielded ops a.tmps) = true := by simp [Region.wanted, hgd]
 rw [if_pos hw]
 subst hm
 obtain ⟨i0, hi, hz0, hz1, hz2⟩ := info_parts hinfo
 cases A with
 | none =>
  have hc := hA.2.2.1 rfl
  subst hc
  have h0 : ps = [] := List.length_eq_zero_iff.1 (by have := hA.1; omega)
  subst h0
  have hrun := run_append_owned_none (P := P) (w := w) B t o.type e i0 2 ht hi v n (prs l) hown
  simp only [List.length_nil] at hx
  unfold Oper.wp
  simp [execOp, ho, resolve, invoke, builtin, hs, hx, hrun, Result.andThen]
  exact h v w (by simpa using hown) (Below.refl _ _) (grown_refl _ _)
 | some ad =>
  refine wp_append_own w s x t ho B e i0 (.agg #[.int .i64 0, .int .i64 0]) 2 16 ht hi hz0 hz1 hz2 rfl (by decide) v n (prs l) hs hown ad ps.length cap (prs ps) hx (prs_len _) ?_ (prs_one _) ?_ (by omega) hB ?_
  ·intro j u hj
   have hjl := get_lt hj
   rw [prs_len] at hjl
   obtain ⟨b, off, e1, _, hc⟩ := hA.2.2.2 (by omega)
   simp at e1
   subst e1
   have hg : ps[j / 2]? = some ps[j / 2] := List.getElem?_eq_getElem (by omega)
   have h1 := hc _ _ hg
   have h2 := prs_get ps _ _ hg
   have e2 : ((⟨b, off, none⟩ : Addr).add j) = ⟨b, off + j, none⟩ := by unfold Addr.add; split <;> simp_all
   rw [e2]
   rcases (show j = j / 2 * 2 ∨ j = j / 2 * 2 + 1 from by omega) with h3 | h3
   ·rw [h3] at hj ⊢
    rw [h2.1] at hj
    rw [h1.1, hj]
   ·rw [h3] at hj ⊢
    rw [h2.2] at hj
    rw [← Nat.add_assoc, h1.2, hj]
  ·unfold maxLen; omega
  ·intro v' w' hown' hg _
   refine h v' w' ?_ (below_of_grown hg hB (fun g hg => (hown.lt g hg).1)) hg
   rw [prs_append]; exact hown'

/-- one new pair, as a slice -/
theorem ps_new (w : World) (x y : Int) (t : TypeId) : PsAt (w.alloc (.cells #[.int .i64 x, .int .i64 y] t)) (w.heap.size + 1) (some ⟨w.heap.size, 0, none⟩) 1 [(x, y)] := by
 have hb := (Blk.new w t #[.int .i64 x, .int .i64 y]).cells2
 refine ⟨by simp, by simp [maxLen], by simp, fun _ => ⟨w.heap.size, 0, rfl, by omega, fun i p hp => ?_⟩⟩
 match i, hp with
 | 0, hp => simp at hp; subst hp; exact hb

/-- two worlds: blocks b and those of 'row' aside, what was there is as it was -/
structure Near (w w' : World) (b : Nat) (row : Option Nat) : Prop where
 os : w'.os = w.os
 tape : w'.tape = w.tape
 output : w'.output = w.output
 size : w.heap.size ≤ w'.heap.size
 block : ∀ g, g < w.heap.size → g ≠ b → some g ≠ row → w'.heap[g]? = w.heap[g]?
theorem Near.of_below {w w' : World} {b : Nat} {row : Option Nat} (h : Below w.heap.size w w') : Near w w' b row := ⟨h.os, h.tape, h.output, h.size, fun g hg _ _ => h.block g hg⟩
theorem Near.trans {a c d : World} {b : Nat} {row : Option Nat} (h : Near a c b row) (k : Near c d b row) : Near a d b row :=
 ⟨k.os.trans h.os, k.tape.trans h.tape, k.output.trans h.output, Nat.le_trans h.size k.size, fun g hg hb hr => (k.block g (Nat.lt_of_lt_of_le hg h.size) hb hr).trans (h.block g hg hb hr)⟩
theorem Near.grown {w w' : World} {b : Nat} {row : Option Nat} (h : w.grownBy w' row) : Near w w' b row := ⟨h.os, h.tape, h.output, h.size, fun g hg _ hr => h.block g hg hr⟩
theorem Near.set_ (w : World) (b i : Nat) (row : Option Nat) (u : Value) : Near w (w.setCell ⟨b, i, none⟩ u) b row := ⟨rfl, rfl, rfl, by simp [World.setCell], fun g _ hb _ => Below.heap_setCell w _ u g hb⟩
theorem Near.drew (w : World) (b : Nat) (row : Option Nat) : Near w w.drew b row := ⟨rfl, rfl, rfl, Nat.le_refl _, fun _ _ _ _ => rfl⟩
theorem Near.alloc (w : World) (o : Obj) (b : Nat) (row : Option Nat) : Near w (w.alloc o) b row := Near.of_below (bel_alloc (Below.refl _ w) o)
theorem Near.below {w w' : World} {b B : Nat} {row : Option Nat} (h : Near w w' b row) (hb : B ≤ b) (hr : ∀ g, row = some g → B ≤ g) (hB : B ≤ w.heap.size) : Below B w w' :=
 ⟨h.os, h.tape, h.output, h.size, fun g hg => h.block g (by omega) (by omega) (fun e => by have := hr g e.symm; omega)⟩
end

section
open Go.ChangeShapes Go.WideShapes Go.ChangeAt Go.RowKit Go.Joins
set_option linter.unusedVariables false

theorem c_follow_clear (b B : Nat) (t : TypeId) (cs : Array Value) (k : Kn) (A : Option Addr) (cap : Nat) (w : World) (h : k.Ok) (hB : Blk w b t cs) (hk : KAt w b k (.slice A k.ps.length cap)) (hps : PsAt w w.heap.size A cap k.ps) (hown : w.ownsRow B 175 2 (.slice A k.ps.length cap) k.ps.length (prs k.ps)) (hne : ∀ g, A = some ⟨g, 0, none⟩ → g ≠ b) :
  Calls Tryz.prog 133 #[.pointer (some ⟨b, 0, none⟩), .int .i64 (pow2 k.l)] w fun e w' => e = .returned (.tuple #[]) ∧ ∃ A' cap', Blk w' b t ((cs.setIfInBounds 3 (.slice A' k.cleared.ps.length cap')).setIfInBounds 5 (.int .i64 k.cleared.last)) ∧ w'.ownsRow B 175 2 (.slice A' k.cleared.ps.length cap') k.cleared.ps.length (prs k.cleared.ps) ∧ Near w w' b (Value.slice A k.ps.length cap).ownBlock := by
 have hb0 := h.base0
 have hb1 := h.base1
 have hlen := h.len
 obtain ⟨n, hn⟩ : ∃ n : Nat, k.base = n := ⟨k.base.toNat, by omega⟩
 have hpl : k.cleared.ps.length = n := by simp only [Kn.cleared, List.length_take]; omega
 have hnl : n ≤ k.ps.length := by omega
 have hcap := hps.1
 have HCl := hid (fun (v : World) => c_ClearCode_yes k.o k.l k.m v h.set)
 have hk2 := hk
 obtain ⟨hb, q0, q1, q2, q3, q4, q5⟩ := hk
 rw [hn] at q4
 have HK := hid hB
 have HT := hid hk2
 have HO := hid hown
 have hnc : n ≤ cap := by omega
 have hnc2 : (n : Int) ≤ (cap : Int) := by omega
 clear hB hk2 hown hps
 go_enter Tryz.func133, Tryz.ntmps133
 go_wp2_with fail
 refine (HCl.out _).mono ?_
 rintro e w1 ⟨rfl, hb1⟩
 have hc1 := bcell hb1
 have hz1_0 : b < w1.heap.size := (by have := hb1.size; first | omega | (simp at this; omega))
 have hB1 := HK.out.on hb1
 have hT1 := HT.out.on hb1 hb
 obtain ⟨_, r0, r1, r2, r3, r4, r5⟩ := hT1
 rw [hn] at r4
 clear q0 q1 q2 q3 q4 q5 hc1
 have g3 := hB1.frozen 3
 have g5 := hB1.frozen 5
 go_wp2_with fail
 go_region
 all_goals
  go_wp2
  rw [hpl]
  have hA : A = none ∨ ∃ g, A = some ⟨g, 0, none⟩ ∧ B ≤ g ∧ g < w.heap.size := by
   obtain ⟨A2, c2, e1, _, _, e2⟩ := own_ps HO.out
   simp at e1
   rw [e1.1]; exact e2
  have hps2 : k.cleared.ps = k.ps.take n := by simp only [Kn.cleared]; rw [hn]; rfl
  have ho1 : w1.ownsRow B 175 2 (.slice A n cap) n (prs k.cleared.ps) := by rw [hps2]; exact own_ps_cut (own_on HO.out hb1) n hnl
  have hrow : (Value.slice A n cap).ownBlock = none ∨ (Value.slice A n cap).ownBlock ≠ some b := by
   rcases hA with rfl | ⟨g, rfl, _, _⟩
   ·exact Or.inl rfl
   ·exact Or.inr (fun e => hne g rfl (by simpa [Value.ownBlock] using e))
  have ho2 := (ho1.kept (grown_set (grown_refl w1 (some b)) 3 (.slice A n cap)) hrow).drew
  have ho3 := ho2.kept (grown_set (grown_refl _ (some b)) 5 (.int .i64 (-1))) hrow
  exact bodyPost_ret (v := .tuple #[]) (by simp [results, Tryz.results133, go_sem]) rfl ⟨rfl, A, cap, ((hB1.set_ 3 _).drew).set_ 5 _, ho3, ((Near.of_below hb1).trans ((Near.set_ _ _ _ _ _).trans (Near.drew _ _ _))).trans (Near.set_ _ _ _ _ _)⟩
end

section
open Go.ChangeShapes Go.WideShapes Go.ChangeAt Go.RowKit Go.Joins
set_option linter.unusedVariables false

theorem KAt.blk {w w' : World} {b : Nat} {t : TypeId} {cs : Array Value} {k : Kn} {sl : Value} (hk : Blk w b t cs) (h : KAt w b k sl) (hk' : Blk w' b t cs) : KAt w' b k sl := by
 obtain ⟨_, q0, q1, q2, q3, q4, q5⟩ := h
 rw [hk.cell] at q0 q1 q2 q3 q4 q5
 exact ⟨hk'.lt, (hk'.cell 0).trans q0, (hk'.cell 1).trans q1, (hk'.cell 2).trans q2, (hk'.cell 3).trans q3, (hk'.cell 4).trans q4, (hk'.cell 5).trans q5⟩
theorem set_same {α : Type} {cs : Array α} {i : Nat} {v : α} (h : cs[i]? = some v) : cs.setIfInBounds i v = cs := by
 apply Array.ext_getElem?
 intro j
 rw [Array.getElem?_setIfInBounds]
 split
 ·rename_i e; subst e; rw [h]; simp [(Array.getElem?_eq_some_iff.1 h).1]
 ·rfl

theorem own_not_blk {w : World} {B : Nat} {e t : TypeId} {size m n cap b : Nat} {A : Option Addr} {xs : List Value} {cs : Array Value} (h : w.ownsRow B e size (.slice A m cap) n xs) (hk : Blk w b t cs) (ht : t ≠ e) : (Value.slice A m cap).ownBlock = none ∨ (Value.slice A m cap).ownBlock ≠ some b := by
 rcases h.2 with ⟨e1, _⟩ | ⟨g, cap', cur, e1, _, hh, _⟩
 ·simp at e1
  rw [e1.1]
  exact Or.inl rfl
 ·simp at e1
  rw [e1.1]
  refine Or.inr (fun e2 => ht ?_)
  have e3 : g = b := by simpa [Value.ownBlock] using e2
  subst e3
  have e4 := hk.symm.trans hh
  simp at e4
  exact e4.2

set_option maxHeartbeats 4000000 in
set_option maxRecDepth 100000 in
theorem c_follow_code (b B : Nat) (t : TypeId) (cs : Array Value) (k : Kn) (A : Option Addr) (cap : Nat) (w : World) (h : k.Ok) (hB : Blk w b t cs) (hk : KAt w b k (.slice A k.ps.length cap)) (hps : PsAt w w.heap.size A cap k.ps) (hown : w.ownsRow B 175 2 (.slice A k.ps.length cap) k.ps.length (prs k.ps)) (hBw : B ≤ w.heap.size) (hne : ∀ g, A = some ⟨g, 0, none⟩ → g ≠ b) (ht : t ≠ 175) (code : Int) (hc : k.Fol code) :
  Calls Tryz.prog 133 #[.pointer (some ⟨b, 0, none⟩), .int .i64 code] w fun e w' => e = .returned (.tuple #[]) ∧ ∃ A' cap', Blk w' b t ((cs.setIfInBounds 3 (.slice A' (k.after code).ps.length cap')).setIfInBounds 5 (.int .i64 (k.after code).last)) ∧ w'.ownsRow B 175 2 (.slice A' (k.after code).ps.length cap') (k.after code).ps.length (prs (k.after code).ps) ∧ Near w w' b (Value.slice A k.ps.length cap).ownBlock := by
 have hlen := h.len
 have hcb := h.cbd
 have hfi := (h.fol_iff code).1 hc
 have HCl := hid (fun (v : World) => c_ClearCode_yes k.o k.l k.m v h.set)
 have HG := hid (fun (v : World) (hv : KAt v b k (.slice A k.ps.length cap)) => c_grows b k A cap v h hv)
 have HF := hid (fun (v : World) (hv : KAt v b k (.slice A k.ps.length cap)) (hb : Below w.heap.size w v) => c_firstByte b k A cap w.heap.size v h hv (hps.below hb (Nat.le_refl _)) hb.size code hc)
 have hne2 : (code == pow2 k.l) = false := by rw [beq_eq_false_iff_ne]; exact hfi.2.2.1
 have hA : A = none ∨ ∃ g, A = some ⟨g, 0, none⟩ ∧ B ≤ g ∧ g < w.heap.size := by
  obtain ⟨A2, c2, e1, _, _, e2⟩ := own_ps hown
  simp at e1
  rw [e1.1]; exact e2
 have HK := hid hB
 have HT := hid hk
 have HO := hid hown
 have hb := hk.1
 have hrow : (Value.slice A k.ps.length cap).ownBlock = none ∨ (Value.slice A k.ps.length cap).ownBlock ≠ some b := by
  rcases hA with rfl | ⟨g, rfl, _, _⟩
  ·exact Or.inl rfl
  ·exact Or.inr (fun e => hne g rfl (by simpa [Value.ownBlock] using e))
 have HR := hid hrow
 have HR3 : Hid (some b ≠ (Value.slice A k.ps.length cap).ownBlock) := hid (by rcases hrow with e | e <;> intro e2 <;> simp_all)
 clear hB hk hown hps hA hrow hfi hcb
 cases hg : k.grows with
 | false =>
  simp only [hg] at HG
  have hps2 : (k.after code).ps = k.ps := by simp [Kn.after, hg]
  have HP2 := hid hps2
  clear hg hps2
  obtain ⟨_, q0, q1, q2, q3, q4, q5⟩ := HT.out
  go_enter Tryz.func133, Tryz.ntmps133
  go_wp2_with fail
  refine (HCl.out _).mono ?_
  rintro e w1 ⟨rfl, hb1⟩
  go_wp2_with fail
  refine (HG.out _ (HT.out.on hb1 hb)).mono ?_
  rintro e w2 ⟨rfl, hb2⟩
  have hB2 := (HK.out.on hb1).on hb2
  obtain ⟨_, r0, r1, r2, r3, r4, r5⟩ := (HT.out.on hb1 hb).on hb2 (Nat.lt_of_lt_of_le hb hb1.size)
  have g5 := hB2.frozen 5
  clear q0 q1 q2 q3 q4 q5
  go_wp2
  have ho := (own_on (own_on HO.out hb1) hb2).kept (grown_set (grown_refl w2 (some b)) 5 (.int .i64 code)) HR.out
  have e3 := set_same ((hB2.cell 3).symm.trans r3)
  exact bodyPost_end (v := .tuple #[]) (by simp [results, Tryz.results133, go_sem]) rfl ⟨rfl, A, cap, by rw [HP2.out, e3]; exact hB2.set_ 5 _, by rw [HP2.out]; exact ho, ((Near.of_below hb1).trans (Near.of_below hb2)).trans (Near.set_ _ _ _ _ _)⟩
 | true =>
  simp only [hg] at HG
  have hps2 : (k.after code).ps = k.ps ++ [(k.last, k.fst code)] := by simp [Kn.after, hg]
  have HP2 := hid hps2
  clear hg hps2
  obtain ⟨F, hF⟩ : ∃ F, F = k.fst code := ⟨_, rfl⟩
  rw [← hF] at HF HP2
  clear hF
  obtain ⟨_, q0, q1, q2, q3, q4, q5⟩ := HT.out
  go_enter Tryz.func133, Tryz.ntmps133
  go_wp2_with fail
  refine (HCl.out _).mono ?_
  rintro e w1 ⟨rfl, hb1⟩
  go_wp2_with fail
  refine (HG.out _ (HT.out.on hb1 hb)).mono ?_
  rintro e w2 ⟨rfl, hb2⟩
  have hB2 := (HK.out.on hb1).on hb2
  have hT2 := (HT.out.on hb1 hb).on hb2 (Nat.lt_of_lt_of_le hb hb1.size)
  obtain ⟨_, r0, r1, r2, r3, r4, r5⟩ := hT2
  clear q0 q1 q2 q3 q4 q5
  go_wp2_with fail
  go_region_law (first | (refine step_pairs (by rfl) (.tmp 32) (.tmp 41) 86 (by rfl) B 175 Tryz.underlying86 Tryz.info_pair _ k.ps.length k.ps (by rfl) (own_on HO.out (by exact obB)) (some ⟨w3.heap.size, 0, none⟩) 1 (w3.heap.size + 1) 1 [(k.last, F)] (ps_new w3 k.last F 175) (by rfl) (by rfl) (by simp; omega) (by have := hb1.size; have := hb2.size; have := hb3.size; simp at *; omega) ?_; intro v9 w9 hown9 hb9 hg9; obtain ⟨A9, c9, rfl, _, hl9, hA9⟩ := own_ps hown9; have kb3 : Blk w3 b t cs := HK.out.on (by exact obB); have kb9 := (kb3.alloc _).grown hg9 HR3.out; have r93 := (kb9.cell 3).trans ((hB2.cell 3).symm.trans r3); have f93 := kb9.frozen 3) | (go_simp; go_at_call 161; refine (HF.out _ (HT.out.on (B := w.heap.size) (by exact obB) hb) (by exact obB)).mono ?_; rintro e w3 ⟨rfl, hb3⟩; obtain ⟨hl3, s0, s1, s2, s3, s4, s5⟩ := HT.out.on (w' := w3) (B := w.heap.size) (by exact obB) hb))
  all_goals
   have hnot := own_not_blk hown9 kb9 ht
   have hps9 : (k.ps ++ [(k.last, F)]).length = k.ps.length + 1 := by simp
   have kc := kb9.set_ 3 (.slice A9 (k.ps.length + 1) c9)
   have f5 := kc.frozen 5
   have c5 := (kc.cell 5).trans ((show _ = cs[5]? by simp).trans ((hB2.cell 5).symm.trans r5))
   clear r93 f93 s0 s1 s2 s3 s4 s5 r0 r1 r2 r3 r4 r5
   go_wp2
   rw [hps9] at hown9 hnot
   have ho := (hown9.kept (grown_set (grown_refl w9 (some b)) 3 (.slice A9 (k.ps.length + 1) c9)) hnot).kept (grown_set (grown_refl _ (some b)) 5 (.int .i64 code)) hnot
   have hl2 : (k.after code).ps.length = k.ps.length + 1 := by rw [HP2.out]; exact hps9
   refine bodyPost_end (v := .tuple #[]) (by simp [results, Tryz.results133, go_sem]) rfl ⟨rfl, A9, c9, by rw [hl2]; exact kc.set_ 5 _, by rw [hl2, HP2.out]; exact ho, ?_⟩
   exact (((((Near.of_below hb1).trans (Near.of_below hb2)).trans (Near.drew _ _ _)).trans (Near.of_below hb3)).trans ((Near.alloc _ _ _ _).trans (Near.grown hg9))).trans ((Near.set_ _ _ _ _ _).trans (Near.set_ _ _ _ _ _))
end
end Go.Proofs.YtmlaaammfnboiaaGreatDoor
