/- Contracts of the words of codes in the model. No condition but that what is known is valid. -/
import Derived.Test.YtoiifopjipfjhaaWe
namespace Go.Proofs.Ytoiifopjipfjhaa
open Go.ChangeShapes Go.WideShapes Go.ChangeAt Go.RowKit Go.Joins
set_option linter.unusedVariables false

set_option maxHeartbeats 1000000 in
set_option maxRecDepth 100000 in
theorem c_l2Word (k : Kn) (A : Option Addr) (cap L : Nat) (w : World) (h : k.Ok) (hps : PsAt w L A cap k.ps) (hL : L ≤ w.heap.size) (code : Int) (hc : HasW (pow2 k.l) code k.ps.length) :
    Calls Try.prog 184 #[.agg #[.int .i64 k.o, .int .i64 k.l, .int .i64 k.m, .slice A k.ps.length cap, .int .i64 k.base, .int .i64 k.last], .int .i64 code] w fun e w' => e = .returned (.string (str (k.word code))) ∧ Below w.heap.size w w' := by
  have hp := set_bd h.set
  obtain ⟨_, ⟨hl1, hl2⟩, hm1, hm2⟩ := setOk_iff.1 h.set
  have hlen := h.len
  have HP := hid hps
  have HOk := hid h
  have HE := hid (fun (v : World) => c_l1End k.o k.l k.m v (by omega) (by omega))
  have HWL := hid (word_len _ _ h.pairs _ hc)
  have HC := hid hc
  have kN0 := (Blk.new w 28 #[.int .i64 k.o, .int .i64 k.l, .int .i64 k.m, .slice A k.ps.length cap, .int .i64 k.base, .int .i64 k.last])
  have HK := hid ((kN0.alloc (.cells #[] 5)).kat)
  have hown0 : ((w.alloc (.cells #[.int .i64 k.o, .int .i64 k.l, .int .i64 k.m, .slice A k.ps.length cap, .int .i64 k.base, .int .i64 k.last] 28)).alloc (.cells #[] 5)).ownsRow (w.heap.size + 1) 5 1 (.slice (some ⟨w.heap.size + 1, 0, none⟩) 0 0) 0 (([] : List UInt8).map vb) := by
    have h1 := World.ownsRow_made (e := 5) (size := 1) (base := w.heap.size + 1) (w.alloc (.cells #[.int .i64 k.o, .int .i64 k.l, .int .i64 k.m, .slice A k.ps.length cap, .int .i64 k.base, .int .i64 k.last] 28)) #[] 0 (by simp) (by simp [maxLen]) rfl
    rw [World.size_alloc] at h1; exact h1
  clear hps h hc kN0
  go_enter Try.func184, Try.ntmps184
  go_wp2_with fail
  go_loopw [1, 5] (fun i v wr => ∃ (cd : Int) (rl : List UInt8), i = .int .i64 cd ∧ Hid (HasW (pow2 k.l) cd k.ps.length) ∧ wr.ownsRow (w.heap.size + 1) 5 1 v rl.length (rl.map vb) ∧ Hid (k.word code = wd k.c k.ps cd ++ rl.reverse) ∧ Hid (KAt wr w.heap.size k (.slice A k.ps.length cap)) ∧ Below w.heap.size w wr) (fun i _ _ => (intOf i).toNat)
  case atStart => exact ⟨code, [], rfl, HC, hown0, hid (by simp [Kn.word]), HK, by (repeat (first | with_reducible assumption | with_reducible exact Below.refl _ _ | with_reducible refine bel_alloc ?_ _ | with_reducible refine bel_drew ?_ | with_reducible refine bel_drewN ?_ _ | with_reducible refine bel_set ?_ (by first | omega | (simp; done) | (simp; omega)) _ | with_reducible refine bel_trans ?_ (by with_reducible assumption) | exact Below.refl _ _ | assumption | refine bel_alloc ?_ _ | refine bel_drew ?_ | refine bel_drewN ?_ _ | refine bel_set ?_ (by first | omega | (simp; done) | (simp; omega)) _ | refine bel_trans ?_ (by assumption)))⟩
  case round =>
    obtain ⟨cd, rl, rfl, HH, hown, HW, HKr, hbl⟩ := hrel
    have hk2 := HKr.out
    have hz0 := hk2.1
    have hz1 := hbl.size
    have hrl : rl.length ≤ 1021 := by
      have h1 := HWL.out
      have h2 := congrArg List.length HW.out
      simp only [List.length_append, List.length_reverse] at h2
      unfold Kn.word at h2; omega
    by_cases hlt : pow2 k.l + 1 < cd
    · obtain ⟨i, hi⟩ : ∃ i : Nat, cd = pow2 k.l + 2 + i := ⟨(cd - pow2 k.l - 2).toNat, by omega⟩
      subst hi
      have hil : i < k.ps.length := by have := HH.out; unfold HasW at this; omega
      obtain ⟨d, off, rfl, hd, hd0, hd1⟩ := pair_at (HP.out.below hbl hL) i hil
      have HG := hid (List.getElem?_eq_getElem hil)
      obtain ⟨p, hp2⟩ : ∃ p, p = k.ps[i] := ⟨_, rfl⟩
      rw [← hp2] at hd0 hd1 HG
      clear hp2
      have hpk := HOk.out.pairs i p HG.out
      have HS2 := hid (word_step k HOk.out i p HG.out rl code HW.out)
      obtain ⟨x, y⟩ := p
      simp only at hd0 hd1 hpk HS2
      obtain ⟨hx, hy0, hy1⟩ := hpk
      have hy2 : y < pow2 k.l := hy1
      have HX := hid (show HasW (pow2 k.l) x k.ps.length from hx.mono (by omega))
      have hxlt : x < pow2 k.l + 2 + i ∧ 0 ≤ x := by unfold HasW at hx; unfold Kn.c at hx; omega
      have ey := IntWalk.u8_in y (by omega)
      have HY := hid (byt_nat hy0 (by omega))
      have ew1 : IntKind.i64.wrap (pow2 k.l + 2 + (i : Int) - (pow2 k.l + 1)) = (i : Int) + 1 := (IntWalk.i64_in _ (by omega)).trans (by omega)
      have ew2 : IntKind.i64.wrap ((i : Int) + 1 - 1) = (i : Int) := (IntWalk.i64_in _ (by omega)).trans (by omega)
      have ew3 : IntKind.i64.wrap (i : Int) = (i : Int) := IntWalk.i64_in _ (by omega)
      clear hx hy1
      obtain ⟨q0, q1, q2, q3, q4, q5, q6⟩ := hk2
      have HS := hid (And.intro q1 (And.intro q2 (And.intro q3 (And.intro q4 (And.intro q5 (And.intro q6 (And.intro hd0 (And.intro hd1 (Below.refl wr.heap.size wr)))))))))
      go_wp2_with fail
      clear q1 q2 q3 q4 q5 q6 hd0 hd1
      refine (HE.out _).mono ?_
      rintro e w2 ⟨rfl, hb2⟩
      go_wp2_with fail
      have hS := s8_bel hb2 HS.out
      have hz2 := hb2.size
      have HS2q := hid HS2
      clear HS2
      refine wp_region_noPanic ?_
      refine wp_region_held_drew (S := (fun v => v.cell? ⟨w.heap.size, 0, none⟩ = some (.int .i64 k.o) ∧ v.cell? ⟨w.heap.size, 1, none⟩ = some (.int .i64 k.l) ∧ v.cell? ⟨w.heap.size, 2, none⟩ = some (.int .i64 k.m) ∧ v.cell? ⟨w.heap.size, 3, none⟩ = some (.slice (some ⟨d, off, none⟩) k.ps.length cap) ∧ v.cell? ⟨w.heap.size, 4, none⟩ = some (.int .i64 k.base) ∧ v.cell? ⟨w.heap.size, 5, none⟩ = some (.int .i64 k.last) ∧ v.cell? ⟨d, off + i * 2, none⟩ = some (.int .i64 x) ∧ v.cell? ⟨d, off + i * 2 + 1, none⟩ = some (.int .i64 y) ∧ Below wr.heap.size wr v)) (by kernel_rfl) (s8_drew hS) (fun hHeld => ?_)
      refine wpAnyH_take (i := 0) (oi := ?or27_0) (v := ?vr27_0) ?ir27_0 (by kernel_rfl) (by kernel_rfl) (by kernel_rfl) (fun _ _ _ h => h) ?yr27_0 (by assumption) ?wr27_0
      case ir27_0 => (simp only [List.getElem?_toArray, List.getElem?_cons_zero]; rfl)
      case yr27_0 => exact Or.inl ⟨by rfl, by intro v hSw; (try dsimp only at hSw); go_simp; try with_reducible rfl⟩
      try simp only [Act.put, List.setIfInBounds_toArray, List.set_cons_zero, List.set_cons_succ]
      refine wpAnyH_take (i := 1) (oi := ?or27_1) (v := ?vr27_1) ?ir27_1 (by kernel_rfl) (by kernel_rfl) (by kernel_rfl) (fun _ _ _ h => h) ?yr27_1 (by assumption) ?wr27_1
      case ir27_1 => (simp only [List.getElem?_toArray, List.getElem?_cons_succ, List.getElem?_cons_zero]; rfl)
      case yr27_1 => exact Or.inl ⟨by rfl, by intro v hSw; (try dsimp only at hSw); go_simp; try with_reducible rfl⟩
      try simp only [Act.put, List.setIfInBounds_toArray, List.set_cons_zero, List.set_cons_succ]
      refine wpAnyH_take (i := 2) (oi := ?or27_2) (v := ?vr27_2) ?ir27_2 (by kernel_rfl) (by kernel_rfl) (by kernel_rfl) (fun _ _ _ h => h) ?yr27_2 (by assumption) ?wr27_2
      case ir27_2 => (simp only [List.getElem?_toArray, List.getElem?_cons_succ, List.getElem?_cons_zero]; rfl)
      case yr27_2 => exact Or.inl ⟨by rfl, by intro v hSw; (try dsimp only at hSw); go_simp; try with_reducible rfl⟩
      try simp only [Act.put, List.setIfInBounds_toArray, List.set_cons_zero, List.set_cons_succ]
      refine wpAnyH_take (i := 3) (oi := ?or27_3) (v := ?vr27_3) ?ir27_3 (by kernel_rfl) (by kernel_rfl) (by kernel_rfl) (fun _ _ _ h => h) ?yr27_3 (by assumption) ?wr27_3
      case ir27_3 => (simp only [List.getElem?_toArray, List.getElem?_cons_succ, List.getElem?_cons_zero]; rfl)
      case yr27_3 => exact Or.inl ⟨by rfl, by intro v hSw; (try dsimp only at hSw); go_simp; try with_reducible rfl⟩
      try simp only [Act.put, List.setIfInBounds_toArray, List.set_cons_zero, List.set_cons_succ]
      refine wpAnyH_take (i := 4) (oi := ?or27_4) (v := ?vr27_4) ?ir27_4 (by kernel_rfl) (by kernel_rfl) (by kernel_rfl) (fun _ _ _ h => h) ?yr27_4 (by assumption) ?wr27_4
      case ir27_4 => (simp only [List.getElem?_toArray, List.getElem?_cons_succ, List.getElem?_cons_zero]; rfl)
      case yr27_4 => exact Or.inl ⟨by rfl, by intro v hSw; (try dsimp only at hSw); go_simp; try with_reducible rfl⟩
      try simp only [Act.put, List.setIfInBounds_toArray, List.set_cons_zero, List.set_cons_succ]
      refine wpAnyH_ready (rs := [5, 10]) (by kernel_rfl) (by simp) ?_
      refine AllReadyH.cons (o := ?or27_5) ?ir27_5 (fun K hK => ?sr27_5) (AllReadyH.cons (o := ?or27_10) ?ir27_10 (fun K hK => ?sr27_10) AllReadyH.nil)
      case ir27_5 => (simp only [List.getElem?_toArray, List.getElem?_cons_succ, List.getElem?_cons_zero]; rfl)
      case ir27_10 => (simp only [List.getElem?_toArray, List.getElem?_cons_succ, List.getElem?_cons_zero]; rfl)
      case' sr27_5 =>
        (first | (go_simp; (first | (go_at_call 126; refine (HE.out _).mono ?_; rintro e w3 ⟨rfl, hb3⟩; have kk : Blk w3 w2.heap.size 41 #[.int .i64 0, .int .i64 0] := (Blk.new w2.drew 41 #[.int .i64 0, .int .i64 0]).on hb3; obtain ⟨z0, z1⟩ := kk.cells2; have z2 := kk.frozen 0; have z3 := kk.frozen 1; have kW : Blk ((w3.setCell ⟨w2.heap.size, 0, none⟩ (.int .i64 x)).setCell ⟨w2.heap.size, 1, none⟩ (.int .i64 y)) w2.heap.size 41 #[.int .i64 x, .int .i64 y] := (kk.set_ 0 (.int .i64 x)).set_ 1 (.int .i64 y)) | (go_at_call 126; refine (HE.out _).mono ?_; rintro e w3 ⟨rfl, hb3⟩; have kW := Blk.new w3 41 #[.int .i64 x, .int .i64 y]) | skip)))
        refine hK.out _ _ ?kr27_5 (fun hHeld => ?_)
        case kr27_5 => (try dsimp only); (first | with_reducible assumption | with_reducible exact s8_bel (by (repeat (first | with_reducible assumption | with_reducible exact Below.refl _ _ | with_reducible refine bel_alloc ?_ _ | with_reducible refine bel_drew ?_ | with_reducible refine bel_drewN ?_ _ | with_reducible refine bel_set ?_ (by first | omega | (simp; done) | (simp; omega)) _ | with_reducible refine bel_trans ?_ (by with_reducible assumption) | with_reducible exact Below.refl _ _ | assumption | refine bel_alloc ?_ _ | refine bel_drew ?_ | refine bel_drewN ?_ _ | refine bel_set ?_ (by first | omega | (simp; done) | (simp; omega)) _ | refine bel_trans ?_ (by assumption)))) HS.out | exact s8_bel (by assumption) (by assumption) | assumption | exact s8_alloc (by assumption) _ | exact s8_bel (by (repeat (first | assumption | exact Below.refl _ _ | refine bel_alloc ?_ _ | refine bel_drew ?_ | refine bel_drewN ?_ _ | refine bel_set ?_ (by first | omega | (simp; done) | (simp; omega)) _ | refine bel_trans ?_ (by assumption) | exact Below.refl _ _ | assumption | refine bel_alloc ?_ _ | refine bel_drew ?_ | refine bel_drewN ?_ _ | refine bel_set ?_ (by first | omega | (simp; done) | (simp; omega)) _ | refine bel_trans ?_ (by assumption)))) HS.out)
        clear hK K
        try simp only [Act.put, List.setIfInBounds_toArray, List.set_cons_zero, List.set_cons_succ]
        refine wpAnyH_take (i := 6) (oi := ?or27b1_6) (v := ?vr27b1_6) ?ir27b1_6 (by kernel_rfl) (by kernel_rfl) (by kernel_rfl) (fun _ _ _ h => h) ?yr27b1_6 (by assumption) ?wr27b1_6
        case ir27b1_6 => (simp only [List.getElem?_toArray, List.getElem?_cons_succ, List.getElem?_cons_zero]; rfl)
        case yr27b1_6 => exact Or.inl ⟨by rfl, by intro v hSw; (try dsimp only at hSw); go_simp; try with_reducible rfl⟩
        try simp only [Act.put, List.setIfInBounds_toArray, List.set_cons_zero, List.set_cons_succ]
        refine wpAnyH_take (i := 7) (oi := ?or27b1_7) (v := ?vr27b1_7) ?ir27b1_7 (by kernel_rfl) (by kernel_rfl) (by kernel_rfl) (fun _ _ _ h => h) ?yr27b1_7 (by assumption) ?wr27b1_7
        case ir27b1_7 => (simp only [List.getElem?_toArray, List.getElem?_cons_succ, List.getElem?_cons_zero]; rfl)
        case yr27b1_7 => exact Or.inl ⟨by rfl, by intro v hSw; (try dsimp only at hSw); go_simp; try with_reducible rfl⟩
        try simp only [Act.put, List.setIfInBounds_toArray, List.set_cons_zero, List.set_cons_succ]
        refine wpAnyH_take (i := 8) (oi := ?or27b1_8) (v := ?vr27b1_8) ?ir27b1_8 (by kernel_rfl) (by kernel_rfl) (by kernel_rfl) (fun _ _ _ h => h) ?yr27b1_8 (by assumption) ?wr27b1_8
        case ir27b1_8 => (simp only [List.getElem?_toArray, List.getElem?_cons_succ, List.getElem?_cons_zero]; rfl)
        case yr27b1_8 => exact Or.inl ⟨by rfl, by intro v hSw; (try dsimp only at hSw); go_simp; try with_reducible rfl⟩
        try simp only [Act.put, List.setIfInBounds_toArray, List.set_cons_zero, List.set_cons_succ]
        refine wpAnyH_take (i := 9) (oi := ?or27b1_9) (v := ?vr27b1_9) ?ir27b1_9 (by kernel_rfl) (by kernel_rfl) (by kernel_rfl) (fun _ _ _ h => h) ?yr27b1_9 (by assumption) ?wr27b1_9
        case ir27b1_9 => (simp only [List.getElem?_toArray, List.getElem?_cons_succ, List.getElem?_cons_zero]; rfl)
        case yr27b1_9 => exact Or.inl ⟨by rfl, by intro v hSw; (try dsimp only at hSw); go_simp; try with_reducible rfl⟩
        try simp only [Act.put, List.setIfInBounds_toArray, List.set_cons_zero, List.set_cons_succ]
        refine wpAnyH_ready (rs := [10]) (by kernel_rfl) (by simp) ?_
        refine AllReadyH.cons (o := ?or27b1_10) ?ir27b1_10 (fun K hK => ?sr27b1_10) AllReadyH.nil
        case ir27b1_10 => (simp only [List.getElem?_toArray, List.getElem?_cons_succ, List.getElem?_cons_zero]; rfl)
        (first | (go_simp; (first | (go_at_call 126; refine (HE.out _).mono ?_; rintro e w3 ⟨rfl, hb3⟩; have kk : Blk w3 w2.heap.size 41 #[.int .i64 0, .int .i64 0] := (Blk.new w2.drew 41 #[.int .i64 0, .int .i64 0]).on hb3; obtain ⟨z0, z1⟩ := kk.cells2; have z2 := kk.frozen 0; have z3 := kk.frozen 1; have kW : Blk ((w3.setCell ⟨w2.heap.size, 0, none⟩ (.int .i64 x)).setCell ⟨w2.heap.size, 1, none⟩ (.int .i64 y)) w2.heap.size 41 #[.int .i64 x, .int .i64 y] := (kk.set_ 0 (.int .i64 x)).set_ 1 (.int .i64 y)) | (go_at_call 126; refine (HE.out _).mono ?_; rintro e w3 ⟨rfl, hb3⟩; have kW := Blk.new w3 41 #[.int .i64 x, .int .i64 y]) | skip)))
        refine hK.out _ _ ?kr27b1_10 (fun hHeld => ?_)
        case kr27b1_10 => (try dsimp only); (first | with_reducible assumption | with_reducible exact s8_bel (by (repeat (first | with_reducible assumption | with_reducible exact Below.refl _ _ | with_reducible refine bel_alloc ?_ _ | with_reducible refine bel_drew ?_ | with_reducible refine bel_drewN ?_ _ | with_reducible refine bel_set ?_ (by first | omega | (simp; done) | (simp; omega)) _ | with_reducible refine bel_trans ?_ (by with_reducible assumption) | with_reducible exact Below.refl _ _ | assumption | refine bel_alloc ?_ _ | refine bel_drew ?_ | refine bel_drewN ?_ _ | refine bel_set ?_ (by first | omega | (simp; done) | (simp; omega)) _ | refine bel_trans ?_ (by assumption)))) HS.out | exact s8_bel (by assumption) (by assumption) | assumption | exact s8_alloc (by assumption) _ | exact s8_bel (by (repeat (first | assumption | exact Below.refl _ _ | refine bel_alloc ?_ _ | refine bel_drew ?_ | refine bel_drewN ?_ _ | refine bel_set ?_ (by first | omega | (simp; done) | (simp; omega)) _ | refine bel_trans ?_ (by assumption) | exact Below.refl _ _ | assumption | refine bel_alloc ?_ _ | refine bel_drew ?_ | refine bel_drewN ?_ _ | refine bel_set ?_ (by first | omega | (simp; done) | (simp; omega)) _ | refine bel_trans ?_ (by assumption)))) HS.out)
        clear hK K
        try simp only [Act.put, List.setIfInBounds_toArray, List.set_cons_zero, List.set_cons_succ]
        refine wpAnyH_ready (rs := [11]) (by kernel_rfl) (by simp) ?_
        refine AllReadyH.cons (o := ?or27b1_11) ?ir27b1_11 (fun K hK => ?sr27b1_11) AllReadyH.nil
        case ir27b1_11 => (simp only [List.getElem?_toArray, List.getElem?_cons_succ, List.getElem?_cons_zero]; rfl)
        (first | (go_simp; (first | (go_at_call 126; refine (HE.out _).mono ?_; rintro e w3 ⟨rfl, hb3⟩; have kk : Blk w3 w2.heap.size 41 #[.int .i64 0, .int .i64 0] := (Blk.new w2.drew 41 #[.int .i64 0, .int .i64 0]).on hb3; obtain ⟨z0, z1⟩ := kk.cells2; have z2 := kk.frozen 0; have z3 := kk.frozen 1; have kW : Blk ((w3.setCell ⟨w2.heap.size, 0, none⟩ (.int .i64 x)).setCell ⟨w2.heap.size, 1, none⟩ (.int .i64 y)) w2.heap.size 41 #[.int .i64 x, .int .i64 y] := (kk.set_ 0 (.int .i64 x)).set_ 1 (.int .i64 y)) | (go_at_call 126; refine (HE.out _).mono ?_; rintro e w3 ⟨rfl, hb3⟩; have kW := Blk.new w3 41 #[.int .i64 x, .int .i64 y]) | skip)))
        refine hK.out _ _ ?kr27b1_11 (fun hHeld => ?_)
        case kr27b1_11 => (try dsimp only); (first | with_reducible assumption | with_reducible exact s8_bel (by (repeat (first | with_reducible assumption | with_reducible exact Below.refl _ _ | with_reducible refine bel_alloc ?_ _ | with_reducible refine bel_drew ?_ | with_reducible refine bel_drewN ?_ _ | with_reducible refine bel_set ?_ (by first | omega | (simp; done) | (simp; omega)) _ | with_reducible refine bel_trans ?_ (by with_reducible assumption) | with_reducible exact Below.refl _ _ | assumption | refine bel_alloc ?_ _ | refine bel_drew ?_ | refine bel_drewN ?_ _ | refine bel_set ?_ (by first | omega | (simp; done) | (simp; omega)) _ | refine bel_trans ?_ (by assumption)))) HS.out | exact s8_bel (by assumption) (by assumption) | assumption | exact s8_alloc (by assumption) _ | exact s8_bel (by (repeat (first | assumption | exact Below.refl _ _ | refine bel_alloc ?_ _ | refine bel_drew ?_ | refine bel_drewN ?_ _ | refine bel_set ?_ (by first | omega | (simp; done) | (simp; omega)) _ | refine bel_trans ?_ (by assumption) | exact Below.refl _ _ | assumption | refine bel_alloc ?_ _ | refine bel_drew ?_ | refine bel_drewN ?_ _ | refine bel_set ?_ (by first | omega | (simp; done) | (simp; omega)) _ | refine bel_trans ?_ (by assumption)))) HS.out)
        clear hK K
        try simp only [Act.put, List.setIfInBounds_toArray, List.set_cons_zero, List.set_cons_succ]
        refine wpAnyH_done (by kernel_rfl) ?_ _
        refine NoPanic.normal ?_
      case' sr27_10 =>
        (first | (go_simp; (first | (go_at_call 126; refine (HE.out _).mono ?_; rintro e w3 ⟨rfl, hb3⟩; have kk : Blk w3 w2.heap.size 41 #[.int .i64 0, .int .i64 0] := (Blk.new w2.drew 41 #[.int .i64 0, .int .i64 0]).on hb3; obtain ⟨z0, z1⟩ := kk.cells2; have z2 := kk.frozen 0; have z3 := kk.frozen 1; have kW : Blk ((w3.setCell ⟨w2.heap.size, 0, none⟩ (.int .i64 x)).setCell ⟨w2.heap.size, 1, none⟩ (.int .i64 y)) w2.heap.size 41 #[.int .i64 x, .int .i64 y] := (kk.set_ 0 (.int .i64 x)).set_ 1 (.int .i64 y)) | (go_at_call 126; refine (HE.out _).mono ?_; rintro e w3 ⟨rfl, hb3⟩; have kW := Blk.new w3 41 #[.int .i64 x, .int .i64 y]) | skip)))
        refine hK.out _ _ ?kr27_10 (fun hHeld => ?_)
        case kr27_10 => (try dsimp only); (first | with_reducible assumption | with_reducible exact s8_bel (by (repeat (first | with_reducible assumption | with_reducible exact Below.refl _ _ | with_reducible refine bel_alloc ?_ _ | with_reducible refine bel_drew ?_ | with_reducible refine bel_drewN ?_ _ | with_reducible refine bel_set ?_ (by first | omega | (simp; done) | (simp; omega)) _ | with_reducible refine bel_trans ?_ (by with_reducible assumption) | with_reducible exact Below.refl _ _ | assumption | refine bel_alloc ?_ _ | refine bel_drew ?_ | refine bel_drewN ?_ _ | refine bel_set ?_ (by first | omega | (simp; done) | (simp; omega)) _ | refine bel_trans ?_ (by assumption)))) HS.out | exact s8_bel (by assumption) (by assumption) | assumption | exact s8_alloc (by assumption) _ | exact s8_bel (by (repeat (first | assumption | exact Below.refl _ _ | refine bel_alloc ?_ _ | refine bel_drew ?_ | refine bel_drewN ?_ _ | refine bel_set ?_ (by first | omega | (simp; done) | (simp; omega)) _ | refine bel_trans ?_ (by assumption) | exact Below.refl _ _ | assumption | refine bel_alloc ?_ _ | refine bel_drew ?_ | refine bel_drewN ?_ _ | refine bel_set ?_ (by first | omega | (simp; done) | (simp; omega)) _ | refine bel_trans ?_ (by assumption)))) HS.out)
        clear hK K
        try simp only [Act.put, List.setIfInBounds_toArray, List.set_cons_zero, List.set_cons_succ]
        refine wpAnyH_ready (rs := [5]) (by kernel_rfl) (by simp) ?_
        refine AllReadyH.cons (o := ?or27b2_5) ?ir27b2_5 (fun K hK => ?sr27b2_5) AllReadyH.nil
        case ir27b2_5 => (simp only [List.getElem?_toArray, List.getElem?_cons_succ, List.getElem?_cons_zero]; rfl)
        (first | (go_simp; (first | (go_at_call 126; refine (HE.out _).mono ?_; rintro e w3 ⟨rfl, hb3⟩; have kk : Blk w3 w2.heap.size 41 #[.int .i64 0, .int .i64 0] := (Blk.new w2.drew 41 #[.int .i64 0, .int .i64 0]).on hb3; obtain ⟨z0, z1⟩ := kk.cells2; have z2 := kk.frozen 0; have z3 := kk.frozen 1; have kW : Blk ((w3.setCell ⟨w2.heap.size, 0, none⟩ (.int .i64 x)).setCell ⟨w2.heap.size, 1, none⟩ (.int .i64 y)) w2.heap.size 41 #[.int .i64 x, .int .i64 y] := (kk.set_ 0 (.int .i64 x)).set_ 1 (.int .i64 y)) | (go_at_call 126; refine (HE.out _).mono ?_; rintro e w3 ⟨rfl, hb3⟩; have kW := Blk.new w3 41 #[.int .i64 x, .int .i64 y]) | skip)))
        refine hK.out _ _ ?kr27b2_5 (fun hHeld => ?_)
        case kr27b2_5 => (try dsimp only); (first | with_reducible assumption | with_reducible exact s8_bel (by (repeat (first | with_reducible assumption | with_reducible exact Below.refl _ _ | with_reducible refine bel_alloc ?_ _ | with_reducible refine bel_drew ?_ | with_reducible refine bel_drewN ?_ _ | with_reducible refine bel_set ?_ (by first | omega | (simp; done) | (simp; omega)) _ | with_reducible refine bel_trans ?_ (by with_reducible assumption) | with_reducible exact Below.refl _ _ | assumption | refine bel_alloc ?_ _ | refine bel_drew ?_ | refine bel_drewN ?_ _ | refine bel_set ?_ (by first | omega | (simp; done) | (simp; omega)) _ | refine bel_trans ?_ (by assumption)))) HS.out | exact s8_bel (by assumption) (by assumption) | assumption | exact s8_alloc (by assumption) _ | exact s8_bel (by (repeat (first | assumption | exact Below.refl _ _ | refine bel_alloc ?_ _ | refine bel_drew ?_ | refine bel_drewN ?_ _ | refine bel_set ?_ (by first | omega | (simp; done) | (simp; omega)) _ | refine bel_trans ?_ (by assumption) | exact Below.refl _ _ | assumption | refine bel_alloc ?_ _ | refine bel_drew ?_ | refine bel_drewN ?_ _ | refine bel_set ?_ (by first | omega | (simp; done) | (simp; omega)) _ | refine bel_trans ?_ (by assumption)))) HS.out)
        clear hK K
        try simp only [Act.put, List.setIfInBounds_toArray, List.set_cons_zero, List.set_cons_succ]
        refine wpAnyH_take (i := 6) (oi := ?or27b2_6) (v := ?vr27b2_6) ?ir27b2_6 (by kernel_rfl) (by kernel_rfl) (by kernel_rfl) (fun _ _ _ h => h) ?yr27b2_6 (by assumption) ?wr27b2_6
        case ir27b2_6 => (simp only [List.getElem?_toArray, List.getElem?_cons_succ, List.getElem?_cons_zero]; rfl)
        case yr27b2_6 => exact Or.inl ⟨by rfl, by intro v hSw; (try dsimp only at hSw); go_simp; try with_reducible rfl⟩
        try simp only [Act.put, List.setIfInBounds_toArray, List.set_cons_zero, List.set_cons_succ]
        refine wpAnyH_take (i := 7) (oi := ?or27b2_7) (v := ?vr27b2_7) ?ir27b2_7 (by kernel_rfl) (by kernel_rfl) (by kernel_rfl) (fun _ _ _ h => h) ?yr27b2_7 (by assumption) ?wr27b2_7
        case ir27b2_7 => (simp only [List.getElem?_toArray, List.getElem?_cons_succ, List.getElem?_cons_zero]; rfl)
        case yr27b2_7 => exact Or.inl ⟨by rfl, by intro v hSw; (try dsimp only at hSw); go_simp; try with_reducible rfl⟩
        try simp only [Act.put, List.setIfInBounds_toArray, List.set_cons_zero, List.set_cons_succ]
        refine wpAnyH_take (i := 8) (oi := ?or27b2_8) (v := ?vr27b2_8) ?ir27b2_8 (by kernel_rfl) (by kernel_rfl) (by kernel_rfl) (fun _ _ _ h => h) ?yr27b2_8 (by assumption) ?wr27b2_8
        case ir27b2_8 => (simp only [List.getElem?_toArray, List.getElem?_cons_succ, List.getElem?_cons_zero]; rfl)
        case yr27b2_8 => exact Or.inl ⟨by rfl, by intro v hSw; (try dsimp only at hSw); go_simp; try with_reducible rfl⟩
        try simp only [Act.put, List.setIfInBounds_toArray, List.set_cons_zero, List.set_cons_succ]
        refine wpAnyH_take (i := 9) (oi := ?or27b2_9) (v := ?vr27b2_9) ?ir27b2_9 (by kernel_rfl) (by kernel_rfl) (by kernel_rfl) (fun _ _ _ h => h) ?yr27b2_9 (by assumption) ?wr27b2_9
        case ir27b2_9 => (simp only [List.getElem?_toArray, List.getElem?_cons_succ, List.getElem?_cons_zero]; rfl)
        case yr27b2_9 => exact Or.inl ⟨by rfl, by intro v hSw; (try dsimp only at hSw); go_simp; try with_reducible rfl⟩
        try simp only [Act.put, List.setIfInBounds_toArray, List.set_cons_zero, List.set_cons_succ]
        refine wpAnyH_ready (rs := [11]) (by kernel_rfl) (by simp) ?_
        refine AllReadyH.cons (o := ?or27b2_11) ?ir27b2_11 (fun K hK => ?sr27b2_11) AllReadyH.nil
        case ir27b2_11 => (simp only [List.getElem?_toArray, List.getElem?_cons_succ, List.getElem?_cons_zero]; rfl)
        (first | (go_simp; (first | (go_at_call 126; refine (HE.out _).mono ?_; rintro e w3 ⟨rfl, hb3⟩; have kk : Blk w3 w2.heap.size 41 #[.int .i64 0, .int .i64 0] := (Blk.new w2.drew 41 #[.int .i64 0, .int .i64 0]).on hb3; obtain ⟨z0, z1⟩ := kk.cells2; have z2 := kk.frozen 0; have z3 := kk.frozen 1; have kW : Blk ((w3.setCell ⟨w2.heap.size, 0, none⟩ (.int .i64 x)).setCell ⟨w2.heap.size, 1, none⟩ (.int .i64 y)) w2.heap.size 41 #[.int .i64 x, .int .i64 y] := (kk.set_ 0 (.int .i64 x)).set_ 1 (.int .i64 y)) | (go_at_call 126; refine (HE.out _).mono ?_; rintro e w3 ⟨rfl, hb3⟩; have kW := Blk.new w3 41 #[.int .i64 x, .int .i64 y]) | skip)))
        refine hK.out _ _ ?kr27b2_11 (fun hHeld => ?_)
        case kr27b2_11 => (try dsimp only); (first | with_reducible assumption | with_reducible exact s8_bel (by (repeat (first | with_reducible assumption | with_reducible exact Below.refl _ _ | with_reducible refine bel_alloc ?_ _ | with_reducible refine bel_drew ?_ | with_reducible refine bel_drewN ?_ _ | with_reducible refine bel_set ?_ (by first | omega | (simp; done) | (simp; omega)) _ | with_reducible refine bel_trans ?_ (by with_reducible assumption) | with_reducible exact Below.refl _ _ | assumption | refine bel_alloc ?_ _ | refine bel_drew ?_ | refine bel_drewN ?_ _ | refine bel_set ?_ (by first | omega | (simp; done) | (simp; omega)) _ | refine bel_trans ?_ (by assumption)))) HS.out | exact s8_bel (by assumption) (by assumption) | assumption | exact s8_alloc (by assumption) _ | exact s8_bel (by (repeat (first | assumption | exact Below.refl _ _ | refine bel_alloc ?_ _ | refine bel_drew ?_ | refine bel_drewN ?_ _ | refine bel_set ?_ (by first | omega | (simp; done) | (simp; omega)) _ | refine bel_trans ?_ (by assumption) | exact Below.refl _ _ | assumption | refine bel_alloc ?_ _ | refine bel_drew ?_ | refine bel_drewN ?_ _ | refine bel_set ?_ (by first | omega | (simp; done) | (simp; omega)) _ | refine bel_trans ?_ (by assumption)))) HS.out)
        clear hK K
        try simp only [Act.put, List.setIfInBounds_toArray, List.set_cons_zero, List.set_cons_succ]
        refine wpAnyH_done (by kernel_rfl) ?_ _
        refine NoPanic.normal ?_
      all_goals
        have hz3 := hb3.size
        have hz4 : w2.heap.size ≤ w3.heap.size := by first | exact hz3 | (simp at hz3; omega)
        clear hz3 hS hHeld
        go_wp2_with (at_builtin; refine app_byte rfl _ _ 22 rfl (w.heap.size + 1) 5 Try.underlying22 Try.info_u8w _ _ _ rfl (own_on hown (by (repeat (first | with_reducible assumption | with_reducible exact Below.refl _ _ | with_reducible refine bel_alloc ?_ _ | with_reducible refine bel_drew ?_ | with_reducible refine bel_drewN ?_ _ | with_reducible refine bel_set ?_ (by first | omega | (simp; done) | (simp; omega)) _ | with_reducible refine bel_trans ?_ (by with_reducible assumption) | exact Below.refl _ _ | assumption | refine bel_alloc ?_ _ | refine bel_drew ?_ | refine bel_drewN ?_ _ | refine bel_set ?_ (by first | omega | (simp; done) | (simp; omega)) _ | refine bel_trans ?_ (by assumption))))) (byt y) _ HY.out.symm 1 (by first | with_reducible rfl | simp [Act.eval]) (by omega) (by simp; omega) ?_; intro v9 w9 hown9 hb9 hg9; have kP := kW.grown hg9 (fun e => by have := (hown.lt _ e.symm).2; omega); obtain ⟨z4, z5⟩ := kP.cells2)
        go_roundw
        case rel => exact ⟨x, rl ++ [byt y], rfl, HX, by simpa using hown9, HS2q, hid ((HKr.out.on (B := wr.heap.size) (by (repeat (first | with_reducible assumption | with_reducible exact Below.refl _ _ | with_reducible refine bel_alloc ?_ _ | with_reducible refine bel_drew ?_ | with_reducible refine bel_drewN ?_ _ | with_reducible refine bel_set ?_ (by first | omega | (simp; done) | (simp; omega)) _ | with_reducible refine bel_trans ?_ (by with_reducible assumption) | exact Below.refl _ _ | assumption | refine bel_alloc ?_ _ | refine bel_drew ?_ | refine bel_drewN ?_ _ | refine bel_set ?_ (by first | omega | (simp; done) | (simp; omega)) _ | refine bel_trans ?_ (by assumption)))) hz0).on hb9 (by omega)), Below.trans (by (repeat (first | with_reducible assumption | with_reducible exact Below.refl _ _ | with_reducible refine bel_alloc ?_ _ | with_reducible refine bel_drew ?_ | with_reducible refine bel_drewN ?_ _ | with_reducible refine bel_set ?_ (by first | omega | (simp; done) | (simp; omega)) _ | with_reducible refine bel_trans ?_ (by with_reducible assumption) | exact Below.refl _ _ | assumption | refine bel_alloc ?_ _ | refine bel_drew ?_ | refine bel_drewN ?_ _ | refine bel_set ?_ (by first | omega | (simp; done) | (simp; omega)) _ | refine bel_trans ?_ (by assumption)))) (hb9.mono (by omega))⟩
        case measure => simp [intOf]; omega
    · have hcd : 0 ≤ cd ∧ cd < pow2 k.l := by have := HH.out; unfold HasW at this; omega
      have ey := IntWalk.u8_in cd (by omega)
      have HY := hid (byt_nat hcd.1 (by omega))
      have HR := hid (word_bottom k cd (by unfold Kn.c; omega) rl code HW.out)
      obtain ⟨q0, q1, q2, q3, q4, q5, q6⟩ := hk2
      go_wp2_with fail
      clear q1 q2 q3 q4 q5 q6
      refine (HE.out _).mono ?_
      rintro e w2 ⟨rfl, hb2⟩
      have hz2 := hb2.size
      go_wp2_with (at_builtin; refine app_byte rfl _ _ 22 rfl (w.heap.size + 1) 5 Try.underlying22 Try.info_u8w _ _ _ rfl (own_on hown (by (repeat (first | with_reducible assumption | with_reducible exact Below.refl _ _ | with_reducible refine bel_alloc ?_ _ | with_reducible refine bel_drew ?_ | with_reducible refine bel_drewN ?_ _ | with_reducible refine bel_set ?_ (by first | omega | (simp; done) | (simp; omega)) _ | with_reducible refine bel_trans ?_ (by with_reducible assumption) | exact Below.refl _ _ | assumption | refine bel_alloc ?_ _ | refine bel_drew ?_ | refine bel_drewN ?_ _ | refine bel_set ?_ (by first | omega | (simp; done) | (simp; omega)) _ | refine bel_trans ?_ (by assumption))))) (byt cd) _ HY.out.symm 1 rfl (by omega) (by omega) ?_; intro v9 w9 hown9 hb9 hg9)
      obtain ⟨g9, c9, hv9, hg1, hg2⟩ := own_form hown9 (by omega)
      subst hv9
      have hB9 : Below w.heap.size w w9 := Below.trans (by (repeat (first | with_reducible assumption | with_reducible exact Below.refl _ _ | with_reducible refine bel_alloc ?_ _ | with_reducible refine bel_drew ?_ | with_reducible refine bel_drewN ?_ _ | with_reducible refine bel_set ?_ (by first | omega | (simp; done) | (simp; omega)) _ | with_reducible refine bel_trans ?_ (by with_reducible assumption) | exact Below.refl _ _ | assumption | refine bel_alloc ?_ _ | refine bel_drew ?_ | refine bel_drewN ?_ _ | refine bel_set ?_ (by first | omega | (simp; done) | (simp; omega)) _ | refine bel_trans ?_ (by assumption)))) (hb9.mono (by omega))
      clear hb9 hg9 hown hb2 hbl
      have hlen9 : (rl ++ [byt cd]).length = rl.length + 1 := by simp
      have HR2 := hid (show (rl ++ [byt cd]).reverse = k.word code from HR.out.symm)
      obtain ⟨l9, hl9⟩ : ∃ l9, l9 = rl ++ [byt cd] := ⟨_, rfl⟩
      rw [← hl9] at hown9 hlen9 HR2
      clear hl9 HR
      obtain ⟨n, hn⟩ : ∃ n, n = rl.length + 1 := ⟨_, rfl⟩
      rw [← hn] at hown9 hlen9 ⊢
      have HL := hid hlen9
      have hn2 : n ≤ 1022 := by omega
      have hn1 : 1 ≤ n := by omega
      clear hlen9 hn
      go_loopw [7] (fun i wq => ∃ j : Nat, 2 * j ≤ n + 1 ∧ i = .int .i64 j ∧ wq.ownsRow (w.heap.size + 1) 5 1 (.slice (some ⟨g9, 0, none⟩) n c9) n ((rv l9 j).map vb) ∧ Below w.heap.size w wq) (fun i _ => n - (intOf i).toNat)
      case atStart => exact ⟨0, by omega, rfl, by rw [rv_zero]; exact hown9, hB9⟩
      case round =>
        obtain ⟨j, hj, rfl, hownj, hbj⟩ := hrel
        by_cases hlt2 : 2 * j + 1 < n
        · have HM := hid (rv_mid l9 j (by have := HL.out; omega))
          have HS := hid (rv_step l9 j (by have := HL.out; omega))
          rw [HL.out] at HM HS
          obtain ⟨x, hx⟩ : ∃ x, x = (l9[j]?).getD 0 := ⟨_, rfl⟩
          obtain ⟨y, hy⟩ : ∃ y, y = (l9[n - 1 - j]?).getD 0 := ⟨_, rfl⟩
          rw [← hx, ← hy] at HM HS
          clear hx hy
          obtain ⟨m, hm⟩ : ∃ m : Nat, m = n - 1 - j := ⟨_, rfl⟩
          have hm2 : ((n : Int) - 1 - j) = (m : Int) := by omega
          rw [← hm] at HM HS
          have hmn : m < n := by omega
          have hjm : j < m := by omega
          clear hm
          have q0 := own_byte hownj j x HM.out.1
          have q1 := own_byte hownj m y HM.out.2
          have f0 := hownj.frozenAt j
          have f1 := hownj.frozenAt m
          have hst := own_bytes_set (own_bytes_set hownj j y) m x
          rw [← HS.out] at hst
          have HT := hid hst
          clear hst hownj
          go_wp2
          go_roundw
          case rel => exact ⟨j + 1, by omega, by go_num, HT.out, bel_set (bel_set hbj (by show w.heap.size ≤ g9; omega) _) (by show w.heap.size ≤ g9; omega) _⟩
          case measure => simp [intOf]; omega
        · have hlast : rv l9 j = l9.reverse := rv_all l9 j (by have := HL.out; omega)
          rw [hlast, HR2.out] at hownj
          have hcv := run_own_str (P := Try.prog) Try.underlying22 Try.underlying5 Try.underlying9 hownj
          clear hlast hownj
          go_wp2
          go_ret
          exact ⟨rfl, by (repeat (first | with_reducible assumption | with_reducible exact Below.refl _ _ | with_reducible refine bel_alloc ?_ _ | with_reducible refine bel_drew ?_ | with_reducible refine bel_drewN ?_ _ | with_reducible refine bel_set ?_ (by first | omega | (simp; done) | (simp; omega)) _ | with_reducible refine bel_trans ?_ (by with_reducible assumption) | exact Below.refl _ _ | assumption | refine bel_alloc ?_ _ | refine bel_drew ?_ | refine bel_drewN ?_ _ | refine bel_set ?_ (by first | omega | (simp; done) | (simp; omega)) _ | refine bel_trans ?_ (by assumption)))⟩
end Go.Proofs.Ytoiifopjipfjhaa
