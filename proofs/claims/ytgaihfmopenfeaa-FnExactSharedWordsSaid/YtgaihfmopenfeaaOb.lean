/- KnownWords in both programs. No condition. -/
import Derived.Test.YtgaihfmopenfeaaBe
import Derived.Test.YtgaihfmopenfeaaOm
namespace Go.Proofs.Ytgaihfmopenfeaa
open Go.ChangeShapes Go.WideShapes Go.ChangeAt Go.RowKit Go.Joins
set_option linter.unusedVariables false
set_option linter.unusedSimpArgs false

set_option maxHeartbeats 1000000 in
set_option maxRecDepth 100000 in
theorem c_l2Word (k : Kn) (A : Option Addr) (cap L : Nat) (w : World) (h : k.Ok) (hps : PsAt w L A cap k.ps) (hL : L ≤ w.heap.size) (code : Int) (hc : HasW (pow2 k.l) code k.ps.length) :
    Calls Try.prog 48 #[.agg #[.int .i64 k.o, .int .i64 k.l, .int .i64 k.m, .slice A k.ps.length cap, .int .i64 k.base, .int .i64 k.last], .int .i64 code] w fun e w' => e = .returned (.string (str (k.word code))) ∧ Below w.heap.size w w' := by
  have hp := set_bd h.set
  obtain ⟨_, ⟨hl1, hl2⟩, hm1, hm2⟩ := setOk_iff.1 h.set
  have hlen := h.len
  have HP := hid hps
  have HOk := hid h
  have HE := hid (fun (v : World) => c_l1End k.o k.l k.m v (by omega) (by omega))
  have HWL := hid (word_len _ _ h.pairs _ hc)
  have HC := hid hc
  have kN0 := (Blk.new w 33 #[.int .i64 k.o, .int .i64 k.l, .int .i64 k.m, .slice A k.ps.length cap, .int .i64 k.base, .int .i64 k.last])
  have HK := hid ((kN0.alloc (.cells #[] 5)).kat)
  have hown0 : ((w.alloc (.cells #[.int .i64 k.o, .int .i64 k.l, .int .i64 k.m, .slice A k.ps.length cap, .int .i64 k.base, .int .i64 k.last] 33)).alloc (.cells #[] 5)).ownsRow (w.heap.size + 1) 5 1 (.slice (some ⟨w.heap.size + 1, 0, none⟩) 0 0) 0 (([] : List UInt8).map vb) := by
    have h1 := World.ownsRow_made (e := 5) (size := 1) (base := w.heap.size + 1) (w.alloc (.cells #[.int .i64 k.o, .int .i64 k.l, .int .i64 k.m, .slice A k.ps.length cap, .int .i64 k.base, .int .i64 k.last] 33)) #[] 0 (by simp) (by simp [maxLen]) rfl
    rw [World.size_alloc] at h1; exact h1
  clear hps h hc kN0
  go_enter Try.func48, Try.ntmps48
  go_wp2_with fail
  go_loopw [1, 5] (fun i v wr => ∃ (cd : Int) (rl : List UInt8), i = .int .i64 cd ∧ Hid (HasW (pow2 k.l) cd k.ps.length) ∧ wr.ownsRow (w.heap.size + 1) 5 1 v rl.length (rl.map vb) ∧ Hid (k.word code = wd k.c k.ps cd ++ rl.reverse) ∧ Hid (KAt wr w.heap.size k (.slice A k.ps.length cap)) ∧ Below w.heap.size w wr) (fun i _ _ => (intOf i).toNat)
  case atStart => exact ⟨code, [], rfl, HC, hown0, hid (by simp [Kn.word]), HK, by (repeat (first | with_reducible (first | assumption | exact Below.refl _ _ | refine bel_alloc ?_ _ | refine bel_drew ?_ | refine bel_drewN ?_ _ | refine bel_set ?_ (by first | omega | (simp; done) | (simp; omega)) _ | refine bel_trans ?_ (by assumption)) | assumption | refine bel_trans ?_ (by assumption)))⟩
  case round =>
    obtain ⟨cd, rl, rfl, HH, hown, HW, HKr, hbl⟩ := hrel
    have hk2 := HKr.out
    have hz0 := hk2.1
    have hz1 := hbl.size
    have hrl : rl.length ≤ 1021 := by
      have h1 := HWL.out
      have h2 := congrArg List.length HW.out
      simp only [List.length_append, List.length_reverse] at h2
      unfold Kn.word at h2; omega
    by_cases hlt : pow2 k.l + 1 < cd
    · obtain ⟨i, hi⟩ : ∃ i : Nat, cd = pow2 k.l + 2 + i := ⟨(cd - pow2 k.l - 2).toNat, by omega⟩
      subst hi
      have hil : i < k.ps.length := by have := HH.out; unfold HasW at this; omega
      obtain ⟨d, off, rfl, hd, hd0, hd1⟩ := pair_at (HP.out.below hbl hL) i hil
      have HG := hid (List.getElem?_eq_getElem hil)
      obtain ⟨p, hp2⟩ : ∃ p, p = k.ps[i] := ⟨_, rfl⟩
      rw [← hp2] at hd0 hd1 HG
      clear hp2
      have hpk := HOk.out.pairs i p HG.out
      have HS2 := hid (word_step k HOk.out i p HG.out rl code HW.out)
      obtain ⟨x, y⟩ := p
      simp only at hd0 hd1 hpk HS2
      obtain ⟨hx, hy0, hy1⟩ := hpk
      have hy2 : y < pow2 k.l := hy1
      have HX := hid (show HasW (pow2 k.l) x k.ps.length from hx.mono (by omega))
      have hxlt : x < pow2 k.l + 2 + i ∧ 0 ≤ x := by unfold HasW at hx; unfold Kn.c at hx; omega
      have ey := IntWalk.u8_in y (by omega)
      have HY := hid (byt_nat hy0 (by omega))
      have ew1 : IntKind.i64.wrap (pow2 k.l + 2 + (i : Int) - (pow2 k.l + 1)) = (i : Int) + 1 := (IntWalk.i64_in _ (by omega)).trans (by omega)
      have ew2 : IntKind.i64.wrap ((i : Int) + 1 - 1) = (i : Int) := (IntWalk.i64_in _ (by omega)).trans (by omega)
      have ew3 : IntKind.i64.wrap (i : Int) = (i : Int) := IntWalk.i64_in _ (by omega)
      clear hx hy1
      obtain ⟨q0, q1, q2, q3, q4, q5, q6⟩ := hk2
      have HS := hid (And.intro q1 (And.intro q2 (And.intro q3 (And.intro q4 (And.intro q5 (And.intro q6 (And.intro hd0 (And.intro hd1 (Below.refl wr.heap.size wr)))))))))
      go_wp2_with fail
      clear q1 q2 q3 q4 q5 q6 hd0 hd1
      refine (HE.out _).mono ?_
      rintro e w2 ⟨rfl, hb2⟩
      go_wp2_with fail
      have hS := s8_bel hb2 HS.out
      have hz2 := hb2.size
      have HS2q := hid HS2
      clear HS2
      refine wp_region_noPanic ?_
      refine wp_region_held_drew (S := (fun v => v.cell? ⟨w.heap.size, 0, none⟩ = some (.int .i64 k.o) ∧ v.cell? ⟨w.heap.size, 1, none⟩ = some (.int .i64 k.l) ∧ v.cell? ⟨w.heap.size, 2, none⟩ = some (.int .i64 k.m) ∧ v.cell? ⟨w.heap.size, 3, none⟩ = some (.slice (some ⟨d, off, none⟩) k.ps.length cap) ∧ v.cell? ⟨w.heap.size, 4, none⟩ = some (.int .i64 k.base) ∧ v.cell? ⟨w.heap.size, 5, none⟩ = some (.int .i64 k.last) ∧ v.cell? ⟨d, off + i * 2, none⟩ = some (.int .i64 x) ∧ v.cell? ⟨d, off + i * 2 + 1, none⟩ = some (.int .i64 y) ∧ Below wr.heap.size wr v)) (by kernel_rfl) (s8_drew hS) (fun hHeld => ?_)
      refine tk 0 ?_
      refine tk 1 ?_
      refine tk 2 ?_
      refine tk 3 ?_
      refine tk 4 ?_
      refine wpAnyH_ready (rs := [5, 10]) (by kernel_rfl) (by simp) ?_
      refine AllReadyH.cons (o := ?or1_5) ?ir1_5 (fun K hK => ?sr1_5) (AllReadyH.cons (o := ?or1_10) ?ir1_10 (fun K hK => ?sr1_10) AllReadyH.nil)
      case ir1_5 => (simp only [List.getElem?_toArray, List.getElem?_cons_succ, List.getElem?_cons_zero]; rfl)
      case ir1_10 => (simp only [List.getElem?_toArray, List.getElem?_cons_succ, List.getElem?_cons_zero]; rfl)
      case' sr1_5 =>
        (first | (go_simp; (first | (go_at_call 44; refine (HE.out _).mono ?_; rintro e w3 ⟨rfl, hb3⟩; have kk : Blk w3 w2.heap.size 69 #[.int .i64 0, .int .i64 0] := (Blk.new w2.drew 69 #[.int .i64 0, .int .i64 0]).on hb3; obtain ⟨z0, z1⟩ := kk.cells2; have z2 := kk.frozen 0; have z3 := kk.frozen 1; have kW : Blk ((w3.setCell ⟨w2.heap.size, 0, none⟩ (.int .i64 x)).setCell ⟨w2.heap.size, 1, none⟩ (.int .i64 y)) w2.heap.size 69 #[.int .i64 x, .int .i64 y] := (kk.set_ 0 (.int .i64 x)).set_ 1 (.int .i64 y)) | (go_at_call 44; refine (HE.out _).mono ?_; rintro e w3 ⟨rfl, hb3⟩; have kW := Blk.new w3 69 #[.int .i64 x, .int .i64 y]) | skip)))
        refine hK.out _ _ ?kr1_5 (fun hHeld => ?_)
        case kr1_5 => (try dsimp only); (first | with_reducible assumption | with_reducible exact s8_bel (by (repeat (first | with_reducible (first | assumption | with_reducible exact Below.refl _ _ | refine bel_alloc ?_ _ | refine bel_drew ?_ | refine bel_drewN ?_ _ | refine bel_set ?_ (by first | omega | (simp; done) | (simp; omega)) _ | refine bel_trans ?_ (by assumption)) | assumption | refine bel_trans ?_ (by assumption)))) HS.out | exact s8_bel (by assumption) (by assumption) | assumption | exact s8_alloc (by assumption) _ | exact s8_bel (by (repeat (first | (first | assumption | exact Below.refl _ _ | refine bel_alloc ?_ _ | refine bel_drew ?_ | refine bel_drewN ?_ _ | refine bel_set ?_ (by first | omega | (simp; done) | (simp; omega)) _ | refine bel_trans ?_ (by assumption)) | assumption | refine bel_trans ?_ (by assumption)))) HS.out)
        clear hK K
        try simp only [Act.put, List.setIfInBounds_toArray, List.set_cons_zero, List.set_cons_succ]
        refine tk 6 ?_
        refine tk 7 ?_
        refine tk 8 ?_
        refine tk 9 ?_
        refine wpAnyH_ready (rs := [10]) (by kernel_rfl) (by simp) ?_
        refine AllReadyH.cons (o := ?or1b1_10) ?ir1b1_10 (fun K hK => ?sr1b1_10) AllReadyH.nil
        case ir1b1_10 => (simp only [List.getElem?_toArray, List.getElem?_cons_succ, List.getElem?_cons_zero]; rfl)
        (first | (go_simp; (first | (go_at_call 44; refine (HE.out _).mono ?_; rintro e w3 ⟨rfl, hb3⟩; have kk : Blk w3 w2.heap.size 69 #[.int .i64 0, .int .i64 0] := (Blk.new w2.drew 69 #[.int .i64 0, .int .i64 0]).on hb3; obtain ⟨z0, z1⟩ := kk.cells2; have z2 := kk.frozen 0; have z3 := kk.frozen 1; have kW : Blk ((w3.setCell ⟨w2.heap.size, 0, none⟩ (.int .i64 x)).setCell ⟨w2.heap.size, 1, none⟩ (.int .i64 y)) w2.heap.size 69 #[.int .i64 x, .int .i64 y] := (kk.set_ 0 (.int .i64 x)).set_ 1 (.int .i64 y)) | (go_at_call 44; refine (HE.out _).mono ?_; rintro e w3 ⟨rfl, hb3⟩; have kW := Blk.new w3 69 #[.int .i64 x, .int .i64 y]) | skip)))
        refine hK.out _ _ ?kr1b1_10 (fun hHeld => ?_)
        case kr1b1_10 => (try dsimp only); (first | with_reducible assumption | with_reducible exact s8_bel (by (repeat (first | with_reducible (first | assumption | with_reducible exact Below.refl _ _ | refine bel_alloc ?_ _ | refine bel_drew ?_ | refine bel_drewN ?_ _ | refine bel_set ?_ (by first | omega | (simp; done) | (simp; omega)) _ | refine bel_trans ?_ (by assumption)) | assumption | refine bel_trans ?_ (by assumption)))) HS.out | exact s8_bel (by assumption) (by assumption) | assumption | exact s8_alloc (by assumption) _ | exact s8_bel (by (repeat (first | (first | assumption | exact Below.refl _ _ | refine bel_alloc ?_ _ | refine bel_drew ?_ | refine bel_drewN ?_ _ | refine bel_set ?_ (by first | omega | (simp; done) | (simp; omega)) _ | refine bel_trans ?_ (by assumption)) | assumption | refine bel_trans ?_ (by assumption)))) HS.out)
        clear hK K
        try simp only [Act.put, List.setIfInBounds_toArray, List.set_cons_zero, List.set_cons_succ]
        refine wpAnyH_ready (rs := [11]) (by kernel_rfl) (by simp) ?_
        refine AllReadyH.cons (o := ?or1b1_11) ?ir1b1_11 (fun K hK => ?sr1b1_11) AllReadyH.nil
        case ir1b1_11 => (simp only [List.getElem?_toArray, List.getElem?_cons_succ, List.getElem?_cons_zero]; rfl)
        (first | (go_simp; (first | (go_at_call 44; refine (HE.out _).mono ?_; rintro e w3 ⟨rfl, hb3⟩; have kk : Blk w3 w2.heap.size 69 #[.int .i64 0, .int .i64 0] := (Blk.new w2.drew 69 #[.int .i64 0, .int .i64 0]).on hb3; obtain ⟨z0, z1⟩ := kk.cells2; have z2 := kk.frozen 0; have z3 := kk.frozen 1; have kW : Blk ((w3.setCell ⟨w2.heap.size, 0, none⟩ (.int .i64 x)).setCell ⟨w2.heap.size, 1, none⟩ (.int .i64 y)) w2.heap.size 69 #[.int .i64 x, .int .i64 y] := (kk.set_ 0 (.int .i64 x)).set_ 1 (.int .i64 y)) | (go_at_call 44; refine (HE.out _).mono ?_; rintro e w3 ⟨rfl, hb3⟩; have kW := Blk.new w3 69 #[.int .i64 x, .int .i64 y]) | skip)))
        refine hK.out _ _ ?kr1b1_11 (fun hHeld => ?_)
        case kr1b1_11 => (try dsimp only); (first | with_reducible assumption | with_reducible exact s8_bel (by (repeat (first | with_reducible (first | assumption | with_reducible exact Below.refl _ _ | refine bel_alloc ?_ _ | refine bel_drew ?_ | refine bel_drewN ?_ _ | refine bel_set ?_ (by first | omega | (simp; done) | (simp; omega)) _ | refine bel_trans ?_ (by assumption)) | assumption | refine bel_trans ?_ (by assumption)))) HS.out | exact s8_bel (by assumption) (by assumption) | assumption | exact s8_alloc (by assumption) _ | exact s8_bel (by (repeat (first | (first | assumption | exact Below.refl _ _ | refine bel_alloc ?_ _ | refine bel_drew ?_ | refine bel_drewN ?_ _ | refine bel_set ?_ (by first | omega | (simp; done) | (simp; omega)) _ | refine bel_trans ?_ (by assumption)) | assumption | refine bel_trans ?_ (by assumption)))) HS.out)
        clear hK K
        try simp only [Act.put, List.setIfInBounds_toArray, List.set_cons_zero, List.set_cons_succ]
        refine wpAnyH_done (by kernel_rfl) ?_ _
        refine NoPanic.normal ?_
      case' sr1_10 =>
        (first | (go_simp; (first | (go_at_call 44; refine (HE.out _).mono ?_; rintro e w3 ⟨rfl, hb3⟩; have kk : Blk w3 w2.heap.size 69 #[.int .i64 0, .int .i64 0] := (Blk.new w2.drew 69 #[.int .i64 0, .int .i64 0]).on hb3; obtain ⟨z0, z1⟩ := kk.cells2; have z2 := kk.frozen 0; have z3 := kk.frozen 1; have kW : Blk ((w3.setCell ⟨w2.heap.size, 0, none⟩ (.int .i64 x)).setCell ⟨w2.heap.size, 1, none⟩ (.int .i64 y)) w2.heap.size 69 #[.int .i64 x, .int .i64 y] := (kk.set_ 0 (.int .i64 x)).set_ 1 (.int .i64 y)) | (go_at_call 44; refine (HE.out _).mono ?_; rintro e w3 ⟨rfl, hb3⟩; have kW := Blk.new w3 69 #[.int .i64 x, .int .i64 y]) | skip)))
        refine hK.out _ _ ?kr1_10 (fun hHeld => ?_)
        case kr1_10 => (try dsimp only); (first | with_reducible assumption | with_reducible exact s8_bel (by (repeat (first | with_reducible (first | assumption | with_reducible exact Below.refl _ _ | refine bel_alloc ?_ _ | refine bel_drew ?_ | refine bel_drewN ?_ _ | refine bel_set ?_ (by first | omega | (simp; done) | (simp; omega)) _ | refine bel_trans ?_ (by assumption)) | assumption | refine bel_trans ?_ (by assumption)))) HS.out | exact s8_bel (by assumption) (by assumption) | assumption | exact s8_alloc (by assumption) _ | exact s8_bel (by (repeat (first | (first | assumption | exact Below.refl _ _ | refine bel_alloc ?_ _ | refine bel_drew ?_ | refine bel_drewN ?_ _ | refine bel_set ?_ (by first | omega | (simp; done) | (simp; omega)) _ | refine bel_trans ?_ (by assumption)) | assumption | refine bel_trans ?_ (by assumption)))) HS.out)
        clear hK K
        try simp only [Act.put, List.setIfInBounds_toArray, List.set_cons_zero, List.set_cons_succ]
        refine wpAnyH_ready (rs := [5]) (by kernel_rfl) (by simp) ?_
        refine AllReadyH.cons (o := ?or1b2_5) ?ir1b2_5 (fun K hK => ?sr1b2_5) AllReadyH.nil
        case ir1b2_5 => (simp only [List.getElem?_toArray, List.getElem?_cons_succ, List.getElem?_cons_zero]; rfl)
        (first | (go_simp; (first | (go_at_call 44; refine (HE.out _).mono ?_; rintro e w3 ⟨rfl, hb3⟩; have kk : Blk w3 w2.heap.size 69 #[.int .i64 0, .int .i64 0] := (Blk.new w2.drew 69 #[.int .i64 0, .int .i64 0]).on hb3; obtain ⟨z0, z1⟩ := kk.cells2; have z2 := kk.frozen 0; have z3 := kk.frozen 1; have kW : Blk ((w3.setCell ⟨w2.heap.size, 0, none⟩ (.int .i64 x)).setCell ⟨w2.heap.size, 1, none⟩ (.int .i64 y)) w2.heap.size 69 #[.int .i64 x, .int .i64 y] := (kk.set_ 0 (.int .i64 x)).set_ 1 (.int .i64 y)) | (go_at_call 44; refine (HE.out _).mono ?_; rintro e w3 ⟨rfl, hb3⟩; have kW := Blk.new w3 69 #[.int .i64 x, .int .i64 y]) | skip)))
        refine hK.out _ _ ?kr1b2_5 (fun hHeld => ?_)
        case kr1b2_5 => (try dsimp only); (first | with_reducible assumption | with_reducible exact s8_bel (by (repeat (first | with_reducible (first | assumption | with_reducible exact Below.refl _ _ | refine bel_alloc ?_ _ | refine bel_drew ?_ | refine bel_drewN ?_ _ | refine bel_set ?_ (by first | omega | (simp; done) | (simp; omega)) _ | refine bel_trans ?_ (by assumption)) | assumption | refine bel_trans ?_ (by assumption)))) HS.out | exact s8_bel (by assumption) (by assumption) | assumption | exact s8_alloc (by assumption) _ | exact s8_bel (by (repeat (first | (first | assumption | exact Below.refl _ _ | refine bel_alloc ?_ _ | refine bel_drew ?_ | refine bel_drewN ?_ _ | refine bel_set ?_ (by first | omega | (simp; done) | (simp; omega)) _ | refine bel_trans ?_ (by assumption)) | assumption | refine bel_trans ?_ (by assumption)))) HS.out)
        clear hK K
        try simp only [Act.put, List.setIfInBounds_toArray, List.set_cons_zero, List.set_cons_succ]
        refine tk 6 ?_
        refine tk 7 ?_
        refine tk 8 ?_
        refine tk 9 ?_
        refine wpAnyH_ready (rs := [11]) (by kernel_rfl) (by simp) ?_
        refine AllReadyH.cons (o := ?or1b2_11) ?ir1b2_11 (fun K hK => ?sr1b2_11) AllReadyH.nil
        case ir1b2_11 => (simp only [List.getElem?_toArray, List.getElem?_cons_succ, List.getElem?_cons_zero]; rfl)
        (first | (go_simp; (first | (go_at_call 44; refine (HE.out _).mono ?_; rintro e w3 ⟨rfl, hb3⟩; have kk : Blk w3 w2.heap.size 69 #[.int .i64 0, .int .i64 0] := (Blk.new w2.drew 69 #[.int .i64 0, .int .i64 0]).on hb3; obtain ⟨z0, z1⟩ := kk.cells2; have z2 := kk.frozen 0; have z3 := kk.frozen 1; have kW : Blk ((w3.setCell ⟨w2.heap.size, 0, none⟩ (.int .i64 x)).setCell ⟨w2.heap.size, 1, none⟩ (.int .i64 y)) w2.heap.size 69 #[.int .i64 x, .int .i64 y] := (kk.set_ 0 (.int .i64 x)).set_ 1 (.int .i64 y)) | (go_at_call 44; refine (HE.out _).mono ?_; rintro e w3 ⟨rfl, hb3⟩; have kW := Blk.new w3 69 #[.int .i64 x, .int .i64 y]) | skip)))
        refine hK.out _ _ ?kr1b2_11 (fun hHeld => ?_)
        case kr1b2_11 => (try dsimp only); (first | with_reducible assumption | with_reducible exact s8_bel (by (repeat (first | with_reducible (first | assumption | with_reducible exact Below.refl _ _ | refine bel_alloc ?_ _ | refine bel_drew ?_ | refine bel_drewN ?_ _ | refine bel_set ?_ (by first | omega | (simp; done) | (simp; omega)) _ | refine bel_trans ?_ (by assumption)) | assumption | refine bel_trans ?_ (by assumption)))) HS.out | exact s8_bel (by assumption) (by assumption) | assumption | exact s8_alloc (by assumption) _ | exact s8_bel (by (repeat (first | (first | assumption | exact Below.refl _ _ | refine bel_alloc ?_ _ | refine bel_drew ?_ | refine bel_drewN ?_ _ | refine bel_set ?_ (by first | omega | (simp; done) | (simp; omega)) _ | refine bel_trans ?_ (by assumption)) | assumption | refine bel_trans ?_ (by assumption)))) HS.out)
        clear hK K
        try simp only [Act.put, List.setIfInBounds_toArray, List.set_cons_zero, List.set_cons_succ]
        refine wpAnyH_done (by kernel_rfl) ?_ _
        refine NoPanic.normal ?_
      all_goals
        have hz3 := hb3.size
        have hz4 : w2.heap.size ≤ w3.heap.size := by first | exact hz3 | (simp at hz3; omega)
        clear hz3 hS hHeld
        go_wp2_with (at_builtin; refine app_byte rfl _ _ 40 rfl (w.heap.size + 1) 5 Try.underlying40 Try.info_u8w _ _ _ rfl (own_on hown (by (repeat (first | with_reducible (first | assumption | exact Below.refl _ _ | refine bel_alloc ?_ _ | refine bel_drew ?_ | refine bel_drewN ?_ _ | refine bel_set ?_ (by first | omega | (simp; done) | (simp; omega)) _ | refine bel_trans ?_ (by assumption)) | assumption | refine bel_trans ?_ (by assumption))))) (byt y) _ HY.out.symm 1 (by first | with_reducible rfl | simp [Act.eval]) (by omega) (by simp; omega) ?_; intro v9 w9 hown9 hb9 hg9; have kP := kW.grown hg9 (fun e => by have := (hown.lt _ e.symm).2; omega); obtain ⟨z4, z5⟩ := kP.cells2)
        go_roundw
        case rel => exact ⟨x, rl ++ [byt y], rfl, HX, by simpa using hown9, HS2q, hid ((HKr.out.on (B := wr.heap.size) (by (repeat (first | with_reducible (first | assumption | exact Below.refl _ _ | refine bel_alloc ?_ _ | refine bel_drew ?_ | refine bel_drewN ?_ _ | refine bel_set ?_ (by first | omega | (simp; done) | (simp; omega)) _ | refine bel_trans ?_ (by assumption)) | assumption | refine bel_trans ?_ (by assumption)))) hz0).on hb9 (by omega)), Below.trans (by (repeat (first | with_reducible (first | assumption | exact Below.refl _ _ | refine bel_alloc ?_ _ | refine bel_drew ?_ | refine bel_drewN ?_ _ | refine bel_set ?_ (by first | omega | (simp; done) | (simp; omega)) _ | refine bel_trans ?_ (by assumption)) | assumption | refine bel_trans ?_ (by assumption)))) (hb9.mono (by omega))⟩
        case measure => simp [intOf]; omega
    · have hcd : 0 ≤ cd ∧ cd < pow2 k.l := by have := HH.out; unfold HasW at this; omega
      have ey := IntWalk.u8_in cd (by omega)
      have HY := hid (byt_nat hcd.1 (by omega))
      have HR := hid (word_bottom k cd (by unfold Kn.c; omega) rl code HW.out)
      obtain ⟨q0, q1, q2, q3, q4, q5, q6⟩ := hk2
      go_wp2_with fail
      clear q1 q2 q3 q4 q5 q6
      refine (HE.out _).mono ?_
      rintro e w2 ⟨rfl, hb2⟩
      have hz2 := hb2.size
      go_wp2_with (at_builtin; refine app_byte rfl _ _ 40 rfl (w.heap.size + 1) 5 Try.underlying40 Try.info_u8w _ _ _ rfl (own_on hown (by (repeat (first | with_reducible (first | assumption | exact Below.refl _ _ | refine bel_alloc ?_ _ | refine bel_drew ?_ | refine bel_drewN ?_ _ | refine bel_set ?_ (by first | omega | (simp; done) | (simp; omega)) _ | refine bel_trans ?_ (by assumption)) | assumption | refine bel_trans ?_ (by assumption))))) (byt cd) _ HY.out.symm 1 rfl (by omega) (by omega) ?_; intro v9 w9 hown9 hb9 hg9)
      obtain ⟨g9, c9, hv9, hg1, hg2⟩ := own_form hown9 (by omega)
      subst hv9
      have hB9 : Below w.heap.size w w9 := Below.trans (by (repeat (first | with_reducible (first | assumption | exact Below.refl _ _ | refine bel_alloc ?_ _ | refine bel_drew ?_ | refine bel_drewN ?_ _ | refine bel_set ?_ (by first | omega | (simp; done) | (simp; omega)) _ | refine bel_trans ?_ (by assumption)) | assumption | refine bel_trans ?_ (by assumption)))) (hb9.mono (by omega))
      clear hb9 hg9 hown hb2 hbl
      have hlen9 : (rl ++ [byt cd]).length = rl.length + 1 := by simp
      have HR2 := hid (show (rl ++ [byt cd]).reverse = k.word code from HR.out.symm)
      obtain ⟨l9, hl9⟩ : ∃ l9, l9 = rl ++ [byt cd] := ⟨_, rfl⟩
      rw [← hl9] at hown9 hlen9 HR2
      clear hl9 HR
      obtain ⟨n, hn⟩ : ∃ n, n = rl.length + 1 := ⟨_, rfl⟩
      rw [← hn] at hown9 hlen9 ⊢
      have HL := hid hlen9
      have hn2 : n ≤ 1022 := by omega
      have hn1 : 1 ≤ n := by omega
      clear hlen9 hn
      go_loopw [7] (fun i wq => ∃ j : Nat, 2 * j ≤ n + 1 ∧ i = .int .i64 j ∧ wq.ownsRow (w.heap.size + 1) 5 1 (.slice (some ⟨g9, 0, none⟩) n c9) n ((rv l9 j).map vb) ∧ Below w.heap.size w wq) (fun i _ => n - (intOf i).toNat)
      case atStart => exact ⟨0, by omega, rfl, by rw [rv_zero]; exact hown9, hB9⟩
      case round =>
        obtain ⟨j, hj, rfl, hownj, hbj⟩ := hrel
        by_cases hlt2 : 2 * j + 1 < n
        · have HM := hid (rv_mid l9 j (by have := HL.out; omega))
          have HS := hid (rv_step l9 j (by have := HL.out; omega))
          rw [HL.out] at HM HS
          obtain ⟨x, hx⟩ : ∃ x, x = (l9[j]?).getD 0 := ⟨_, rfl⟩
          obtain ⟨y, hy⟩ : ∃ y, y = (l9[n - 1 - j]?).getD 0 := ⟨_, rfl⟩
          rw [← hx, ← hy] at HM HS
          clear hx hy
          obtain ⟨m, hm⟩ : ∃ m : Nat, m = n - 1 - j := ⟨_, rfl⟩
          have hm2 : ((n : Int) - 1 - j) = (m : Int) := by omega
          rw [← hm] at HM HS
          have hmn : m < n := by omega
          have hjm : j < m := by omega
          clear hm
          have q0 := own_byte hownj j x HM.out.1
          have q1 := own_byte hownj m y HM.out.2
          have f0 := hownj.frozenAt j
          have f1 := hownj.frozenAt m
          have hst := own_bytes_set (own_bytes_set hownj j y) m x
          rw [← HS.out] at hst
          have HT := hid hst
          clear hst hownj
          go_wp2
          go_roundw
          case rel => exact ⟨j + 1, by omega, by go_num, HT.out, bel_set (bel_set hbj (by show w.heap.size ≤ g9; omega) _) (by show w.heap.size ≤ g9; omega) _⟩
          case measure => simp [intOf]; omega
        · have hlast : rv l9 j = l9.reverse := rv_all l9 j (by have := HL.out; omega)
          rw [hlast, HR2.out] at hownj
          have hcv := run_own_str (P := Try.prog) Try.underlying40 Try.underlying5 Try.underlying9 hownj
          clear hlast hownj
          go_wp2
          go_ret
          exact ⟨rfl, by (repeat (first | with_reducible (first | assumption | exact Below.refl _ _ | refine bel_alloc ?_ _ | refine bel_drew ?_ | refine bel_drewN ?_ _ | refine bel_set ?_ (by first | omega | (simp; done) | (simp; omega)) _ | refine bel_trans ?_ (by assumption)) | assumption | refine bel_trans ?_ (by assumption)))⟩

/-- 'append(s, x)' of one text, as a step of a drawn region -/
theorem step_txt {P : Program} {w : World} {ops : Array Oper} {o : Oper} {a : Act} {K : Act → World → Prop} {Q : Exit → Act → World → Prop} {E : Prop} (hgd : o.guard = none) (s x : Operand) (t : TypeId)
    (ho : o.op = .call { callee := .builtin .append, args := #[s, x], argTypes := #[t, t] }) (B : Nat) (e : TypeId) (ht : P.underlying t = some (.slice e))
    (hinfo : (P.info? e).map (fun i => (i.zero, i.size, i.bytes)) = some (some (.string ByteArray.empty), 1, 16)) (v : Value) (n : Nat) (l : List ByteArray) (hs : a.eval s = v) (hown : w.ownsRow B e 1 v n (l.map sv)) (X : ByteArray) (cp : Nat)
    (hx : a.eval x = .slice (some ⟨w.heap.size, 0, none⟩) 1 cp) (hn : n ≤ 1000000000) (hB : B ≤ w.heap.size)
    (h : ∀ v' w', w'.ownsRow B e 1 v' (n + 1) ((l ++ [X]).map sv) → Below B w w' → w.grownBy w' v.ownBlock → K (a.put o.dst v') w') : if Region.wanted o (yielded ops a.tmps) = true then Oper.wp P o a (w.alloc (.cells #[.string X] e)) K Q else E := by
  have hw : Region.wanted o (yielded ops a.tmps) = true := by simp [Region.wanted, hgd]
  rw [if_pos hw]
  obtain ⟨i0, hi, hz0, hz1, hz2⟩ := info_parts hinfo
  refine wp_append_own (w.alloc (.cells #[.string X] e)) s x t ho B e i0 (.string ByteArray.empty) 1 16 ht hi hz0 hz1 hz2 rfl (by decide) v n (l.map sv) hs (hown.alloc _) ⟨w.heap.size, 0, none⟩ 1 cp [.string X] hx rfl (one_new w _ e) (by intro u hu; simp at hu; subst hu; rfl) (by unfold maxLen; omega) (by omega) (by have := World.size_alloc w (.cells #[.string X] e); omega) ?_
  intro v' w' hown' hg _
  have hg2 : w.grownBy w' v.ownBlock := grown_trans (World.grownBy_alloc w _ _) hg
  exact h v' w' (by simpa [sv] using hown') (below_of_grown hg2 hB (fun g hg => (hown.lt g hg).1)) hg2

/-- 6 cells, read together -/
theorem s6_mk {v v0 : World} {a0 a1 a2 a3 a4 a5 : Addr} {x0 x1 x2 x3 x4 x5 : Value} (h0 : v.cell? a0 = some x0) (h1 : v.cell? a1 = some x1) (h2 : v.cell? a2 = some x2) (h3 : v.cell? a3 = some x3) (h4 : v.cell? a4 = some x4) (h5 : v.cell? a5 = some x5) (hb : Below v0.heap.size v0 v) : v.cell? a0 = some x0 ∧ v.cell? a1 = some x1 ∧ v.cell? a2 = some x2 ∧ v.cell? a3 = some x3 ∧ v.cell? a4 = some x4 ∧ v.cell? a5 = some x5 ∧ Below v0.heap.size v0 v := ⟨h0, h1, h2, h3, h4, h5, hb⟩
/-- the words of the pairs -/
def kwS (k : Kn) : List ByteArray := (List.range k.ps.length).map fun (i : Nat) => str (k.word (k.c + 2 + (i : Int)))
theorem kwS_len (k : Kn) : (kwS k).length = k.ps.length := by simp [kwS]
theorem kwS_take (k : Kn) (j : Nat) (h : j < k.ps.length) : (kwS k).take (j + 1) = (kwS k).take j ++ [str (k.word (k.c + 2 + (j : Int)))] := by
  have hl : j < (kwS k).length := by rw [kwS_len]; exact h
  rw [List.take_succ_eq_append_getElem hl]
  simp [kwS]
theorem kn_len {k : Kn} (h : k.Ok) : k.ps.length ≤ 1022 ∧ 2 ≤ k.c ∧ k.c ≤ 256 := by
  obtain ⟨s1, s2, s3⟩ := setOk_iff.1 h.set
  have hc : k.c ≤ 256 ∧ 2 ≤ k.c := by
    have : k.l = 1 ∨ k.l = 2 ∨ k.l = 3 ∨ k.l = 4 ∨ k.l = 5 ∨ k.l = 6 ∨ k.l = 7 ∨ k.l = 8 := by omega
    unfold Kn.c
    rcases this with e | e | e | e | e | e | e | e <;> rw [e] <;> decide
  have hm : k.lc ≤ 1023 := by
    have : k.m = 1 ∨ k.m = 2 ∨ k.m = 3 ∨ k.m = 4 ∨ k.m = 5 ∨ k.m = 6 ∨ k.m = 7 ∨ k.m = 8 ∨ k.m = 9 ∨ k.m = 10 := by omega
    unfold Kn.lc
    rcases this with e | e | e | e | e | e | e | e | e | e <;> rw [e] <;> decide
  have hr := h.room
  exact ⟨by omega, hc.2, hc.1⟩

open Classical in
/-- what KnownWords answers -/
noncomputable def kwR (k : Kn) : List ByteArray := if k.Ok then kwS k else []
theorem kwR_yes {k : Kn} (h : k.Ok) : kwR k = kwS k := if_pos h
theorem kwR_no {k : Kn} (h : ¬ k.Ok) : kwR k = [] := if_neg h
theorem kwR_len (k : Kn) : (kwR k).length ≤ 1048576 := by
  by_cases h : k.Ok
  · rw [kwR_yes h, kwS_len]; have := (kn_len h).1; omega
  · rw [kwR_no h]; decide
theorem kw_has {k : Kn} (j : Nat) (hj : j < k.ps.length) : HasW (pow2 k.l) (pow2 k.l + 2 + j) k.ps.length := by unfold HasW; omega

set_option maxHeartbeats 1000000 in
set_option maxRecDepth 100000 in
/-- the model -/
theorem c_l4Words (k : Kn) (A : Option Addr) (cap L : Nat) (w : World) (h : k.Ok) (hps : PsAt w L A cap k.ps) (hL : L ≤ w.heap.size) :
    Calls Try.prog 21 #[.agg #[.int .i64 k.o, .int .i64 k.l, .int .i64 k.m, .slice A k.ps.length cap, .int .i64 k.base, .int .i64 k.last]] w fun e w' => ∃ A' c', e = .returned (.slice A' (kwS k).length c') ∧ w'.ownsRow w.heap.size 9 1 (.slice A' (kwS k).length c') (kwS k).length ((kwS k).map sv) ∧ Below w.heap.size w w' := by
  have hp := set_bd h.set
  obtain ⟨_, ⟨hl1, hl2⟩, hm1, hm2⟩ := setOk_iff.1 h.set
  have hlen := (kn_len h).1
  have HE := hid (fun (v : World) => c_l1End k.o k.l k.m v (by omega) (by omega))
  have HW := hid (fun (v : World) (hb : Below w.heap.size w v) (j : Nat) (hj : j < k.ps.length) => c_l2Word k A cap L v h (hps.below hb hL) (Nat.le_trans hL hb.size) (pow2 k.l + 2 + j) (kw_has j hj))
  have kN0 := (Blk.new w 33 #[.int .i64 k.o, .int .i64 k.l, .int .i64 k.m, .slice A k.ps.length cap, .int .i64 k.base, .int .i64 k.last])
  have HK := hid ((kN0.alloc (.cells #[] 9)).kat)
  have hown0 : ((w.alloc (.cells #[.int .i64 k.o, .int .i64 k.l, .int .i64 k.m, .slice A k.ps.length cap, .int .i64 k.base, .int .i64 k.last] 33)).alloc (.cells #[] 9)).ownsRow (w.heap.size + 1) 9 1 (.slice (some ⟨w.heap.size + 1, 0, none⟩) 0 0) 0 (([] : List ByteArray).map sv) := by
    have h1 := World.ownsRow_made (e := 9) (size := 1) (base := w.heap.size + 1) (w.alloc (.cells #[.int .i64 k.o, .int .i64 k.l, .int .i64 k.m, .slice A k.ps.length cap, .int .i64 k.base, .int .i64 k.last] 33)) #[] 0 (by simp) (by simp [maxLen]) rfl
    rw [World.size_alloc] at h1; exact h1
  clear hps h kN0
  go_enter Try.func21, Try.ntmps21
  go_wp2_with fail
  go_loopw [3, 4] (fun v i wr => ∃ j : Nat, j ≤ k.ps.length ∧ i = .int .i64 j ∧ wr.ownsRow (w.heap.size + 1) 9 1 v j (((kwS k).take j).map sv) ∧ Hid (KAt wr w.heap.size k (.slice A k.ps.length cap)) ∧ Below w.heap.size w wr ∧ w.heap.size + 1 ≤ wr.heap.size) (fun _ i _ => k.ps.length - (intOf i).toNat)
  case atStart => exact ⟨0, Nat.zero_le _, rfl, hown0, HK, by (repeat (first | with_reducible (first | assumption | exact Below.refl _ _ | refine bel_alloc ?_ _ | refine bel_drew ?_ | refine bel_drewN ?_ _ | refine bel_set ?_ (by first | omega | (simp; done) | (simp; omega)) _ | refine bel_trans ?_ (by assumption)) | assumption | refine bel_trans ?_ (by assumption))), by simp [World.size_alloc]⟩
  case round =>
    obtain ⟨j, hj, rfl, hown, HKr, hbl, hB1⟩ := hrel
    have hk2 := HKr.out
    have hz0 := hk2.1
    have hz1 := hbl.size
    by_cases hlt : j < k.ps.length
    · have hlti : (j : Int) < (k.ps.length : Int) := by omega
      have HT := hid (kwS_take k j hlt)
      have HX := hid (show str (k.word (pow2 k.l + 2 + (j : Int))) = str (k.word (k.c + 2 + (j : Int))) from rfl)
      obtain ⟨X, hX⟩ : ∃ X, X = str (k.word (pow2 k.l + 2 + (j : Int))) := ⟨_, rfl⟩
      have HWj := hid (fun (v : World) (hb : Below w.heap.size w v) => HW.out v hb j hlt)
      rw [← hX] at HX HWj
      clear hX
      have ew1 : IntKind.i64.wrap (pow2 k.l + 1 + 1) = pow2 k.l + 2 := (IntWalk.i64_in _ (by omega)).trans (by omega)
      have ew2 : IntKind.i64.wrap (pow2 k.l + 2 + (j : Int)) = pow2 k.l + 2 + (j : Int) := IntWalk.i64_in _ (by omega)
      obtain ⟨q0, q1, q2, q3, q4, q5, q6⟩ := hk2
      have HS := hid (s6_mk q1 q2 q3 q4 q5 q6 hbl)
      go_wp2_with fail
      have hS := HS.out
      refine wp_region_noPanic ?_
      refine wp_region_held_drew (S := (fun v => v.cell? ⟨w.heap.size, 0, none⟩ = some (.int .i64 k.o) ∧ v.cell? ⟨w.heap.size, 1, none⟩ = some (.int .i64 k.l) ∧ v.cell? ⟨w.heap.size, 2, none⟩ = some (.int .i64 k.m) ∧ v.cell? ⟨w.heap.size, 3, none⟩ = some (.slice A k.ps.length cap) ∧ v.cell? ⟨w.heap.size, 4, none⟩ = some (.int .i64 k.base) ∧ v.cell? ⟨w.heap.size, 5, none⟩ = some (.int .i64 k.last) ∧ Below w.heap.size w v)) (by kernel_rfl) (s6_drew hS) (fun hHeld => ?_)
      refine tk 0 ?_
      refine tk 1 ?_
      refine tk 2 ?_
      refine tk 3 ?_
      refine tk 6 ?_
      refine wpAnyH_ready (rs := [4]) (by kernel_rfl) (by simp) ?_
      refine AllReadyH.cons (o := ?or2_4) ?ir2_4 (fun K hK => ?sr2_4) AllReadyH.nil
      case ir2_4 => (simp only [List.getElem?_toArray, List.getElem?_cons_succ, List.getElem?_cons_zero]; rfl)
      (first | ((refine step_txt (by rfl) (.tmp 13) (.tmp 22) 28 (by rfl) (w.heap.size + 1) 9 Try.underlying28 Try.info_txt _ j ((kwS k).take j) (by rfl) hown4 X 1 (by rfl) (by omega) hz4 ?_; intro v7 w7 hown7 hb7 hg7; have HK7 := hid (HK4.out.on hb7 (Nat.lt_succ_self _)); have hbl7 := hbl4.trans (hb7.mono (Nat.le_succ _)); obtain ⟨t0, t1, t2, t3, t4, t5, t6⟩ := HK7.out)) | (go_simp; (first | (go_at_call 44; refine (HE.out _).mono ?_; rintro e w3 ⟨rfl, hb3⟩) | (go_at_call 48; refine (HWj.out _ (by (repeat (first | with_reducible (first | assumption | exact Below.refl _ _ | refine bel_alloc ?_ _ | refine bel_drew ?_ | refine bel_drewN ?_ _ | refine bel_set ?_ (by first | omega | (simp; done) | (simp; omega)) _ | refine bel_trans ?_ (by assumption)) | assumption | refine bel_trans ?_ (by assumption))))).mono ?_; rintro e w4 ⟨rfl, hb4⟩; have hb34 : Below wr.heap.size wr w4 := (by (repeat (first | with_reducible (first | assumption | exact Below.refl _ _ | refine bel_alloc ?_ _ | refine bel_drew ?_ | refine bel_drewN ?_ _ | refine bel_set ?_ (by first | omega | (simp; done) | (simp; omega)) _ | refine bel_trans ?_ (by assumption)) | assumption | refine bel_trans ?_ (by assumption)))); have hown4 := own_on hown hb34; have HK4 := hid (HKr.out.on hb34 hz0); have hz4 : w.heap.size + 1 ≤ w4.heap.size := Nat.le_trans hB1 hb34.size; have hbl4 : Below w.heap.size w w4 := hbl.trans (hb34.mono hz1)) | skip)))
      refine hK.out _ _ ?kr2_4 (fun hHeld => ?_)
      case kr2_4 => (try dsimp only); (first | with_reducible assumption | with_reducible exact s6_bel hb34 HS.out | with_reducible exact s6_mk t1 t2 t3 t4 t5 t6 hbl7 | exact s6_bel (by assumption) (by assumption) | assumption | exact s6_alloc (by assumption) _ | exact s6_bel hb34 HS.out | exact s6_mk t1 t2 t3 t4 t5 t6 hbl7)
      clear hK K
      try simp only [Act.put, List.setIfInBounds_toArray, List.set_cons_zero, List.set_cons_succ]
      refine tk 5 ?_
      refine tk 7 ?_
      refine wpAnyH_ready (rs := [8]) (by kernel_rfl) (by simp) ?_
      refine AllReadyH.cons (o := ?or2_8) ?ir2_8 (fun K hK => ?sr2_8) AllReadyH.nil
      case ir2_8 => (simp only [List.getElem?_toArray, List.getElem?_cons_succ, List.getElem?_cons_zero]; rfl)
      (first | ((refine step_txt (by rfl) (.tmp 13) (.tmp 22) 28 (by rfl) (w.heap.size + 1) 9 Try.underlying28 Try.info_txt _ j ((kwS k).take j) (by rfl) hown4 X 1 (by rfl) (by omega) hz4 ?_; intro v7 w7 hown7 hb7 hg7; have HK7 := hid (HK4.out.on hb7 (Nat.lt_succ_self _)); have hbl7 := hbl4.trans (hb7.mono (Nat.le_succ _)); obtain ⟨t0, t1, t2, t3, t4, t5, t6⟩ := HK7.out)) | (go_simp; (first | (go_at_call 44; refine (HE.out _).mono ?_; rintro e w3 ⟨rfl, hb3⟩) | (go_at_call 48; refine (HWj.out _ (by (repeat (first | with_reducible (first | assumption | exact Below.refl _ _ | refine bel_alloc ?_ _ | refine bel_drew ?_ | refine bel_drewN ?_ _ | refine bel_set ?_ (by first | omega | (simp; done) | (simp; omega)) _ | refine bel_trans ?_ (by assumption)) | assumption | refine bel_trans ?_ (by assumption))))).mono ?_; rintro e w4 ⟨rfl, hb4⟩; have hb34 : Below wr.heap.size wr w4 := (by (repeat (first | with_reducible (first | assumption | exact Below.refl _ _ | refine bel_alloc ?_ _ | refine bel_drew ?_ | refine bel_drewN ?_ _ | refine bel_set ?_ (by first | omega | (simp; done) | (simp; omega)) _ | refine bel_trans ?_ (by assumption)) | assumption | refine bel_trans ?_ (by assumption)))); have hown4 := own_on hown hb34; have HK4 := hid (HKr.out.on hb34 hz0); have hz4 : w.heap.size + 1 ≤ w4.heap.size := Nat.le_trans hB1 hb34.size; have hbl4 : Below w.heap.size w w4 := hbl.trans (hb34.mono hz1)) | skip)))
      refine hK.out _ _ ?kr2_8 (fun hHeld => ?_)
      case kr2_8 => (try dsimp only); (first | with_reducible assumption | with_reducible exact s6_bel hb34 HS.out | with_reducible exact s6_mk t1 t2 t3 t4 t5 t6 hbl7 | exact s6_bel (by assumption) (by assumption) | assumption | exact s6_alloc (by assumption) _ | exact s6_bel hb34 HS.out | exact s6_mk t1 t2 t3 t4 t5 t6 hbl7)
      clear hK K
      try simp only [Act.put, List.setIfInBounds_toArray, List.set_cons_zero, List.set_cons_succ]
      refine wpAnyH_ready (rs := [9]) (by kernel_rfl) (by simp) ?_
      refine AllReadyH.cons (o := ?or2_9) ?ir2_9 (fun K hK => ?sr2_9) AllReadyH.nil
      case ir2_9 => (simp only [List.getElem?_toArray, List.getElem?_cons_succ, List.getElem?_cons_zero]; rfl)
      (first | (go_simp; (first | (go_at_call 44; refine (HE.out _).mono ?_; rintro e w3 ⟨rfl, hb3⟩) | (go_at_call 48; refine (HWj.out _ (by (repeat (first | with_reducible (first | assumption | exact Below.refl _ _ | refine bel_alloc ?_ _ | refine bel_drew ?_ | refine bel_drewN ?_ _ | refine bel_set ?_ (by first | omega | (simp; done) | (simp; omega)) _ | refine bel_trans ?_ (by assumption)) | assumption | refine bel_trans ?_ (by assumption))))).mono ?_; rintro e w4 ⟨rfl, hb4⟩; have hb34 : Below wr.heap.size wr w4 := (by (repeat (first | with_reducible (first | assumption | exact Below.refl _ _ | refine bel_alloc ?_ _ | refine bel_drew ?_ | refine bel_drewN ?_ _ | refine bel_set ?_ (by first | omega | (simp; done) | (simp; omega)) _ | refine bel_trans ?_ (by assumption)) | assumption | refine bel_trans ?_ (by assumption)))); have hown4 := own_on hown hb34; have HK4 := hid (HKr.out.on hb34 hz0); have hz4 : w.heap.size + 1 ≤ w4.heap.size := Nat.le_trans hB1 hb34.size; have hbl4 : Below w.heap.size w w4 := hbl.trans (hb34.mono hz1)) | skip)))
      refine hK.out _ _ ?kr2_9 (fun hHeld => ?_)
      case kr2_9 => (try dsimp only); (first | with_reducible assumption | with_reducible exact s6_bel hb34 HS.out | with_reducible exact s6_mk t1 t2 t3 t4 t5 t6 hbl7 | exact s6_bel (by assumption) (by assumption) | assumption | exact s6_alloc (by assumption) _ | exact s6_bel hb34 HS.out | exact s6_mk t1 t2 t3 t4 t5 t6 hbl7)
      clear hK K
      try simp only [Act.put, List.setIfInBounds_toArray, List.set_cons_zero, List.set_cons_succ]
      refine wpAnyH_ready (rs := [10]) (by kernel_rfl) (by simp) ?_
      refine AllReadyH.cons (o := ?or2_10) ?ir2_10 (fun K hK => ?sr2_10) AllReadyH.nil
      case ir2_10 => (simp only [List.getElem?_toArray, List.getElem?_cons_succ, List.getElem?_cons_zero]; rfl)
      (first | ((refine step_txt (by rfl) (.tmp 13) (.tmp 22) 28 (by rfl) (w.heap.size + 1) 9 Try.underlying28 Try.info_txt _ j ((kwS k).take j) (by rfl) hown4 X 1 (by rfl) (by omega) hz4 ?_; intro v7 w7 hown7 hb7 hg7; have HK7 := hid (HK4.out.on hb7 (Nat.lt_succ_self _)); have hbl7 := hbl4.trans (hb7.mono (Nat.le_succ _)); obtain ⟨t0, t1, t2, t3, t4, t5, t6⟩ := HK7.out)) | (go_simp; (first | (go_at_call 44; refine (HE.out _).mono ?_; rintro e w3 ⟨rfl, hb3⟩) | (go_at_call 48; refine (HWj.out _ (by (repeat (first | with_reducible (first | assumption | exact Below.refl _ _ | refine bel_alloc ?_ _ | refine bel_drew ?_ | refine bel_drewN ?_ _ | refine bel_set ?_ (by first | omega | (simp; done) | (simp; omega)) _ | refine bel_trans ?_ (by assumption)) | assumption | refine bel_trans ?_ (by assumption))))).mono ?_; rintro e w4 ⟨rfl, hb4⟩; have hb34 : Below wr.heap.size wr w4 := (by (repeat (first | with_reducible (first | assumption | exact Below.refl _ _ | refine bel_alloc ?_ _ | refine bel_drew ?_ | refine bel_drewN ?_ _ | refine bel_set ?_ (by first | omega | (simp; done) | (simp; omega)) _ | refine bel_trans ?_ (by assumption)) | assumption | refine bel_trans ?_ (by assumption)))); have hown4 := own_on hown hb34; have HK4 := hid (HKr.out.on hb34 hz0); have hz4 : w.heap.size + 1 ≤ w4.heap.size := Nat.le_trans hB1 hb34.size; have hbl4 : Below w.heap.size w w4 := hbl.trans (hb34.mono hz1)) | skip)))
      refine hK.out _ _ ?kr2_10 (fun hHeld => ?_)
      case kr2_10 => (try dsimp only); (first | with_reducible assumption | with_reducible exact s6_bel hb34 HS.out | with_reducible exact s6_mk t1 t2 t3 t4 t5 t6 hbl7 | exact s6_bel (by assumption) (by assumption) | assumption | exact s6_alloc (by assumption) _ | exact s6_bel hb34 HS.out | exact s6_mk t1 t2 t3 t4 t5 t6 hbl7)
      clear hK K
      try simp only [Act.put, List.setIfInBounds_toArray, List.set_cons_zero, List.set_cons_succ]
      refine tk 11 ?_
      refine wpAnyH_done (by kernel_rfl) ?_ _
      refine NoPanic.normal ?_
      all_goals
        have hown8 : w7.ownsRow (w.heap.size + 1) 9 1 v7 (j + 1) (((kwS k).take (j + 1)).map sv) := by rw [HT.out, ← HX.out]; exact hown7
        have hz7 := Nat.le_trans hz4 hb7.size
        clear hown7 hown4 hb7 hg7 hbl4 hz4
        go_wp2_with fail
        go_roundw
        case rel => exact ⟨j + 1, by omega, by go_num, hown8, HK7, by (repeat (first | with_reducible (first | assumption | exact Below.refl _ _ | refine bel_alloc ?_ _ | refine bel_drew ?_ | refine bel_drewN ?_ _ | refine bel_set ?_ (by first | omega | (simp; done) | (simp; omega)) _ | refine bel_trans ?_ (by assumption)) | assumption | refine bel_trans ?_ (by assumption))), by first | exact hz7 | omega⟩
        case measure => simp [intOf]; omega
    · have hjn : j = k.ps.length := by omega
      subst hjn
      have hall : (kwS k).take k.ps.length = kwS k := List.take_of_length_le (by rw [kwS_len]; exact Nat.le_refl _)
      rw [hall] at hown
      obtain ⟨A0, c0, rfl, hat, hkq, _⟩ := own_strs hown
      have HO : Hid (wr.ownsRow w.heap.size 9 1 (.slice A0 (kwS k).length c0) (kwS k).length ((kwS k).map sv)) := hid (by have := own_mono (B' := w.heap.size) hown (by omega); rwa [hkq] at this)
      obtain ⟨q0, q1, q2, q3, q4, q5, q6⟩ := hk2
      clear hat hown hall hkq
      go_wp2
      go_ret
      exact ⟨A0, c0, rfl, HO.out, by (repeat (first | with_reducible (first | assumption | exact Below.refl _ _ | refine bel_alloc ?_ _ | refine bel_drew ?_ | refine bel_drewN ?_ _ | refine bel_set ?_ (by first | omega | (simp; done) | (simp; omega)) _ | refine bel_trans ?_ (by assumption)) | assumption | refine bel_trans ?_ (by assumption)))⟩

set_option maxHeartbeats 1000000 in
set_option maxRecDepth 100000 in
theorem c_KnownWords (k : Kn) (A : Option Addr) (cap L : Nat) (w : World) (hps : PsAt w L A cap k.ps) (hL : L ≤ w.heap.size) (hw : k.Wf) :
    Calls Try.prog 17 #[.agg #[.int .i64 k.o, .int .i64 k.l, .int .i64 k.m, .slice A k.ps.length cap, .int .i64 k.base, .int .i64 k.last]] w fun e w' => ∃ A' c', e = .returned (.slice A' (kwR k).length c') ∧ w'.ownsRow w.heap.size 9 1 (.slice A' (kwR k).length c') (kwR k).length ((kwR k).map sv) ∧ Below w.heap.size w w' := by
  by_cases h : k.Ok
  · rw [kwR_yes h]
    have hp := set_bd h.set
    have hlen := (kn_len h).1
    have HNX := hid (next_eq k)
    have HV := hid (fun (v : World) (hb : Below w.heap.size w v) => c_KnownValid_yes k A cap L v (hps.below hb hL) (Nat.le_trans hL hb.size) h hw)
    have HFW := hid (fun (v : World) (hv : KAt v w.heap.size k (.slice A k.ps.length cap)) => c_firstWord w.heap.size k A cap v h hv)
    have HNW := hid (fun (v : World) (hv : KAt v w.heap.size k (.slice A k.ps.length cap)) => c_nextWord w.heap.size k A cap v h hv)
    rw [next_eq] at HNW
    have HWD := hid (fun (v : World) (hv : KAt v w.heap.size k (.slice A k.ps.length cap)) (hb : Below w.heap.size w v) (j : Nat) (hj : j < k.ps.length) => c_word_has w.heap.size k A cap L v h hv (hps.below hb hL) (Nat.le_trans hL hb.size) (pow2 k.l + 2 + j) (kw_has j hj))
    have kN := Blk.new w 33 #[.int .i64 k.o, .int .i64 k.l, .int .i64 k.m, .slice A k.ps.length cap, .int .i64 k.base, .int .i64 k.last]
    have HKN := hid kN
    obtain ⟨_, ⟨hl1, hl2⟩, hm1, hm2⟩ := setOk_iff.1 h.set
    clear hps h hw
    obtain ⟨q1, q2, q3, q4, q5, q6⟩ := kN.cells6
    go_enter Try.func17, Try.ntmps17
    go_wp2_with fail
    refine (HV.out _ (by (repeat (first | with_reducible (first | assumption | exact Below.refl _ _ | refine bel_alloc ?_ _ | refine bel_drew ?_ | refine bel_drewN ?_ _ | refine bel_set ?_ (by first | omega | (simp; done) | (simp; omega)) _ | refine bel_trans ?_ (by assumption)) | assumption | refine bel_trans ?_ (by assumption))))).mono ?_
    rintro e w1 ⟨rfl, hb1⟩
    have hk1 := (HKN.out.on hb1).kat
    have HK1 := hid hk1
    go_wp2_with fail
    refine (HFW.out _ HK1.out).mono ?_
    rintro e w2 ⟨rfl, hb2⟩
    have HK2 := hid (HK1.out.on hb2 HK1.out.1)
    have hB2 : Below w.heap.size w w2 := by (repeat (first | with_reducible (first | assumption | exact Below.refl _ _ | refine bel_alloc ?_ _ | refine bel_drew ?_ | refine bel_drewN ?_ _ | refine bel_set ?_ (by first | omega | (simp; done) | (simp; omega)) _ | refine bel_trans ?_ (by assumption)) | assumption | refine bel_trans ?_ (by assumption)))
    have hz2 : w.heap.size + 1 ≤ w2.heap.size := HK2.out.1
    clear hb1 hb2 hk1 q1 q2 q3 q4 q5 q6 kN
    go_wp2_with fail
    go_loopw [3, 4] (fun v i wr => ∃ j : Nat, j ≤ k.ps.length ∧ i = .int .i64 (pow2 k.l + 2 + j) ∧ wr.ownsRow (w.heap.size + 1) 9 1 v j (((kwS k).take j).map sv) ∧ Hid (KAt wr w.heap.size k (.slice A k.ps.length cap)) ∧ Below w.heap.size w wr ∧ w.heap.size + 1 ≤ wr.heap.size) (fun _ i _ => (pow2 k.l + 2 + k.ps.length - intOf i).toNat)
    case atStart => exact ⟨0, Nat.zero_le _, by go_num, World.ownsRow_nil _ _ _ _, HK2, hB2, hz2⟩
    case round =>
      obtain ⟨j, hj, rfl, hown, HKr, hbl, hB1⟩ := hrel
      have hz1 := hbl.size
      go_wp2_with fail
      refine (HNW.out _ HKr.out).mono ?_
      rintro e w3 ⟨rfl, hb3⟩
      have HK3 := hid (HKr.out.on hb3 HKr.out.1)
      have hown3 := own_on hown hb3
      have hbl3 := hbl.trans (hb3.mono hz1)
      have hz3 := Nat.le_trans hB1 hb3.size
      clear hown hb3 HKr hbl hB1 hz1
      by_cases hlt : j < k.ps.length
      · have hlti : pow2 k.l + 2 + (j : Int) < pow2 k.l + 2 + (k.ps.length : Int) := by omega
        have HT := hid (kwS_take k j hlt)
        have HX := hid (show str (k.word (pow2 k.l + 2 + (j : Int))) = str (k.word (k.c + 2 + (j : Int))) from rfl)
        obtain ⟨X, hX⟩ : ∃ X, X = str (k.word (pow2 k.l + 2 + (j : Int))) := ⟨_, rfl⟩
        have HWj := hid (fun (v : World) (hv : KAt v w.heap.size k (.slice A k.ps.length cap)) (hb : Below w.heap.size w v) => HWD.out v hv hb j hlt)
        rw [← hX] at HX HWj
        clear hX
        go_wp2_with fail
        refine (HWj.out _ HK3.out hbl3).mono ?_
        rintro e w4 ⟨rfl, hb4⟩
        have HK4 := hid (HK3.out.on hb4 HK3.out.1)
        have hown4 := own_on hown3 hb4
        have hbl4 := hbl3.trans (hb4.mono hbl3.size)
        have hz4 := Nat.le_trans hz3 hb4.size
        clear hown3 hb4 HK3 hbl3 hz3
        go_wp2_with (at_builtin; refine app_txt rfl _ _ 28 rfl (w.heap.size + 1) 9 Try.underlying28 Try.info_txt _ j ((kwS k).take j) rfl hown4 X X rfl 1 rfl (by omega) hz4 ?_; intro v7 w7 hown7 hb7 hg7)
        have HK7 := hid (HK4.out.on hb7 (Nat.lt_succ_self _))
        have hbl7 := hbl4.trans (hb7.mono (Nat.le_succ _))
        have hz7 := Nat.le_trans hz4 hb7.size
        have hown8 : w7.ownsRow (w.heap.size + 1) 9 1 v7 (j + 1) (((kwS k).take (j + 1)).map sv) := by rw [HT.out, ← HX.out]; exact hown7
        clear hown7 hown4 hb7 hg7 hbl4 hz4 HK4
        go_roundw
        case rel => exact ⟨j + 1, by omega, by go_num, hown8, HK7, hbl7, hz7⟩
        case measure => simp [intOf]; omega
      · have hjn : j = k.ps.length := by omega
        have hnlt : ¬ (pow2 k.l + 2 + (j : Int) < pow2 k.l + 2 + (k.ps.length : Int)) := by omega
        subst hjn
        have hall : (kwS k).take k.ps.length = kwS k := List.take_of_length_le (by rw [kwS_len]; exact Nat.le_refl _)
        rw [hall] at hown3
        obtain ⟨A0, c0, rfl, hat, hkq, _⟩ := own_strs hown3
        have HO : Hid (w3.ownsRow w.heap.size 9 1 (.slice A0 (kwS k).length c0) (kwS k).length ((kwS k).map sv)) := hid (by have := own_mono (B' := w.heap.size) hown3 (by omega); rwa [hkq] at this)
        clear hat hown3 hall hkq
        go_wp2
        go_ret
        exact ⟨A0, c0, rfl, HO.out, by (repeat (first | with_reducible (first | assumption | exact Below.refl _ _ | refine bel_alloc ?_ _ | refine bel_drew ?_ | refine bel_drewN ?_ _ | refine bel_set ?_ (by first | omega | (simp; done) | (simp; omega)) _ | refine bel_trans ?_ (by assumption)) | assumption | refine bel_trans ?_ (by assumption)))⟩
  · rw [kwR_no h]
    have HV := hid (fun (v : World) (hb : Below w.heap.size w v) => c_KnownValid_no k A cap L v (hps.below hb hL) (Nat.le_trans hL hb.size) h hw)
    have kN := Blk.new w 33 #[.int .i64 k.o, .int .i64 k.l, .int .i64 k.m, .slice A k.ps.length cap, .int .i64 k.base, .int .i64 k.last]
    clear hps h hw
    obtain ⟨q1, q2, q3, q4, q5, q6⟩ := kN.cells6
    go_enter Try.func17, Try.ntmps17
    go_wp2_with fail
    refine (HV.out _ (by (repeat (first | with_reducible (first | assumption | exact Below.refl _ _ | refine bel_alloc ?_ _ | refine bel_drew ?_ | refine bel_drewN ?_ _ | refine bel_set ?_ (by first | omega | (simp; done) | (simp; omega)) _ | refine bel_trans ?_ (by assumption)) | assumption | refine bel_trans ?_ (by assumption))))).mono ?_
    rintro e w1 ⟨rfl, hb1⟩
    go_wp2
    go_ret
    exact ⟨none, 0, rfl, World.ownsRow_nil _ _ _ _, by (repeat (first | with_reducible (first | assumption | exact Below.refl _ _ | refine bel_alloc ?_ _ | refine bel_drew ?_ | refine bel_drewN ?_ _ | refine bel_set ?_ (by first | omega | (simp; done) | (simp; omega)) _ | refine bel_trans ?_ (by assumption)) | assumption | refine bel_trans ?_ (by assumption)))⟩
end Go.Proofs.Ytgaihfmopenfeaa
