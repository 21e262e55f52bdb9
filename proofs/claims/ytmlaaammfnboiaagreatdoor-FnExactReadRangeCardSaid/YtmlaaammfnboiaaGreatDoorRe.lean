/- The contract of a trail that goes on by the codes of bits. No condition but that the trail is valid. -/
import Derived.Test.YtmlaaammfnboiaaGreatDoorBg
import Derived.Test.YtmlaaammfnboiaaGreatDoorBb
import Derived.Test.YtmlaaammfnboiaaGreatDoorBj
namespace Go.Proofs.YtmlaaammfnboiaaGreatDoor
open Go.ChangeShapes Go.WideShapes Go.ChangeAt Go.RowKit Go.Joins
set_option linter.unusedVariables false

/-- a trail that goes on -/
structure Tr.Live (T : Tr) : Prop where
 ok : T.Ok
 cs : T.cs.length ≤ T.n
 ds : T.ds.length ≤ T.sz
 n : T.n < 3100
def RdRel (bs : List Bool) (F : Nat) (T0 : Tr) (B g : Nat) (w : World) (v6 v7 : Value) (wr : World) : Prop :=
 ∃ (T : Tr) (at' : Nat) (e : Int), v6 = .int .i64 at' ∧ v7 = .int .i64 e ∧ TrailAt wr B g T ∧ T.Ok ∧ at' ≤ bs.length ∧ Below B w wr ∧
  ((e = 1 ∧ (∃ f, Tr.rd bs F T0 0 = Tr.rd bs f T at' ∧ bs.length < at' + f) ∧ T.Live) ∨ (e ≠ 1 ∧ Tr.rd bs F T0 0 = (T, e, at')))
def ReadOut (bs : List Bool) (F : Nat) (T0 : Tr) (B g : Nat) (w : World) (e : Ending) (w' : World) : Prop :=
 ∃ (T : Tr) (at' : Nat) (f : Int), Tr.rd bs F T0 0 = (T, f, at') ∧ at' ≤ bs.length ∧ e = .returned (.tuple #[.int .i64 f, .int .i64 at']) ∧ TrailAt w' B g T ∧ T.Ok ∧ Below B w w'

theorem number_code (k : Kn) (ho : k.o = 0 ∨ k.o = 1) (s : ByteArray) (hs : s.size ≤ 40000) (hb : s.data.toList.all isBit = true) (a wn : Nat) (hw : k.width = wn) (h : a + wn ≤ s.size) (hw2 : wn ≤ 10) : ((M.numK (k.o == 1) wn ((s.extract a (a + wn)).data.toList.map par) : Nat) : Int) = k.codeAt (bitsL s) a := by
 have h1 : (s.extract a (a + wn)).size = wn := by rw [ByteArray.size_extract]; omega
 have h2 : bitsOk (s.extract a (a + wn)) = true := by
  simp only [bitsOk, Bool.and_eq_true, decide_eq_true_eq]
  exact ⟨by omega, extract_all hb _ _⟩
 have h3 : (bitsL (s.extract a (a + wn))).length = wn := by rw [bitsL_len, h1]
 rw [par_bits h2]
 have h4 : ∀ (l : List Bool) (n : Nat), l.length = n → M.numK (k.o == 1) n l = M.num (M.dir (k.o == 1) l) := fun l n e => by subst e; exact M.numK_full _ _
 rw [h4 _ _ h3, extract_bits _ _ _ h]
 unfold Kn.codeAt
 rw [hw]
 simp

set_option maxHeartbeats 4000000 in
set_option maxRecDepth 100000 in
theorem c_read (g B : Nat) (T0 : Tr) (F : Nat) (s : ByteArray) (w : World) (hT : T0.Live) (h : TrailAt w B g T0) (hs : s.size ≤ 40000) (hb : s.data.toList.all isBit = true) (hF : s.size < F) :
  Calls Tryz.prog 140 #[.pointer (some ⟨g, 0, none⟩), .string s] w (ReadOut (bitsL s) F T0 B g w) := by
 have HI : Hid (RdRel (bitsL s) F T0 B g w (.int .i64 0) (.int .i64 1) w) := hid ⟨T0, 0, 1, rfl, rfl, h, hT.ok, Nat.zero_le _, Below.refl _ _, .inl ⟨rfl, ⟨F, rfl, by rw [bitsL_len]; omega⟩, hT⟩⟩
 have HB := hid hb
 clear h hT hb hF
 go_enter Tryz.func140, Tryz.ntmps140
 go_wp2_with fail
 go_loopw [6, 7] (fun v6 v7 wr => RdRel (bitsL s) F T0 B g w v6 v7 wr) (fun v6 _ _ => s.size + 1 - (intOf v6).toNat)
 case atStart => exact HI.out
 case round =>
  obtain ⟨T, a, e, rfl, rfl, hta, hok, hal, hbl, hcase⟩ := hrel
  rw [bitsL_len] at hal
  clear HI
  have HTA := hid hta
  have HOK := hid hok
  have HBL := hid hbl
  rcases hcase with ⟨rfl, hrd, hlive⟩ | ⟨hne, hrd⟩
  ·have HRD := hid hrd
   have HLV := hid hlive
   have hwb := hok.kn.width_bd
   have hord : T.k.o = 0 ∨ T.k.o = 1 := (setOk_iff.1 hok.kn.set).1
   obtain ⟨wn, hwn⟩ : ∃ wn : Nat, T.k.width = wn := ⟨T.k.width.toNat, by omega⟩
   have hwn1 : 2 ≤ wn ∧ wn ≤ 10 := by omega
   have HWn := hid hwn
   have HWd := hid (fun (v : World) (A : Option Addr) (cap : Nat) (hv : KAt v g T.k (.slice A T.k.ps.length cap)) => c_width g T.k A cap v hok.kn hv)
   simp only [hwn] at HWd
   clear hrd hlive hwb hwn hok hbl
   obtain ⟨A1, c1, vc, vw, vd, hT⟩ := hta
   go_wp2_with fail
   refine (HWd.out _ _ _ hT.kat).mono ?_
   rintro e w1 ⟨rfl, hb1⟩
   have HT1 := hid (hT.on hb1)
   have hB1 := HBL.out.trans (hb1.mono hT.le9)
   clear hT hb1 HTA
   by_cases hstop : s.size < a + wn
   ·have e1 : ((s.size : Int) - (a : Int)) < (wn : Int) := by omega
    obtain ⟨f, hf1, hf2⟩ := HRD.out
    have HX := hid (hf1.trans (Tr.rd_stop (by rw [HWn.out, bitsL_len]; omega)))
    clear hf1 hf2
    go_wp2
    go_ret2
    exact ⟨T, a, 1, HX.out, by rw [bitsL_len]; exact hal, rfl, ⟨_, _, _, _, _, HT1.out⟩, HOK.out, hB1⟩
   ·have hfit : a + wn ≤ s.size := by omega
    have HNc := hid (number_code T.k hord s hs HB.out a wn HWn.out hfit hwn1.2)
    obtain ⟨C, hC⟩ : ∃ C, C = T.k.codeAt (bitsL s) a := ⟨_, rfl⟩
    rw [← hC] at HNc
    have HC := hid hC
    have HNm := hid (fun (v : World) => c_number T.k.o wn (s.extract a (a + wn)) v hord (by omega) (by omega) (by rw [ByteArray.size_extract]; omega))
    rw [show (wn : Int).toNat = wn from rfl, HNc.out] at HNm
    have HSt := hid (fun (v : World) (hv : TrailAt v B g T) => c_step g B T v HOK.out (by have := HLV.out.n; omega) (by have := HLV.out.n; have := HLV.out.cs; omega) hv C)
    unfold StepTo at HSt
    have q0 := HT1.out.blk.cell 0
    simp only [List.getElem?_toArray, List.getElem?_cons_zero] at q0
    have esum : IntKind.i64.wrap ((a : Int) + (wn : Int)) = ((a + wn : Nat) : Int) := (IntWalk.i64_in _ (by omega)).trans (by omega)
    have hle : (a : Int) + (wn : Int) ≤ (s.size : Int) := by omega
    have hge0 : (0 : Int) ≤ (a : Int) + (wn : Int) := by omega
    have hge1 : (a : Int) ≤ (a : Int) + (wn : Int) := by omega
    have htn : ((a : Int) + (wn : Int)).toNat = a + wn := by omega
    have HSq : Hid (∃ f, Tr.rd (bitsL s) F T0 0 = Tr.rd (bitsL s) (f + 1) T a ∧ (bitsL s).length < a + (f + 1)) := by
     obtain ⟨f, hf1, hf2⟩ := HRD.out
     cases f with
     | zero => rw [bitsL_len] at hf2; omega
     | succ f => exact hid ⟨f, hf1, hf2⟩
    have hS : w1.cell? ⟨g, 0, none⟩ = some (.int .i64 T.k.o) ∧ True := ⟨q0, trivial⟩
    clear hC
    rcases Tr.fin_range T C with h0 | h1 | h2 | h3
    ·have HTo := hid (show (T.goto_ C).k.o = T.k.o by rw [Tr.to_zero h0]; rfl)
     have HTT := hid (show (T.goto_ C).Ok by rw [Tr.to_zero h0]; exact HOK.out.last (by have := HLV.out.n; omega) (by have := HLV.out.n; have := HLV.out.cs; omega))
     go_wp2_with fail
     refine wp_region_noPanic ?_
     refine wp_region_held_drew (S := (fun v => v.cell? ⟨g, 0, none⟩ = some (.int .i64 T.k.o) ∧ True)) (by kernel_rfl) (t1_drew hS) (fun hHeld => ?_)
     refine tk 0 ?_
     refine tk 1 ?_
     refine tk 2 ?_
     refine tk 3 ?_
     refine tk 4 ?_
     refine tk 5 ?_
     refine tk 6 ?_
     refine tk 7 ?_
     refine tk 8 ?_
     refine tk 9 ?_
     refine tk 10 ?_
     refine tk 11 ?_
     refine tk 12 ?_
     refine tk 13 ?_
     refine wpAnyH_ready (rs := [14]) (by kernel_rfl) (by simp) ?_
     refine AllReadyH.cons (o := ?or1_14) ?ir1_14 (fun K hK => ?sr1_14) AllReadyH.nil
     case ir1_14 => (simp only [List.getElem?_toArray, List.getElem?_cons_succ, List.getElem?_cons_zero]; rfl)
     (first | (go_simp; (first | (go_at_call 166; refine (HNm.out _).mono ?_; rintro e w5 ⟨rfl, hb5⟩; have HT5 := hid (HT1.out.drew.on hb5); have r0 := HT5.out.blk.cell 0; simp only [List.getElem?_toArray, List.getElem?_cons_zero] at r0) | (go_at_call 165; refine (HSt.out _ ⟨_, _, _, _, _, HT5.out⟩).mono ?_; rintro e w6 ⟨rfl, hta6, hb6⟩; obtain ⟨A6, c6, vc6, vw6, vd6, hT6⟩ := hta6; have s0 := hT6.blk.cell 0; simp only [List.getElem?_toArray, List.getElem?_cons_zero] at s0) | skip)))
     refine hK.out _ _ ?kr1_14 (fun hHeld => ?_)
     case kr1_14 => (try dsimp only); (first | with_reducible assumption | with_reducible exact ⟨r0, trivial⟩ | with_reducible exact ⟨s0.trans (by rw [HTo.out]), trivial⟩ | exact t1_bel (by assumption) (by assumption) | assumption | exact t1_alloc (by assumption) _ | exact ⟨r0, trivial⟩ | exact ⟨s0.trans (by rw [HTo.out]), trivial⟩)
     clear hK K
     try simp only [Act.put, List.setIfInBounds_toArray, List.set_cons_zero, List.set_cons_succ]
     refine wpAnyH_ready (rs := [15]) (by kernel_rfl) (by simp) ?_
     refine AllReadyH.cons (o := ?or1_15) ?ir1_15 (fun K hK => ?sr1_15) AllReadyH.nil
     case ir1_15 => (simp only [List.getElem?_toArray, List.getElem?_cons_succ, List.getElem?_cons_zero]; rfl)
     (first | (go_simp; (first | (go_at_call 166; refine (HNm.out _).mono ?_; rintro e w5 ⟨rfl, hb5⟩; have HT5 := hid (HT1.out.drew.on hb5); have r0 := HT5.out.blk.cell 0; simp only [List.getElem?_toArray, List.getElem?_cons_zero] at r0) | (go_at_call 165; refine (HSt.out _ ⟨_, _, _, _, _, HT5.out⟩).mono ?_; rintro e w6 ⟨rfl, hta6, hb6⟩; obtain ⟨A6, c6, vc6, vw6, vd6, hT6⟩ := hta6; have s0 := hT6.blk.cell 0; simp only [List.getElem?_toArray, List.getElem?_cons_zero] at s0) | skip)))
     refine hK.out _ _ ?kr1_15 (fun hHeld => ?_)
     case kr1_15 => (try dsimp only); (first | with_reducible assumption | with_reducible exact ⟨r0, trivial⟩ | with_reducible exact ⟨s0.trans (by rw [HTo.out]), trivial⟩ | exact t1_bel (by assumption) (by assumption) | assumption | exact t1_alloc (by assumption) _ | exact ⟨r0, trivial⟩ | exact ⟨s0.trans (by rw [HTo.out]), trivial⟩)
     clear hK K
     try simp only [Act.put, List.setIfInBounds_toArray, List.set_cons_zero, List.set_cons_succ]
     refine tk 16 ?_
     refine wpAnyH_done (by kernel_rfl) ?_ _
     refine NoPanic.normal ?_
     have hB6 : Below B w w6 := (hB1.trans (((bel_drew (Below.refl _ w1)).mono HT1.out.le9).trans (hb5.mono HT1.out.le9))).trans hb6
     have HT6 := hid hT6
     clear hS hHeld hb5 hb6 r0 s0 hT6 q0
     obtain ⟨f, hf1, hf2⟩ := HSq.out
     have HX := hid (hf1.trans (Tr.rd_end (by omega) (by rw [HWn.out, bitsL_len]; omega) (by rw [← HC.out, h0]; decide)))
     clear hf1 hf2
     rw [← HC.out, HWn.out, h0] at HX
     go_wp2
     go_roundw
     case rel => exact ⟨T.goto_ C, a + wn, _, by go_num, rfl, ⟨_, _, _, _, _, HT6.out⟩, HTT.out, by rw [bitsL_len]; exact hfit, hB6, .inr ⟨by decide, HX.out⟩⟩
     case measure => simp [intOf]; omega
    ·have hone := Tr.fin_one h1
     have HTo := hid (show (T.goto_ C).k.o = T.k.o by rw [Tr.to_one h1]; exact Kn.step_o _ _)
     have HTE := hid (Tr.to_one h1)
     have HTT := hid (show (T.goto_ C).Ok by rw [Tr.to_one h1]; exact HOK.out.next h1 (by have := HLV.out.n; omega) (by have := HLV.out.n; have := HLV.out.cs; omega) (by have := HLV.out.ds; omega))
     clear hone
     go_wp2_with fail
     refine wp_region_noPanic ?_
     refine wp_region_held_drew (S := (fun v => v.cell? ⟨g, 0, none⟩ = some (.int .i64 T.k.o) ∧ True)) (by kernel_rfl) (t1_drew hS) (fun hHeld => ?_)
     refine tk 0 ?_
     refine tk 1 ?_
     refine tk 2 ?_
     refine tk 3 ?_
     refine tk 4 ?_
     refine tk 5 ?_
     refine tk 6 ?_
     refine tk 7 ?_
     refine tk 8 ?_
     refine tk 9 ?_
     refine tk 10 ?_
     refine tk 11 ?_
     refine tk 12 ?_
     refine tk 13 ?_
     refine wpAnyH_ready (rs := [14]) (by kernel_rfl) (by simp) ?_
     refine AllReadyH.cons (o := ?or2_14) ?ir2_14 (fun K hK => ?sr2_14) AllReadyH.nil
     case ir2_14 => (simp only [List.getElem?_toArray, List.getElem?_cons_succ, List.getElem?_cons_zero]; rfl)
     (first | (go_simp; (first | (go_at_call 166; refine (HNm.out _).mono ?_; rintro e w5 ⟨rfl, hb5⟩; have HT5 := hid (HT1.out.drew.on hb5); have r0 := HT5.out.blk.cell 0; simp only [List.getElem?_toArray, List.getElem?_cons_zero] at r0) | (go_at_call 165; refine (HSt.out _ ⟨_, _, _, _, _, HT5.out⟩).mono ?_; rintro e w6 ⟨rfl, hta6, hb6⟩; obtain ⟨A6, c6, vc6, vw6, vd6, hT6⟩ := hta6; have s0 := hT6.blk.cell 0; simp only [List.getElem?_toArray, List.getElem?_cons_zero] at s0) | skip)))
     refine hK.out _ _ ?kr2_14 (fun hHeld => ?_)
     case kr2_14 => (try dsimp only); (first | with_reducible assumption | with_reducible exact ⟨r0, trivial⟩ | with_reducible exact ⟨s0.trans (by rw [HTo.out]), trivial⟩ | exact t1_bel (by assumption) (by assumption) | assumption | exact t1_alloc (by assumption) _ | exact ⟨r0, trivial⟩ | exact ⟨s0.trans (by rw [HTo.out]), trivial⟩)
     clear hK K
     try simp only [Act.put, List.setIfInBounds_toArray, List.set_cons_zero, List.set_cons_succ]
     refine wpAnyH_ready (rs := [15]) (by kernel_rfl) (by simp) ?_
     refine AllReadyH.cons (o := ?or2_15) ?ir2_15 (fun K hK => ?sr2_15) AllReadyH.nil
     case ir2_15 => (simp only [List.getElem?_toArray, List.getElem?_cons_succ, List.getElem?_cons_zero]; rfl)
     (first | (go_simp; (first | (go_at_call 166; refine (HNm.out _).mono ?_; rintro e w5 ⟨rfl, hb5⟩; have HT5 := hid (HT1.out.drew.on hb5); have r0 := HT5.out.blk.cell 0; simp only [List.getElem?_toArray, List.getElem?_cons_zero] at r0) | (go_at_call 165; refine (HSt.out _ ⟨_, _, _, _, _, HT5.out⟩).mono ?_; rintro e w6 ⟨rfl, hta6, hb6⟩; obtain ⟨A6, c6, vc6, vw6, vd6, hT6⟩ := hta6; have s0 := hT6.blk.cell 0; simp only [List.getElem?_toArray, List.getElem?_cons_zero] at s0) | skip)))
     refine hK.out _ _ ?kr2_15 (fun hHeld => ?_)
     case kr2_15 => (try dsimp only); (first | with_reducible assumption | with_reducible exact ⟨r0, trivial⟩ | with_reducible exact ⟨s0.trans (by rw [HTo.out]), trivial⟩ | exact t1_bel (by assumption) (by assumption) | assumption | exact t1_alloc (by assumption) _ | exact ⟨r0, trivial⟩ | exact ⟨s0.trans (by rw [HTo.out]), trivial⟩)
     clear hK K
     try simp only [Act.put, List.setIfInBounds_toArray, List.set_cons_zero, List.set_cons_succ]
     refine tk 16 ?_
     refine wpAnyH_done (by kernel_rfl) ?_ _
     refine NoPanic.normal ?_
     have hB6 : Below B w w6 := (hB1.trans (((bel_drew (Below.refl _ w1)).mono HT1.out.le9).trans (hb5.mono HT1.out.le9))).trans hb6
     have HT6 := hid hT6
     clear hS hHeld hb5 hb6 r0 s0 hT6 q0
     obtain ⟨_, _, _, _, _, _, z6, _, _, _, _⟩ := tcells HT6.out.blk
     have hn6 : (T.goto_ C).n = T.n + 1 := by rw [HTE.out]; rfl
     rw [hn6] at z6
     have HL6 := HLV.out.n
     by_cases hm : T.n + 1 = 3100
     ·have em : ((((T.n + 1 : Nat)) : Int) == 3100) = true := eq_yes (by omega)
      obtain ⟨f, hf1, hf2⟩ := HSq.out
      have HX := hid (hf1.trans (Tr.rd_most (by omega) (by rw [HWn.out, bitsL_len]; omega) (by rw [← HC.out]; exact h1) hm))
      clear hf1 hf2 hn6 hm
      rw [← HC.out, HWn.out, ← HTE.out] at HX
      go_wp2
      go_roundw
      case rel => exact ⟨T.goto_ C, a + wn, 3, by go_num, rfl, ⟨_, _, _, _, _, HT6.out⟩, HTT.out, by rw [bitsL_len]; exact hfit, hB6, .inr ⟨by decide, HX.out⟩⟩
      case measure => simp [intOf]; omega
     ·have em : ((((T.n + 1 : Nat)) : Int) == 3100) = false := eq_no (by omega)
      obtain ⟨f, hf1, hf2⟩ := HSq.out
      have HX := hid (show ∃ f, Tr.rd (bitsL s) F T0 0 = Tr.rd (bitsL s) f (T.goto_ C) (a + wn) ∧ (bitsL s).length < (a + wn) + f from ⟨f, by rw [hf1, Tr.rd_next (by rw [HWn.out, bitsL_len]; omega) (by rw [← HC.out]; exact h1) hm, ← HC.out, HWn.out, ← HTE.out]; rfl, by omega⟩)
      have HLv := hid (show (T.goto_ C).Live from ⟨HTT.out, by have := HLV.out.cs; rw [HTE.out]; simp [Tr.next]; omega, by have := HLV.out.ds; rw [HTE.out]; simp [Tr.next]; omega, by omega⟩)
      clear hf1 hf2 hn6 hm
      go_wp2
      go_roundw
      case rel => exact ⟨T.goto_ C, a + wn, 1, by go_num, rfl, ⟨_, _, _, _, _, HT6.out⟩, HTT.out, by rw [bitsL_len]; exact hfit, hB6, .inl ⟨rfl, HX.out, HLv.out⟩⟩
      case measure => simp [intOf]; omega
    ·have HTo := hid (show (T.goto_ C).k.o = T.k.o by rw [Tr.to_no (.inl h2)]; try rfl)
     have HTT := hid (show (T.goto_ C).Ok by rw [Tr.to_no (.inl h2)]; exact HOK.out)
     go_wp2_with fail
     refine wp_region_noPanic ?_
     refine wp_region_held_drew (S := (fun v => v.cell? ⟨g, 0, none⟩ = some (.int .i64 T.k.o) ∧ True)) (by kernel_rfl) (t1_drew hS) (fun hHeld => ?_)
     refine tk 0 ?_
     refine tk 1 ?_
     refine tk 2 ?_
     refine tk 3 ?_
     refine tk 4 ?_
     refine tk 5 ?_
     refine tk 6 ?_
     refine tk 7 ?_
     refine tk 8 ?_
     refine tk 9 ?_
     refine tk 10 ?_
     refine tk 11 ?_
     refine tk 12 ?_
     refine tk 13 ?_
     refine wpAnyH_ready (rs := [14]) (by kernel_rfl) (by simp) ?_
     refine AllReadyH.cons (o := ?or3_14) ?ir3_14 (fun K hK => ?sr3_14) AllReadyH.nil
     case ir3_14 => (simp only [List.getElem?_toArray, List.getElem?_cons_succ, List.getElem?_cons_zero]; rfl)
     (first | (go_simp; (first | (go_at_call 166; refine (HNm.out _).mono ?_; rintro e w5 ⟨rfl, hb5⟩; have HT5 := hid (HT1.out.drew.on hb5); have r0 := HT5.out.blk.cell 0; simp only [List.getElem?_toArray, List.getElem?_cons_zero] at r0) | (go_at_call 165; refine (HSt.out _ ⟨_, _, _, _, _, HT5.out⟩).mono ?_; rintro e w6 ⟨rfl, hta6, hb6⟩; obtain ⟨A6, c6, vc6, vw6, vd6, hT6⟩ := hta6; have s0 := hT6.blk.cell 0; simp only [List.getElem?_toArray, List.getElem?_cons_zero] at s0) | skip)))
     refine hK.out _ _ ?kr3_14 (fun hHeld => ?_)
     case kr3_14 => (try dsimp only); (first | with_reducible assumption | with_reducible exact ⟨r0, trivial⟩ | with_reducible exact ⟨s0.trans (by rw [HTo.out]), trivial⟩ | exact t1_bel (by assumption) (by assumption) | assumption | exact t1_alloc (by assumption) _ | exact ⟨r0, trivial⟩ | exact ⟨s0.trans (by rw [HTo.out]), trivial⟩)
     clear hK K
     try simp only [Act.put, List.setIfInBounds_toArray, List.set_cons_zero, List.set_cons_succ]
     refine wpAnyH_ready (rs := [15]) (by kernel_rfl) (by simp) ?_
     refine AllReadyH.cons (o := ?or3_15) ?ir3_15 (fun K hK => ?sr3_15) AllReadyH.nil
     case ir3_15 => (simp only [List.getElem?_toArray, List.getElem?_cons_succ, List.getElem?_cons_zero]; rfl)
     (first | (go_simp; (first | (go_at_call 166; refine (HNm.out _).mono ?_; rintro e w5 ⟨rfl, hb5⟩; have HT5 := hid (HT1.out.drew.on hb5); have r0 := HT5.out.blk.cell 0; simp only [List.getElem?_toArray, List.getElem?_cons_zero] at r0) | (go_at_call 165; refine (HSt.out _ ⟨_, _, _, _, _, HT5.out⟩).mono ?_; rintro e w6 ⟨rfl, hta6, hb6⟩; obtain ⟨A6, c6, vc6, vw6, vd6, hT6⟩ := hta6; have s0 := hT6.blk.cell 0; simp only [List.getElem?_toArray, List.getElem?_cons_zero] at s0) | skip)))
     refine hK.out _ _ ?kr3_15 (fun hHeld => ?_)
     case kr3_15 => (try dsimp only); (first | with_reducible assumption | with_reducible exact ⟨r0, trivial⟩ | with_reducible exact ⟨s0.trans (by rw [HTo.out]), trivial⟩ | exact t1_bel (by assumption) (by assumption) | assumption | exact t1_alloc (by assumption) _ | exact ⟨r0, trivial⟩ | exact ⟨s0.trans (by rw [HTo.out]), trivial⟩)
     clear hK K
     try simp only [Act.put, List.setIfInBounds_toArray, List.set_cons_zero, List.set_cons_succ]
     refine tk 16 ?_
     refine wpAnyH_done (by kernel_rfl) ?_ _
     refine NoPanic.normal ?_
     have hB6 : Below B w w6 := (hB1.trans (((bel_drew (Below.refl _ w1)).mono HT1.out.le9).trans (hb5.mono HT1.out.le9))).trans hb6
     have HT6 := hid hT6
     clear hS hHeld hb5 hb6 r0 s0 hT6 q0
     obtain ⟨f, hf1, hf2⟩ := HSq.out
     have HX := hid (hf1.trans (Tr.rd_end (by omega) (by rw [HWn.out, bitsL_len]; omega) (by rw [← HC.out, h2]; decide)))
     clear hf1 hf2
     rw [← HC.out, HWn.out, h2] at HX
     go_wp2
     go_roundw
     case rel => exact ⟨T.goto_ C, a + wn, _, by go_num, rfl, ⟨_, _, _, _, _, HT6.out⟩, HTT.out, by rw [bitsL_len]; exact hfit, hB6, .inr ⟨by decide, HX.out⟩⟩
     case measure => simp [intOf]; omega
    ·have HTo := hid (show (T.goto_ C).k.o = T.k.o by rw [Tr.to_no (.inr h3)])
     have HTT := hid (show (T.goto_ C).Ok by rw [Tr.to_no (.inr h3)]; exact HOK.out)
     go_wp2_with fail
     refine wp_region_noPanic ?_
     refine wp_region_held_drew (S := (fun v => v.cell? ⟨g, 0, none⟩ = some (.int .i64 T.k.o) ∧ True)) (by kernel_rfl) (t1_drew hS) (fun hHeld => ?_)
     refine tk 0 ?_
     refine tk 1 ?_
     refine tk 2 ?_
     refine tk 3 ?_
     refine tk 4 ?_
     refine tk 5 ?_
     refine tk 6 ?_
     refine tk 7 ?_
     refine tk 8 ?_
     refine tk 9 ?_
     refine tk 10 ?_
     refine tk 11 ?_
     refine tk 12 ?_
     refine tk 13 ?_
     refine wpAnyH_ready (rs := [14]) (by kernel_rfl) (by simp) ?_
     refine AllReadyH.cons (o := ?or4_14) ?ir4_14 (fun K hK => ?sr4_14) AllReadyH.nil
     case ir4_14 => (simp only [List.getElem?_toArray, List.getElem?_cons_succ, List.getElem?_cons_zero]; rfl)
     (first | (go_simp; (first | (go_at_call 166; refine (HNm.out _).mono ?_; rintro e w5 ⟨rfl, hb5⟩; have HT5 := hid (HT1.out.drew.on hb5); have r0 := HT5.out.blk.cell 0; simp only [List.getElem?_toArray, List.getElem?_cons_zero] at r0) | (go_at_call 165; refine (HSt.out _ ⟨_, _, _, _, _, HT5.out⟩).mono ?_; rintro e w6 ⟨rfl, hta6, hb6⟩; obtain ⟨A6, c6, vc6, vw6, vd6, hT6⟩ := hta6; have s0 := hT6.blk.cell 0; simp only [List.getElem?_toArray, List.getElem?_cons_zero] at s0) | skip)))
     refine hK.out _ _ ?kr4_14 (fun hHeld => ?_)
     case kr4_14 => (try dsimp only); (first | with_reducible assumption | with_reducible exact ⟨r0, trivial⟩ | with_reducible exact ⟨s0.trans (by rw [HTo.out]), trivial⟩ | exact t1_bel (by assumption) (by assumption) | assumption | exact t1_alloc (by assumption) _ | exact ⟨r0, trivial⟩ | exact ⟨s0.trans (by rw [HTo.out]), trivial⟩)
     clear hK K
     try simp only [Act.put, List.setIfInBounds_toArray, List.set_cons_zero, List.set_cons_succ]
     refine wpAnyH_ready (rs := [15]) (by kernel_rfl) (by simp) ?_
     refine AllReadyH.cons (o := ?or4_15) ?ir4_15 (fun K hK => ?sr4_15) AllReadyH.nil
     case ir4_15 => (simp only [List.getElem?_toArray, List.getElem?_cons_succ, List.getElem?_cons_zero]; rfl)
     (first | (go_simp; (first | (go_at_call 166; refine (HNm.out _).mono ?_; rintro e w5 ⟨rfl, hb5⟩; have HT5 := hid (HT1.out.drew.on hb5); have r0 := HT5.out.blk.cell 0; simp only [List.getElem?_toArray, List.getElem?_cons_zero] at r0) | (go_at_call 165; refine (HSt.out _ ⟨_, _, _, _, _, HT5.out⟩).mono ?_; rintro e w6 ⟨rfl, hta6, hb6⟩; obtain ⟨A6, c6, vc6, vw6, vd6, hT6⟩ := hta6; have s0 := hT6.blk.cell 0; simp only [List.getElem?_toArray, List.getElem?_cons_zero] at s0) | skip)))
     refine hK.out _ _ ?kr4_15 (fun hHeld => ?_)
     case kr4_15 => (try dsimp only); (first | with_reducible assumption | with_reducible exact ⟨r0, trivial⟩ | with_reducible exact ⟨s0.trans (by rw [HTo.out]), trivial⟩ | exact t1_bel (by assumption) (by assumption) | assumption | exact t1_alloc (by assumption) _ | exact ⟨r0, trivial⟩ | exact ⟨s0.trans (by rw [HTo.out]), trivial⟩)
     clear hK K
     try simp only [Act.put, List.setIfInBounds_toArray, List.set_cons_zero, List.set_cons_succ]
     refine tk 16 ?_
     refine wpAnyH_done (by kernel_rfl) ?_ _
     refine NoPanic.normal ?_
     have hB6 : Below B w w6 := (hB1.trans (((bel_drew (Below.refl _ w1)).mono HT1.out.le9).trans (hb5.mono HT1.out.le9))).trans hb6
     have HT6 := hid hT6
     clear hS hHeld hb5 hb6 r0 s0 hT6 q0
     obtain ⟨f, hf1, hf2⟩ := HSq.out
     have HX := hid (hf1.trans (Tr.rd_end (by omega) (by rw [HWn.out, bitsL_len]; omega) (by rw [← HC.out, h3]; decide)))
     clear hf1 hf2
     rw [← HC.out, HWn.out, h3] at HX
     go_wp2
     go_roundw
     case rel => exact ⟨T.goto_ C, a + wn, _, by go_num, rfl, ⟨_, _, _, _, _, HT6.out⟩, HTT.out, by rw [bitsL_len]; exact hfit, hB6, .inr ⟨by decide, HX.out⟩⟩
     case measure => simp [intOf]; omega
  ·have e1 : (e == 1) = false := by rw [beq_eq_false_iff_ne]; exact hne
   have HRD := hid hrd
   clear hrd hne hta
   go_wp2
   go_ret2
   exact ⟨T, a, e, HRD.out, by rw [bitsL_len]; exact hal, rfl, HTA.out, HOK.out, HBL.out⟩
end Go.Proofs.YtmlaaammfnboiaaGreatDoor
