/- The contracts of learn in the program. No condition but that the numbers are int's. The contracts of l4Learn in the model, and of LearnKnown in both programs. No condition but that the numbers are int's. The contracts of LearnKnown in both programs. No condition but that the numbers are int's. The contracts of StartWith in both programs. No condition but that the numbers are int's. -/
import Derived.Test.YtmlaaammfnboiaaGreatDoorGm
import Derived.Test.YtmlaaammfnboiaaGreatDoorGc
namespace Go.Proofs.YtmlaaammfnboiaaGreatDoor
section
open Go.ChangeShapes Go.WideShapes Go.ChangeAt Go.RowKit Go.Joins
set_option linter.unusedVariables false

theorem c_learn_no (k : Kn) (A : Option Addr) (cap L : Nat) (w : World) (h : PsAt w L A cap k.ps) (hL : L ≤ w.heap.size) (D : ByteArray) (hs : D.size ≤ maxLen) (hk : ¬ FitsOk k D) (hw : k.Wf) : Calls Tryz.prog 63 #[.agg #[.int .i64 k.o, .int .i64 k.l, .int .i64 k.m, .slice A k.ps.length cap, .int .i64 k.base, .int .i64 k.last], .string D] w fun e w' => e = .returned (.tuple #[.agg #[.int .i64 0, .int .i64 0, .int .i64 0, .slice none 0 0, .int .i64 0, .int .i64 0], .int .i64 0, .bool false]) ∧ Below w.heap.size w w' := by
 have hB0 : Below w.heap.size w ((w.alloc (.cells #[.int .i64 k.o, .int .i64 k.l, .int .i64 k.m, .slice A k.ps.length cap, .int .i64 k.base, .int .i64 k.last] 88)).alloc (.cells #[.int .i64 0, .int .i64 0, .int .i64 0, .slice none 0 0, .int .i64 0, .int .i64 0] 88)) := by exact obB
 have HZ := hid (Blk.top w (.cells #[.int .i64 k.o, .int .i64 k.l, .int .i64 k.m, .slice A k.ps.length cap, .int .i64 k.base, .int .i64 k.last] 88) 88 #[.int .i64 0, .int .i64 0, .int .i64 0, .slice none 0 0, .int .i64 0, .int .i64 0])
 have HKN := hid ((Blk.new w 88 #[.int .i64 k.o, .int .i64 k.l, .int .i64 k.m, .slice A k.ps.length cap, .int .i64 k.base, .int .i64 k.last]).alloc (.cells #[.int .i64 0, .int .i64 0, .int .i64 0, .slice none 0 0, .int .i64 0, .int .i64 0] 88))
 by_cases h1 : k.Ok
 ·have hf : dataFits k.o k.l k.m D = false := by
   cases hq : dataFits k.o k.l k.m D with
   | false => rfl
   | true => exact absurd ⟨h1, hq⟩ hk
  have HV := hid (fun (v : World) (hb : Below w.heap.size w v) => c_KnownValid_yes k A cap L v (h.below hb hL) (Nat.le_trans hL hb.size) h1 hw)
  have HD := hid (fun (v : World) => c_DataFits k.o k.l k.m D v hs)
  simp only [hf] at HD
  clear h hk hw hf h1
  obtain ⟨p0, p1, p2, p3, p4, p5⟩ := HKN.out.cells6
  go_enter Tryz.func63, Tryz.ntmps63
  go_wp2_with fail
  refine (HV.out _ hB0).mono ?_
  rintro e w1 ⟨rfl, hb1⟩
  have HK1 := hid (HKN.out.on hb1)
  clear p0 p1 p2 p3 p4 p5
  obtain ⟨p0, p1, p2, p3, p4, p5⟩ := HK1.out.cells6
  go_wp2_with fail
  refine (HD.out _).mono ?_
  rintro e w2 ⟨rfl, hb2⟩
  have hB2 := bel_trans (bel_trans hB0 hb1) hb2
  have HZ2 := hid ((HZ.out.on hb1).on hb2)
  clear p0 p1 p2 p3 p4 p5
  obtain ⟨p0, p1, p2, p3, p4, p5⟩ := HZ2.out.cells6
  obtain ⟨q0, q1, q2, q3, q4, q5⟩ := HZ2.out.free6
  have HZ3 := hid (HZ2.out.put6 (.int .i64 0) (.int .i64 0) (.int .i64 0) (.slice none 0 0) (.int .i64 0) (.int .i64 0))
  obtain ⟨z0, z1, z2, z3, z4, z5⟩ := HZ3.out.cells6
  go_wp2
  exact bodyPost_ret (v := .tuple #[.agg #[.int .i64 0, .int .i64 0, .int .i64 0, .slice none 0 0, .int .i64 0, .int .i64 0], .int .i64 0, .bool false]) (by simp [results, Tryz.results63, go_sem, z0, z1, z2, z3, z4, z5]) rfl ⟨rfl, bel_put6 hB2 (by omega) _ _ _ _ _ _⟩
 ·have HV := hid (fun (v : World) (hb : Below w.heap.size w v) => c_KnownValid_no k A cap L v (h.below hb hL) (Nat.le_trans hL hb.size) h1 hw)
  clear h hk hw h1
  obtain ⟨p0, p1, p2, p3, p4, p5⟩ := HKN.out.cells6
  go_enter Tryz.func63, Tryz.ntmps63
  go_wp2_with fail
  refine (HV.out _ hB0).mono ?_
  rintro e w1 ⟨rfl, hb1⟩
  have hB2 := bel_trans hB0 hb1
  have HZ2 := hid (HZ.out.on hb1)
  clear p0 p1 p2 p3 p4 p5
  obtain ⟨p0, p1, p2, p3, p4, p5⟩ := HZ2.out.cells6
  obtain ⟨q0, q1, q2, q3, q4, q5⟩ := HZ2.out.free6
  have HZ3 := hid (HZ2.out.put6 (.int .i64 0) (.int .i64 0) (.int .i64 0) (.slice none 0 0) (.int .i64 0) (.int .i64 0))
  obtain ⟨z0, z1, z2, z3, z4, z5⟩ := HZ3.out.cells6
  go_wp2
  exact bodyPost_ret (v := .tuple #[.agg #[.int .i64 0, .int .i64 0, .int .i64 0, .slice none 0 0, .int .i64 0, .int .i64 0], .int .i64 0, .bool false]) (by simp [results, Tryz.results63, go_sem, z0, z1, z2, z3, z4, z5]) rfl ⟨rfl, bel_put6 hB2 (by omega) _ _ _ _ _ _⟩

set_option maxHeartbeats 4000000 in
set_option maxRecDepth 100000 in
theorem c_learn_yes (k : Kn) (A : Option Addr) (cap L : Nat) (w : World) (h : PsAt w L A cap k.ps) (hL : L ≤ w.heap.size) (D : ByteArray) (hk : FitsOk k D) (hw : k.Wf) : Calls Tryz.prog 63 #[.agg #[.int .i64 k.o, .int .i64 k.l, .int .i64 k.m, .slice A k.ps.length cap, .int .i64 k.base, .int .i64 k.last], .string D] w fun e w' => ∃ A' cap' te, e = .returned (.tuple #[.agg #[.int .i64 (k.learned D.data.toList).o, .int .i64 (k.learned D.data.toList).l, .int .i64 (k.learned D.data.toList).m, .slice A' (k.learned D.data.toList).ps.length cap', .int .i64 (k.learned D.data.toList).base, .int .i64 (k.learned D.data.toList).last], .int .i64 te, .bool true]) ∧ w'.ownsRow w.heap.size 175 2 (.slice A' (k.learned D.data.toList).ps.length cap') (k.learned D.data.toList).ps.length (prs (k.learned D.data.toList).ps) ∧ Below w.heap.size w w' := by
 have hB0 : Below w.heap.size w ((w.alloc (.cells #[.int .i64 k.o, .int .i64 k.l, .int .i64 k.m, .slice A k.ps.length cap, .int .i64 k.base, .int .i64 k.last] 88)).alloc (.cells #[.int .i64 0, .int .i64 0, .int .i64 0, .slice none 0 0, .int .i64 0, .int .i64 0] 88)) := by exact obB
 have HZ := hid (Blk.top w (.cells #[.int .i64 k.o, .int .i64 k.l, .int .i64 k.m, .slice A k.ps.length cap, .int .i64 k.base, .int .i64 k.last] 88) 88 #[.int .i64 0, .int .i64 0, .int .i64 0, .slice none 0 0, .int .i64 0, .int .i64 0])
 have HKN := hid ((Blk.new w 88 #[.int .i64 k.o, .int .i64 k.l, .int .i64 k.m, .slice A k.ps.length cap, .int .i64 k.base, .int .i64 k.last]).alloc (.cells #[.int .i64 0, .int .i64 0, .int .i64 0, .slice none 0 0, .int .i64 0, .int .i64 0] 88))
 have HV := hid (fun (v : World) (hb : Below w.heap.size w v) => c_KnownValid_yes k A cap L v (h.below hb hL) (Nat.le_trans hL hb.size) hk.1 hw)
 have hDs := hk.lits.2
 have HD := hid (fun (v : World) => c_DataFits k.o k.l k.m D v (by unfold maxLen; omega))
 simp only [hk.2] at HD
 have HLt := hid hk.lits.1
 have HNF := hid (fun (v : World) (hb : Below w.heap.size w v) => c_newFinder k A cap L v hk.1 (h.below hb hL) (Nat.le_trans hL hb.size))
 have hset := hk.1.set
 have HCl := hid (fun (v : World) => c_ClearCode_yes k.o k.l k.m v hset)
 have HOk := hid hk.1
 have HST := hid (LI.start hk.1 D.data.toList)
 clear h hk hw hset
 obtain ⟨p0, p1, p2, p3, p4, p5⟩ := HKN.out.cells6
 go_enter Tryz.func63, Tryz.ntmps63
 go_wp2_with fail
 refine (HV.out _ hB0).mono ?_
 rintro e w1 ⟨rfl, hb1⟩
 have HK1 := hid (HKN.out.on hb1)
 clear p0 p1 p2 p3 p4 p5
 obtain ⟨p0, p1, p2, p3, p4, p5⟩ := HK1.out.cells6
 go_wp2_with fail
 refine (HD.out _).mono ?_
 rintro e w2 ⟨rfl, hb2⟩
 have hB2 := bel_trans (bel_trans hB0 hb1) hb2
 have HZ2 := hid ((HZ.out.on hb1).on hb2)
 have HK2 := hid (HK1.out.on hb2)
 clear p0 p1 p2 p3 p4 p5 hb1 hb2 hB0 HZ HKN HK1 HV HD
 obtain ⟨p0, p1, p2, p3, p4, p5⟩ := HK2.out.cells6
 go_wp2_with fail
 refine (HNF.out _ hB2).mono ?_
 rintro e w3 ⟨hb3, fb, A3, cap3, nb, cap2, N, Lo, bm, n, rfl, hn3, hF3⟩
 have HF3 := hid (show FAt w.heap.size fb k w3 from ⟨A3, cap3, nb, cap2, N, Lo, bm, n, hn3, hF3.low hB2.size⟩)
 have HZ3 := hid (HZ2.out.on hb3)
 have HK3 := hid (HK2.out.on hb3)
 have hB3 := bel_trans hB2 hb3
 clear p0 p1 p2 p3 p4 p5 hb3 hn3 hF3 hB2 HZ2 HK2 HNF
 obtain ⟨p0, p1, p2, p3, p4, p5⟩ := HK3.out.cells6
 go_wp2_with fail
 refine (HCl.out _).mono ?_
 rintro e w4 ⟨rfl, hb4⟩
 have HF4 := hid (HF3.out.on hb4)
 have HZ4 := hid (HZ3.out.on hb4)
 have hB4 := bel_trans hB3 hb4
 clear p0 p1 p2 p3 p4 p5 hb4 hB3 HZ3 HK3 HF3 HCl
 go_wp2_with fail
 refine (c_ffollow w.heap.size fb k w4 HOk.out hB4.size HF4.out (pow2 k.l) (Or.inl rfl)).mono ?_
 rintro e w5 ⟨rfl, hb5, hc5, hF5⟩
 have HF5 := hid hF5
 have eS : k.step (pow2 k.l) = k.cleared := Kn.step_clear k
 rw [eS] at HF5
 have HZ5 := hid (hc5 _ _ _ HZ4.out (by decide))
 have hB5 := hB4.trans hb5
 clear eS hF5 hc5 hb5 hB4 HZ4 HF4
 go_wp2_with fail
 go_loopw [8, 9] (fun u v wr => ∃ (s f te : Nat) (kk : Kn), u = .int .i64 (te : Int) ∧ v = .int .i64 (s : Int) ∧ s ≤ D.size ∧ te ≤ D.size ∧ Hid (LI k D.data.toList kk s f) ∧ Hid (FAt w.heap.size fb kk wr) ∧ Hid (Blk wr (w.heap.size + 1) 88 #[.int .i64 0, .int .i64 0, .int .i64 0, .slice none 0 0, .int .i64 0, .int .i64 0]) ∧ Below w.heap.size w wr) (fun _ v _ => D.size - (intOf v).toNat)
 case atStart => exact ⟨0, D.data.toList.length, 0, k.cleared, rfl, rfl, by omega, by omega, HST, HF5, HZ5, hB5⟩
 case round =>
  clear HST HF5 HZ5 hB5
  obtain ⟨s, f, te, kk, rfl, rfl, hs, hte, HI, HF, HZ, hbel⟩ := hrel
  have hDl : D.data.toList.length = D.size := len_toList D
  by_cases hlt : s < D.size
  ·skip
   obtain ⟨A5, cp5, hkat⟩ := HF.out.kat
   have HGw := hid (c_grows fb kk A5 cp5 wr HI.out.ok hkat)
   clear hkat
   have hW := hid (HI.out.word HLt.out (by omega))
   obtain ⟨S, hS⟩ : ∃ S, S = D.extract s D.size := ⟨_, rfl⟩
   have HSd := hid (show S.data.toList = D.data.toList.drop s by rw [hS, cut_drop])
   have hSs : S.size = D.size - s := by
    have h1 := congrArg List.length HSd.out
    rw [len_toList, List.length_drop] at h1
    omega
   obtain ⟨g, hg⟩ : ∃ g, g = kk.lng (D.data.toList.drop s) := ⟨_, rfl⟩
   obtain ⟨x, hx⟩ : ∃ x, x = kk.code1 (D.data.toList.drop s) := ⟨_, rfl⟩
   have HLo := hid (fun (v : World) (hF : FAt w.heap.size fb kk v) => c_flongest w.heap.size fb kk S v HI.out.ok hF (by omega) (by omega) (HI.out.first HLt.out (b := S[0]) (by rw [← HSd.out, List.head?_eq_getElem?, dat0 S (by omega)])))
   simp only [HSd.out, ← hg, ← hx] at HLo
   simp only [← hg, ← hx] at hW
   have hg1 : 1 ≤ g := hW.out.2.1
   have hg2 : s + g ≤ D.size := by have := hW.out.2.2.1; omega
   have HFl := hid (fun (v : World) (hLv : w.heap.size ≤ v.heap.size) (hF : FAt w.heap.size fb kk v) => c_ffollow w.heap.size fb kk v HI.out.ok hLv hF x (Or.inr hW.out.1))
   have eS := Kn.step_fol HI.out.ok hW.out.1
   simp only [eS] at HFl
   obtain ⟨f', HI'⟩ : ∃ f', Hid (LI k D.data.toList (kk.after x) (s + g) f') := by
    obtain ⟨f', hf'⟩ := hW.out.2.2.2
    exact ⟨f', hid hf'⟩
   have HSe := hid hS
   have hS2 : D.extract s D.size = S := hS.symm
   clear hg hx hS eS hW hSs
   cases hgr : kk.grows with
   | true =>
    simp only [hgr] at HGw
    clear hgr
    go_wp2_with fail
    refine HGw.out.mono ?_
    rintro e wG ⟨rfl, hbG⟩
    replace HF := hid (HF.out.on hbG)
    replace HZ := hid (HZ.out.on hbG)
    replace hbel := bel_trans hbel hbG
    clear hbG HGw
    go_wp2_with fail
    refine (HLo.out _ HF.out).mono ?_
    rintro e wL ⟨rfl, hbL⟩
    replace HF := hid (HF.out.on hbL)
    replace HZ := hid (HZ.out.on hbL)
    replace hbel := bel_trans hbel hbL
    clear hbL HLo
    go_wp2_with fail
    refine (HFl.out _ hbel.size HF.out).mono ?_
    rintro e wF ⟨rfl, hbF, hcF, hFF⟩
    replace HF := hid hFF
    replace HZ := hid (hcF _ _ _ HZ.out (by decide))
    replace hbel := hbel.trans hbF
    clear hbF hcF hFF HFl
    go_wp2
    go_roundw
    case rel => exact ⟨s + g, f', s + 1, kk.after x, by go_num, by go_num, by omega, by omega, HI', HF, HZ, hbel⟩
    case measure => simp [intOf]; omega
   | false =>
    simp only [hgr] at HGw
    clear hgr
    go_wp2_with fail
    refine HGw.out.mono ?_
    rintro e wG ⟨rfl, hbG⟩
    replace HF := hid (HF.out.on hbG)
    replace HZ := hid (HZ.out.on hbG)
    replace hbel := bel_trans hbel hbG
    clear hbG HGw
    go_wp2_with fail
    refine (HLo.out _ HF.out).mono ?_
    rintro e wL ⟨rfl, hbL⟩
    replace HF := hid (HF.out.on hbL)
    replace HZ := hid (HZ.out.on hbL)
    replace hbel := bel_trans hbel hbL
    clear hbL HLo
    go_wp2_with fail
    refine (HFl.out _ hbel.size HF.out).mono ?_
    rintro e wF ⟨rfl, hbF, hcF, hFF⟩
    replace HF := hid hFF
    replace HZ := hid (hcF _ _ _ HZ.out (by decide))
    replace hbel := hbel.trans hbF
    clear hbF hcF hFF HFl
    go_wp2
    go_roundw
    case rel => exact ⟨s + g, f', te, kk.after x, by go_num, by go_num, by omega, by omega, HI', HF, HZ, hbel⟩
    case measure => simp [intOf]; omega
  ·skip
   have hE := HI.out.done (by omega)
   have HE := hid hE
   obtain ⟨A5, cp5, nb5, cq5, N5, Lo5, bm5, n5, hn5, hQ5⟩ := HF.out
   have HQ := hid hQ5
   obtain ⟨u0, u1, u2, u3, u4, u5, u6, u7⟩ := hQ5.bx.cells8
   have g4 := hQ5.bx.frozen 4
   have HB1 := hid (hQ5.bx.set_ 4 (.int .i64 (kk.ps.length : Int)))
   have HR1 := hid (own_store_blk hQ5.row hQ5.bx (by decide) 4 (.int .i64 (kk.ps.length : Int)))
   have g5 := HB1.out.frozen 5
   have HB2 := hid (HB1.out.set_ 5 (.int .i64 (-1)))
   have HR2 := hid (own_store_blk HR1.out HB1.out (by decide) 5 (.int .i64 (-1)))
   have HZ2 := hid ((HZ.out.far 4 (.int .i64 (kk.ps.length : Int)) (HZ.out.ne_type hQ5.bx (by decide))).far 5 (.int .i64 (-1)) ((HZ.out.far 4 (.int .i64 (kk.ps.length : Int)) (HZ.out.ne_type hQ5.bx (by decide))).ne_type HB1.out (by decide)))
   have hb2 := (hbel.setCell (p := ⟨fb, 4, none⟩) hQ5.lb (.int .i64 (kk.ps.length : Int))).setCell (p := ⟨fb, 5, none⟩) hQ5.lb (.int .i64 (-1))
   have v0 : ((wr.setCell ⟨fb, 4, none⟩ (.int .i64 (kk.ps.length : Int))).setCell ⟨fb, 5, none⟩ (.int .i64 (-1))).cell? ⟨fb, 0, none⟩ = some (.int .i64 kk.o) := HB2.out.cell 0
   have v1 : ((wr.setCell ⟨fb, 4, none⟩ (.int .i64 (kk.ps.length : Int))).setCell ⟨fb, 5, none⟩ (.int .i64 (-1))).cell? ⟨fb, 1, none⟩ = some (.int .i64 kk.l) := HB2.out.cell 1
   have v2 : ((wr.setCell ⟨fb, 4, none⟩ (.int .i64 (kk.ps.length : Int))).setCell ⟨fb, 5, none⟩ (.int .i64 (-1))).cell? ⟨fb, 2, none⟩ = some (.int .i64 kk.m) := HB2.out.cell 2
   have v3 : ((wr.setCell ⟨fb, 4, none⟩ (.int .i64 (kk.ps.length : Int))).setCell ⟨fb, 5, none⟩ (.int .i64 (-1))).cell? ⟨fb, 3, none⟩ = some (.slice A5 kk.ps.length cp5) := HB2.out.cell 3
   have v4 : ((wr.setCell ⟨fb, 4, none⟩ (.int .i64 (kk.ps.length : Int))).setCell ⟨fb, 5, none⟩ (.int .i64 (-1))).cell? ⟨fb, 4, none⟩ = some (.int .i64 (kk.ps.length : Int)) := HB2.out.cell 4
   have v5 : ((wr.setCell ⟨fb, 4, none⟩ (.int .i64 (kk.ps.length : Int))).setCell ⟨fb, 5, none⟩ (.int .i64 (-1))).cell? ⟨fb, 5, none⟩ = some (.int .i64 (-1)) := HB2.out.cell 5
   have w5' : (wr.setCell ⟨fb, 4, none⟩ (.int .i64 (kk.ps.length : Int))).cell? ⟨fb, 5, none⟩ = some (.int .i64 kk.last) := HB1.out.cell 5
   obtain ⟨p0, p1, p2, p3, p4, p5⟩ := HZ2.out.cells6
   obtain ⟨q0, q1, q2, q3, q4, q5⟩ := HZ2.out.free6
   have HZ3 := hid (HZ2.out.put6 (.int .i64 kk.o) (.int .i64 kk.l) (.int .i64 kk.m) (.slice A5 kk.ps.length cp5) (.int .i64 (kk.ps.length : Int)) (.int .i64 (-1)))
   have HR3 := hid (own_put6 HR2.out HZ2.out (by decide) (.int .i64 kk.o) (.int .i64 kk.l) (.int .i64 kk.m) (.slice A5 kk.ps.length cp5) (.int .i64 (kk.ps.length : Int)) (.int .i64 (-1)))
   obtain ⟨z0, z1, z2, z3, z4, z5⟩ := HZ3.out.cells6
   clear hQ5 hE
   go_wp2
   exact bodyPost_ret (v := .tuple #[.agg #[.int .i64 kk.o, .int .i64 kk.l, .int .i64 kk.m, .slice A5 kk.ps.length cp5, .int .i64 (kk.ps.length : Int), .int .i64 (-1)], .int .i64 (te : Int), .bool true]) (by simp [results, Tryz.results63, go_sem, z0, z1, z2, z3, z4, z5]) rfl ⟨A5, cp5, (te : Int), by rw [HE.out]; rfl, by rw [HE.out]; exact HR3.out, bel_put6 hb2 (by omega) _ _ _ _ _ _⟩
end

section
open Go.ChangeShapes Go.WideShapes Go.ChangeAt Go.RowKit Go.Joins
set_option linter.unusedVariables false

set_option maxHeartbeats 4000000 in
set_option maxRecDepth 100000 in
theorem c_l4Learn (k : Kn) (A : Option Addr) (cap L : Nat) (w : World) (h : PsAt w L A cap k.ps) (hL : L ≤ w.heap.size) (D : ByteArray) (hk : FitsOk k D) : Calls Tryz.prog 112 #[.agg #[.int .i64 k.o, .int .i64 k.l, .int .i64 k.m, .slice A k.ps.length cap, .int .i64 k.base, .int .i64 k.last], .string D] w fun e w' => ∃ A' cap', e = .returned (.agg #[.int .i64 (k.learned D.data.toList).o, .int .i64 (k.learned D.data.toList).l, .int .i64 (k.learned D.data.toList).m, .slice A' (k.learned D.data.toList).ps.length cap', .int .i64 (k.learned D.data.toList).base, .int .i64 (k.learned D.data.toList).last]) ∧ w'.ownsRow w.heap.size 175 2 (.slice A' (k.learned D.data.toList).ps.length cap') (k.learned D.data.toList).ps.length (prs (k.learned D.data.toList).ps) ∧ Below w.heap.size w w' := by
 have hB0 : Below w.heap.size w ((w.alloc (.cells #[.int .i64 k.o, .int .i64 k.l, .int .i64 k.m, .slice A k.ps.length cap, .int .i64 k.base, .int .i64 k.last] 88)).alloc (.cells #[.int .i64 0, .int .i64 0, .int .i64 0, .slice none 0 0, .int .i64 0, .int .i64 0] 88)) := by exact obB
 have HZ := hid (Blk.top w (.cells #[.int .i64 k.o, .int .i64 k.l, .int .i64 k.m, .slice A k.ps.length cap, .int .i64 k.base, .int .i64 k.last] 88) 88 #[.int .i64 0, .int .i64 0, .int .i64 0, .slice none 0 0, .int .i64 0, .int .i64 0])
 have HKN := hid ((Blk.new w 88 #[.int .i64 k.o, .int .i64 k.l, .int .i64 k.m, .slice A k.ps.length cap, .int .i64 k.base, .int .i64 k.last]).alloc (.cells #[.int .i64 0, .int .i64 0, .int .i64 0, .slice none 0 0, .int .i64 0, .int .i64 0] 88))
 have HCd := hid (fun (v : World) (hb : Below w.heap.size w v) => c_l2Cleared k A cap L v (h.below hb hL) (Nat.le_trans hL hb.size) hk.1)
 have hDs := hk.lits.2
 have HLt := hid hk.lits.1
 have HST := hid (LI.start hk.1 D.data.toList)
 clear h hk
 obtain ⟨p0, p1, p2, p3, p4, p5⟩ := HKN.out.cells6
 go_enter Tryz.func112, Tryz.ntmps112
 go_wp2_with fail
 refine (HCd.out _ hB0).mono ?_
 rintro e w3 ⟨A3, cap3, rfl, hown3, hb3⟩
 have HK3 := hid (HKN.out.on hb3)
 have HZ3 := hid (HZ.out.on hb3)
 have HP3 := hid (own_mono hown3 hB0.size)
 have B3 := bel_trans hB0 hb3
 clear hown3 hb3 hB0 HZ HKN HCd p0 p1 p2 p3 p4 p5
 obtain ⟨q0, q1, q2, q3, q4, q5⟩ := HK3.out.free6
 obtain ⟨p0, p1, p2, p3, p4, p5⟩ := HK3.out.cells6
 have HK4 := hid (show Blk ((((((w3.setCell ⟨w.heap.size, 0, none⟩ (.int .i64 k.cleared.o)).setCell ⟨w.heap.size, 1, none⟩ (.int .i64 k.cleared.l)).setCell ⟨w.heap.size, 2, none⟩ (.int .i64 k.cleared.m)).setCell ⟨w.heap.size, 3, none⟩ (.slice A3 k.cleared.ps.length cap3)).setCell ⟨w.heap.size, 4, none⟩ (.int .i64 k.cleared.base)).setCell ⟨w.heap.size, 5, none⟩ (.int .i64 k.cleared.last)) w.heap.size 88 #[.int .i64 k.cleared.o, .int .i64 k.cleared.l, .int .i64 k.cleared.m, .slice A3 k.cleared.ps.length cap3, .int .i64 k.cleared.base, .int .i64 k.cleared.last] from HK3.out.put6 _ _ _ _ _ _)
 have HP4 := hid (show ((((((w3.setCell ⟨w.heap.size, 0, none⟩ (.int .i64 k.cleared.o)).setCell ⟨w.heap.size, 1, none⟩ (.int .i64 k.cleared.l)).setCell ⟨w.heap.size, 2, none⟩ (.int .i64 k.cleared.m)).setCell ⟨w.heap.size, 3, none⟩ (.slice A3 k.cleared.ps.length cap3)).setCell ⟨w.heap.size, 4, none⟩ (.int .i64 k.cleared.base)).setCell ⟨w.heap.size, 5, none⟩ (.int .i64 k.cleared.last)).ownsRow w.heap.size 175 2 (.slice A3 k.cleared.ps.length cap3) k.cleared.ps.length (prs k.cleared.ps) from own_put6 HP3.out HK3.out (by decide) _ _ _ _ _ _)
 have HZ4 := hid (show Blk ((((((w3.setCell ⟨w.heap.size, 0, none⟩ (.int .i64 k.cleared.o)).setCell ⟨w.heap.size, 1, none⟩ (.int .i64 k.cleared.l)).setCell ⟨w.heap.size, 2, none⟩ (.int .i64 k.cleared.m)).setCell ⟨w.heap.size, 3, none⟩ (.slice A3 k.cleared.ps.length cap3)).setCell ⟨w.heap.size, 4, none⟩ (.int .i64 k.cleared.base)).setCell ⟨w.heap.size, 5, none⟩ (.int .i64 k.cleared.last)) (w.heap.size + 1) 88 #[.int .i64 0, .int .i64 0, .int .i64 0, .slice none 0 0, .int .i64 0, .int .i64 0] from ((((((HZ3.out.far 0 _ (by omega)).far 1 _ (by omega)).far 2 _ (by omega)).far 3 _ (by omega)).far 4 _ (by omega)).far 5 _ (by omega)))
 have B4 : Below w.heap.size w ((((((w3.setCell ⟨w.heap.size, 0, none⟩ (.int .i64 k.cleared.o)).setCell ⟨w.heap.size, 1, none⟩ (.int .i64 k.cleared.l)).setCell ⟨w.heap.size, 2, none⟩ (.int .i64 k.cleared.m)).setCell ⟨w.heap.size, 3, none⟩ (.slice A3 k.cleared.ps.length cap3)).setCell ⟨w.heap.size, 4, none⟩ (.int .i64 k.cleared.base)).setCell ⟨w.heap.size, 5, none⟩ (.int .i64 k.cleared.last)) := bel_put6 B3 (Nat.le_refl _) _ _ _ _ _ _
 clear HK3 HZ3 HP3 B3
 go_wp2_with fail
 go_loopw [1] (fun v wr => ∃ (s f : Nat) (S : ByteArray) (kk : Kn) (A5 : Option Addr) (cp5 : Nat), v = .string S ∧ S.size = D.size - s ∧ s ≤ D.size ∧ Hid (S.data.toList = D.data.toList.drop s) ∧ Hid (LI k D.data.toList kk s f) ∧ Hid (Blk wr w.heap.size 88 #[.int .i64 kk.o, .int .i64 kk.l, .int .i64 kk.m, .slice A5 kk.ps.length cp5, .int .i64 kk.base, .int .i64 kk.last]) ∧ Hid (wr.ownsRow w.heap.size 175 2 (.slice A5 kk.ps.length cp5) kk.ps.length (prs kk.ps)) ∧ Hid (Blk wr (w.heap.size + 1) 88 #[.int .i64 0, .int .i64 0, .int .i64 0, .slice none 0 0, .int .i64 0, .int .i64 0]) ∧ Below w.heap.size w wr) (fun v _ => slen v)
 case atStart => exact ⟨0, D.data.toList.length, D, k.cleared, A3, cap3, rfl, by omega, by omega, hid (by simp), HST, HK4, HP4, HZ4, B4⟩
 case round =>
  clear HK4 HP4 HZ4 B4 HST q0 q1 q2 q3 q4 q5 p0 p1 p2 p3 p4 p5
  obtain ⟨s, f, S, kk, A5, cp5, rfl, hSs, hsD, HSd, HI, HK, HP, HZ, hbel⟩ := hrel
  have hDl : D.data.toList.length = D.size := len_toList D
  obtain ⟨p0, p1, p2, p3, p4, p5⟩ := HK.out.cells6
  have hkl := HI.out.ok.len
  by_cases h0 : S.size = 0
  ·have e := empty_of h0
   subst e
   have HE := hid (HI.out.done (by omega))
   obtain ⟨q0, q1, q2, q3, q4, q5⟩ := HZ.out.free6
   obtain ⟨u0, u1, u2, u3, u4, u5⟩ := HZ.out.cells6
   have HZ5 := hid (HZ.out.put6 (.int .i64 kk.o) (.int .i64 kk.l) (.int .i64 kk.m) (.slice A5 kk.ps.length cp5) (.int .i64 (kk.ps.length : Int)) (.int .i64 (-1)))
   have HR5 := hid (own_put6 HP.out HZ.out (by decide) (.int .i64 kk.o) (.int .i64 kk.l) (.int .i64 kk.m) (.slice A5 kk.ps.length cp5) (.int .i64 (kk.ps.length : Int)) (.int .i64 (-1)))
   obtain ⟨z0, z1, z2, z3, z4, z5⟩ := HZ5.out.cells6
   go_wp2
   exact bodyPost_ret (v := .agg #[.int .i64 kk.o, .int .i64 kk.l, .int .i64 kk.m, .slice A5 kk.ps.length cp5, .int .i64 (kk.ps.length : Int), .int .i64 (-1)]) (by simp [results, Tryz.results112, go_sem, z0, z1, z2, z3, z4, z5]) rfl ⟨A5, cp5, by rw [HE.out]; rfl, by rw [HE.out]; exact HR5.out, bel_put6 hbel (by omega) _ _ _ _ _ _⟩
  ·skip
   have hW := hid (HI.out.word HLt.out (by omega))
   have he := not_empty (D := S) (by omega)
   obtain ⟨g, hg⟩ : ∃ g, g = kk.lng (D.data.toList.drop s) := ⟨_, rfl⟩
   obtain ⟨x, hx⟩ : ∃ x, x = kk.code1 (D.data.toList.drop s) := ⟨_, rfl⟩
   obtain ⟨T, hT⟩ : ∃ T, T = str ((D.data.toList.drop s).take g) := ⟨_, rfl⟩
   have hxt : kk.find T.data.toList = x := by rw [hT, str_list, hx, hg]; rfl
   simp only [← hg, ← hx] at hW
   have hTs : T.size = g := by rw [hT, str_size, List.length_take, List.length_drop]; have := hW.out.2.2.1; omega
   have hg1 : 1 ≤ g := hW.out.2.1
   have hg2 : g ≤ S.size := by have := hW.out.2.2.1; omega
   have hgi : (T.size : Int) = (g : Int) := by omega
   have HLo := hid (fun (v : World) (hP : v.ownsRow w.heap.size 175 2 (.slice A5 kk.ps.length cp5) kk.ps.length (prs kk.ps)) => c_l2Longest kk A5 cp5 v.heap.size S v HI.out.ok (own_ps_at hP) (Nat.le_refl _) (by omega) (by omega) (HI.out.first HLt.out (b := S[0]) (by rw [← HSd.out, List.head?_eq_getElem?, dat0 S (by omega)])))
   simp only [HSd.out, ← hg, ← hT] at HLo
   have HFi := hid (fun (v : World) (hP : v.ownsRow w.heap.size 175 2 (.slice A5 kk.ps.length cp5) kk.ps.length (prs kk.ps)) => c_l2Find kk A5 cp5 v.heap.size T v HI.out.ok (own_ps_at hP) (Nat.le_refl _) (by omega))
   simp only [hxt] at HFi
   have HAf := hid (fun (v : World) (hP : v.ownsRow w.heap.size 175 2 (.slice A5 kk.ps.length cp5) kk.ps.length (prs kk.ps)) => c_l2After kk A5 cp5 v.heap.size v (own_ps_at hP) (Nat.le_refl _) HI.out.ok x hW.out.1)
   obtain ⟨f', HI'⟩ : ∃ f', Hid (LI k D.data.toList (kk.after x) (s + g) f') := by
    obtain ⟨f', hf'⟩ := hW.out.2.2.2
    exact ⟨f', hid hf'⟩
   have HSd' := hid (show (S.extract g S.size).data.toList = D.data.toList.drop (s + g) by rw [cut_drop, HSd.out, List.drop_drop])
   have HSs := hid hSs
   have hS3 : S.size ≤ 2000 := by omega
   have hsg : s + g ≤ D.size := by omega
   clear hg hx hT hxt hW hSs hsD
   go_wp2_with fail
   refine (HLo.out _ HP.out).mono ?_
   rintro e wL ⟨rfl, hbL⟩
   replace HK := hid (HK.out.on hbL)
   replace HP := hid (own_on HP.out hbL)
   replace HZ := hid (HZ.out.on hbL)
   replace hbel := bel_trans hbel hbL
   clear hbL p0 p1 p2 p3 p4 p5 HLo
   have hS : wL.cell? ⟨w.heap.size, 0, none⟩ = some (.int .i64 kk.o) ∧ wL.cell? ⟨w.heap.size, 1, none⟩ = some (.int .i64 kk.l) ∧ wL.cell? ⟨w.heap.size, 2, none⟩ = some (.int .i64 kk.m) ∧ wL.cell? ⟨w.heap.size, 3, none⟩ = some (.slice A5 kk.ps.length cp5) ∧ wL.cell? ⟨w.heap.size, 4, none⟩ = some (.int .i64 kk.base) ∧ wL.cell? ⟨w.heap.size, 5, none⟩ = some (.int .i64 kk.last) ∧ True := ⟨HK.out.cell 0, HK.out.cell 1, HK.out.cell 2, HK.out.cell 3, HK.out.cell 4, HK.out.cell 5, trivial⟩
   go_wp2_with fail
   replace HK := hid (HK.out.on (bel_drew (Below.refl _ _)))
   replace HP := hid (own_on HP.out (bel_drew (Below.refl _ _)))
   replace HZ := hid (HZ.out.on (bel_drew (Below.refl _ _)))
   replace hbel := bel_drew hbel
   refine wp_region_noPanic ?_
   refine zb (T := (fun v => v.cell? ⟨w.heap.size, 0, none⟩ = some (.int .i64 kk.o) ∧ v.cell? ⟨w.heap.size, 1, none⟩ = some (.int .i64 kk.l) ∧ v.cell? ⟨w.heap.size, 2, none⟩ = some (.int .i64 kk.m) ∧ v.cell? ⟨w.heap.size, 3, none⟩ = some (.slice A5 kk.ps.length cp5) ∧ v.cell? ⟨w.heap.size, 4, none⟩ = some (.int .i64 kk.base) ∧ v.cell? ⟨w.heap.size, 5, none⟩ = some (.int .i64 kk.last) ∧ True)) 5 (by kernel_rfl) (t6_drew hS) (fun hHeld => ?_)
   refine zk 0 ?_
   refine zk 1 ?_
   refine zk 2 ?_
   refine zr (rs := [3]) ?_
   refine AllUp.cons (o := ?oz1_3) ?iz1_3 (fun K hK => ?sz1_3) AllUp.nil
   case iz1_3 => (simp only [List.getElem?_toArray, List.getElem?_cons_succ, List.getElem?_cons_zero]; rfl)
   (go_simp; (go_at_call 148; refine (HFi.out _ HP.out).mono ?_; rintro e wF ⟨rfl, hbF⟩; replace HK := hid (HK.out.on hbF); replace HP := hid (own_on HP.out hbF); replace HZ := hid (HZ.out.on hbF); replace hbel := bel_trans hbel hbF; clear hbF))
   refine hK.out _ _ (fun _ => ?kz1_3) (fun hHeld0 => ?_)
   case kz1_3 => (try dsimp only); (first | with_reducible assumption | with_reducible exact ⟨HK.out.cell 0, HK.out.cell 1, HK.out.cell 2, HK.out.cell 3, HK.out.cell 4, HK.out.cell 5, trivial⟩ | exact t6_bel (by assumption) (by assumption) | assumption | exact t6_alloc (by assumption) _ | exact ⟨HK.out.cell 0, HK.out.cell 1, HK.out.cell 2, HK.out.cell 3, HK.out.cell 4, HK.out.cell 5, trivial⟩)
   (try clear hHeld)
   have hHeld := hHeld0 (by decide)
   clear hHeld0 hK K
   try simp only [Act.put, List.setIfInBounds_toArray, List.set_cons_zero, List.set_cons_succ]
   refine zr (rs := [4]) ?_
   refine AllUp.cons (o := ?oz1_4) ?iz1_4 (fun K hK => ?sz1_4) AllUp.nil
   case iz1_4 => (simp only [List.getElem?_toArray, List.getElem?_cons_succ, List.getElem?_cons_zero]; rfl)
   (go_simp; (go_at_call 147; refine (HAf.out _ HP.out).mono ?_; rintro e wA ⟨A6, cp6, rfl, hownA, hbA⟩; replace HP := hid (own_mono hownA hbel.size); replace HK := hid (HK.out.on hbA); replace HZ := hid (HZ.out.on hbA); replace hbel := bel_trans hbel hbA; clear hbA hownA; obtain ⟨p0, p1, p2, p3, p4, p5⟩ := HK.out.cells6; obtain ⟨q0, q1, q2, q3, q4, q5⟩ := HK.out.free6))
   refine hK.out _ _ (fun _ => ?kz1_4) (fun hHeld0 => ?_)
   case kz1_4 => (try dsimp only); (first | with_reducible assumption | with_reducible exact ⟨HK.out.cell 0, HK.out.cell 1, HK.out.cell 2, HK.out.cell 3, HK.out.cell 4, HK.out.cell 5, trivial⟩ | exact t6_bel (by assumption) (by assumption) | assumption | exact t6_alloc (by assumption) _ | exact ⟨HK.out.cell 0, HK.out.cell 1, HK.out.cell 2, HK.out.cell 3, HK.out.cell 4, HK.out.cell 5, trivial⟩)
   (try clear hHeld)
   have hHeld := hHeld0 (by decide)
   clear hHeld0 hK K
   try simp only [Act.put, List.setIfInBounds_toArray, List.set_cons_zero, List.set_cons_succ]
   refine zr (rs := [5]) ?_
   refine AllUp.cons (o := ?oz1_5) ?iz1_5 (fun K hK => ?sz1_5) AllUp.nil
   case iz1_5 => (simp only [List.getElem?_toArray, List.getElem?_cons_succ, List.getElem?_cons_zero]; rfl)
   (go_simp; (replace hbel := bel_put6 hbel (Nat.le_refl w.heap.size) (.int .i64 kk.o) (.int .i64 kk.l) (.int .i64 kk.m) (.slice A6 (kk.after x).ps.length cp6) (.int .i64 kk.base) (.int .i64 x); replace HP := hid (own_put6 HP.out HK.out (by decide) (.int .i64 kk.o) (.int .i64 kk.l) (.int .i64 kk.m) (.slice A6 (kk.after x).ps.length cp6) (.int .i64 kk.base) (.int .i64 x)); replace HZ := hid ((((((HZ.out.far 0 (.int .i64 kk.o) (show w.heap.size + 1 ≠ w.heap.size by omega)).far 1 (.int .i64 kk.l) (show w.heap.size + 1 ≠ w.heap.size by omega)).far 2 (.int .i64 kk.m) (show w.heap.size + 1 ≠ w.heap.size by omega)).far 3 (.slice A6 (kk.after x).ps.length cp6) (show w.heap.size + 1 ≠ w.heap.size by omega)).far 4 (.int .i64 kk.base) (show w.heap.size + 1 ≠ w.heap.size by omega)).far 5 (.int .i64 x) (show w.heap.size + 1 ≠ w.heap.size by omega)); replace HK := hid (HK.out.put6 (.int .i64 kk.o) (.int .i64 kk.l) (.int .i64 kk.m) (.slice A6 (kk.after x).ps.length cp6) (.int .i64 kk.base) (.int .i64 x)); clear p0 p1 p2 p3 p4 p5 q0 q1 q2 q3 q4 q5))
   refine hK.out _ _ (fun h => absurd rfl h) (fun _ => ?_)
   (try clear hHeld)
   clear hK K
   try simp only [Act.put, List.setIfInBounds_toArray, List.set_cons_zero, List.set_cons_succ]
   refine zd (by kernel_rfl) ?_ _
   refine NoPanic.normal ?_
   all_goals
    go_wp2
    go_roundw
    case rel => exact ⟨s + g, f', S.extract g S.size, kk.after x, A6, cp6, rfl, by have := HSs.out; simp; omega, hsg, HSd', HI', HK, HP, HZ, hbel⟩
    case measure =>
     have h2 := HSs.out
     simp [slen]
     omega
end

section
open Go.ChangeShapes Go.WideShapes Go.ChangeAt Go.RowKit Go.Joins
set_option linter.unusedVariables false

theorem c_sLearnKnown_yes (k : Kn) (A : Option Addr) (cap L : Nat) (w : World) (h : PsAt w L A cap k.ps) (hL : L ≤ w.heap.size) (D : ByteArray) (hk : FitsOk k D) (hw : k.Wf) : Calls Tryz.prog 77 #[.agg #[.int .i64 k.o, .int .i64 k.l, .int .i64 k.m, .slice A k.ps.length cap, .int .i64 k.base, .int .i64 k.last], .string D] w fun e w' => ∃ A' cap', e = .returned (.tuple #[.agg #[.int .i64 (k.learned D.data.toList).o, .int .i64 (k.learned D.data.toList).l, .int .i64 (k.learned D.data.toList).m, .slice A' (k.learned D.data.toList).ps.length cap', .int .i64 (k.learned D.data.toList).base, .int .i64 (k.learned D.data.toList).last], .bool true]) ∧ w'.ownsRow w.heap.size 175 2 (.slice A' (k.learned D.data.toList).ps.length cap') (k.learned D.data.toList).ps.length (prs (k.learned D.data.toList).ps) ∧ Below w.heap.size w w' := by
 have hB0 : Below w.heap.size w ((w.alloc (.cells #[.int .i64 k.o, .int .i64 k.l, .int .i64 k.m, .slice A k.ps.length cap, .int .i64 k.base, .int .i64 k.last] 88)).alloc (.cells #[.int .i64 0, .int .i64 0, .int .i64 0, .slice none 0 0, .int .i64 0, .int .i64 0] 88)) := by exact obB
 have HZ := hid (Blk.top w (.cells #[.int .i64 k.o, .int .i64 k.l, .int .i64 k.m, .slice A k.ps.length cap, .int .i64 k.base, .int .i64 k.last] 88) 88 #[.int .i64 0, .int .i64 0, .int .i64 0, .slice none 0 0, .int .i64 0, .int .i64 0])
 have HKN := hid ((Blk.new w 88 #[.int .i64 k.o, .int .i64 k.l, .int .i64 k.m, .slice A k.ps.length cap, .int .i64 k.base, .int .i64 k.last]).alloc (.cells #[.int .i64 0, .int .i64 0, .int .i64 0, .slice none 0 0, .int .i64 0, .int .i64 0] 88))
 have HV := hid (fun (v : World) (hb : Below w.heap.size w v) => c_sKnownValid_yes k A cap L v (h.below hb hL) (Nat.le_trans hL hb.size) hk.1 hw)
 have HD := hid (fun (v : World) => c_sDataFits k.o k.l k.m D v (by have := hk.lits.2; unfold maxLen; omega))
 simp only [hk.2] at HD
 have HLn := hid (fun (v : World) (hb : Below w.heap.size w v) => c_l4Learn k A cap L v (h.below hb hL) (Nat.le_trans hL hb.size) D hk)
 obtain ⟨R, hR⟩ : ∃ R, R = k.learned D.data.toList := ⟨_, rfl⟩
 simp only [← hR] at HLn ⊢
 clear h hk hw hR
 obtain ⟨p0, p1, p2, p3, p4, p5⟩ := HKN.out.cells6
 go_enter Tryz.func77, Tryz.ntmps77
 go_wp2_with fail
 refine (HV.out _ hB0).mono ?_
 rintro e w1 ⟨rfl, hb1⟩
 have HK1 := hid (HKN.out.on hb1)
 clear p0 p1 p2 p3 p4 p5
 obtain ⟨p0, p1, p2, p3, p4, p5⟩ := HK1.out.cells6
 go_wp2_with fail
 refine (HD.out _).mono ?_
 rintro e w2 ⟨rfl, hb2⟩
 have hB2 := bel_trans (bel_trans hB0 hb1) hb2
 have HZ2 := hid ((HZ.out.on hb1).on hb2)
 have HK2 := hid (HK1.out.on hb2)
 clear p0 p1 p2 p3 p4 p5
 obtain ⟨p0, p1, p2, p3, p4, p5⟩ := HK2.out.cells6
 go_wp2_with fail
 refine (HLn.out _ hB2).mono ?_
 rintro e w3 ⟨A', cap', rfl, hown, hb3⟩
 have hB3 := bel_trans hB2 hb3
 have HO := hid (own_mono hown hB2.size)
 have HZ3 := hid (HZ2.out.on hb3)
 clear p0 p1 p2 p3 p4 p5 hown
 obtain ⟨p0, p1, p2, p3, p4, p5⟩ := HZ3.out.cells6
 obtain ⟨q0, q1, q2, q3, q4, q5⟩ := HZ3.out.free6
 have HZ4 := hid (HZ3.out.put6 (.int .i64 R.o) (.int .i64 R.l) (.int .i64 R.m) (.slice A' R.ps.length cap') (.int .i64 R.base) (.int .i64 R.last))
 have HO4 := hid (own_put6 HO.out HZ3.out (by decide) (.int .i64 R.o) (.int .i64 R.l) (.int .i64 R.m) (.slice A' R.ps.length cap') (.int .i64 R.base) (.int .i64 R.last))
 obtain ⟨z0, z1, z2, z3, z4, z5⟩ := HZ4.out.cells6
 go_wp2
 exact bodyPost_ret (v := .tuple #[.agg #[.int .i64 R.o, .int .i64 R.l, .int .i64 R.m, .slice A' R.ps.length cap', .int .i64 R.base, .int .i64 R.last], .bool true]) (by simp [results, Tryz.results77, go_sem, z0, z1, z2, z3, z4, z5]) rfl ⟨A', cap', rfl, HO4.out, bel_put6 hB3 (by omega) _ _ _ _ _ _⟩
end

section
open Go.ChangeShapes Go.WideShapes Go.ChangeAt Go.RowKit Go.Joins
set_option linter.unusedVariables false

/-- what is known at first -/
def begun (o l m : Int) : Kn := ⟨o, l, m, [], 0, -1⟩
theorem begun_wf (o l m : Int) : (begun o l m).Wf := ⟨(by intro i p hp; simp [begun] at hp), by show (-9223372036854775808 : Int) ≤ 0 ∧ (0 : Int) ≤ 9223372036854775807; omega, by show (-9223372036854775808 : Int) ≤ -1 ∧ (-1 : Int) ≤ 9223372036854775807; omega, by simp [begun]⟩

theorem c_sStartWith_yes (o l m : Int) (w : World) (D : ByteArray) (hk : FitsOk (begun o l m) D) : Calls Tryz.prog 56 #[.agg #[.int .i64 o, .int .i64 l, .int .i64 m], .string D] w fun e w' => ∃ A' cap', e = .returned (.tuple #[.agg #[.int .i64 ((begun o l m).learned D.data.toList).o, .int .i64 ((begun o l m).learned D.data.toList).l, .int .i64 ((begun o l m).learned D.data.toList).m, .slice A' ((begun o l m).learned D.data.toList).ps.length cap', .int .i64 ((begun o l m).learned D.data.toList).base, .int .i64 ((begun o l m).learned D.data.toList).last], .bool true]) ∧ w'.ownsRow w.heap.size 175 2 (.slice A' ((begun o l m).learned D.data.toList).ps.length cap') ((begun o l m).learned D.data.toList).ps.length (prs ((begun o l m).learned D.data.toList).ps) ∧ Below w.heap.size w w' := by
 have hB0 : Below w.heap.size w ((w.alloc (.cells #[.int .i64 o, .int .i64 l, .int .i64 m] 28)).alloc (.cells #[.int .i64 0, .int .i64 0, .int .i64 0, .slice none 0 0, .int .i64 0, .int .i64 0] 88)) := by exact obB
 have HZ := hid (Blk.top w (.cells #[.int .i64 o, .int .i64 l, .int .i64 m] 28) 88 #[.int .i64 0, .int .i64 0, .int .i64 0, .slice none 0 0, .int .i64 0, .int .i64 0])
 have HS := hid ((Blk.new w 28 #[.int .i64 o, .int .i64 l, .int .i64 m]).alloc (.cells #[.int .i64 0, .int .i64 0, .int .i64 0, .slice none 0 0, .int .i64 0, .int .i64 0] 88))
 obtain ⟨y0, y1, y2⟩ := HS.out.cells3
 have h := hk.1.set
 ·have HSt := hid (fun (v : World) => c_sStart_yes o l m v h)
  have HL := hid (fun (v : World) => c_sLearnKnown_yes (begun o l m) none 0 0 v (PsAt.nil _ _) (Nat.zero_le _) D hk (begun_wf o l m))
  obtain ⟨R, hR⟩ : ∃ R, R = (begun o l m).learned D.data.toList := ⟨_, rfl⟩
  simp only [← hR] at HL ⊢
  clear h hk hR
  go_enter Tryz.func56, Tryz.ntmps56
  go_wp2_with fail
  refine (HSt.out _).mono ?_
  rintro e w1 ⟨rfl, hb1⟩
  have hB1 := bel_trans hB0 hb1
  have HZ1 := hid (HZ.out.on hb1)
  have hal := bel_alloc (Below.refl _ w1) (.cells #[.int .i64 o, .int .i64 l, .int .i64 m, .slice none 0 0, .int .i64 0, .int .i64 (-1)] 88)
  have hB2 := bel_trans hB1 hal
  have HZ2 := hid (HZ1.out.on hal)
  have HK2 := hid (Blk.new w1 88 #[.int .i64 o, .int .i64 l, .int .i64 m, .slice none 0 0, .int .i64 0, .int .i64 (-1)])
  obtain ⟨u0, u1, u2, u3, u4, u5⟩ := HK2.out.cells6
  clear y0 y1 y2
  go_wp2_with fail
  refine (HL.out _).mono ?_
  rintro e w3 ⟨A', cap', rfl, hown, hb3⟩
  have hB3 := bel_trans hB2 hb3
  have HZ3 := hid (HZ2.out.on hb3)
  have HO := hid (own_mono hown hB2.size)
  clear u0 u1 u2 u3 u4 u5 hown
  obtain ⟨p0, p1, p2, p3, p4, p5⟩ := HZ3.out.cells6
  obtain ⟨q0, q1, q2, q3, q4, q5⟩ := HZ3.out.free6
  have HZ4 := hid (HZ3.out.put6 (.int .i64 R.o) (.int .i64 R.l) (.int .i64 R.m) (.slice A' R.ps.length cap') (.int .i64 R.base) (.int .i64 R.last))
  have HO4 := hid (own_put6 HO.out HZ3.out (by decide) (.int .i64 R.o) (.int .i64 R.l) (.int .i64 R.m) (.slice A' R.ps.length cap') (.int .i64 R.base) (.int .i64 R.last))
  obtain ⟨z0, z1, z2, z3, z4, z5⟩ := HZ4.out.cells6
  go_wp2
  exact bodyPost_ret (v := .tuple #[.agg #[.int .i64 R.o, .int .i64 R.l, .int .i64 R.m, .slice A' R.ps.length cap', .int .i64 R.base, .int .i64 R.last], .bool true]) (by simp [results, Tryz.results56, go_sem, z0, z1, z2, z3, z4, z5]) rfl ⟨A', cap', rfl, HO4.out, bel_put6 hB3 (by omega) _ _ _ _ _ _⟩
end
end Go.Proofs.YtmlaaammfnboiaaGreatDoor
