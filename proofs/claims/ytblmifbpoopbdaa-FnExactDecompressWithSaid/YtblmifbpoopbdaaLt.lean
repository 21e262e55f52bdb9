/- The contracts of LearnKnown in both programs. No condition but that the numbers are int's. -/
import Derived.Test.YtblmifbpoopbdaaLs
namespace Go.Proofs.Ytblmifbpoopbdaa
open Go.ChangeShapes Go.WideShapes Go.ChangeAt Go.RowKit Go.Joins
set_option linter.unusedVariables false

theorem c_sLearnKnown_no (k : Kn) (A : Option Addr) (cap L : Nat) (w : World) (h : PsAt w L A cap k.ps) (hL : L ≤ w.heap.size) (D : ByteArray) (hs : D.size ≤ maxLen) (hk : ¬ FitsOk k D) (hw : k.Wf) : Calls Try.prog 79 #[.agg #[.int .i64 k.o, .int .i64 k.l, .int .i64 k.m, .slice A k.ps.length cap, .int .i64 k.base, .int .i64 k.last], .string D] w fun e w' => e = .returned (.tuple #[.agg #[.int .i64 0, .int .i64 0, .int .i64 0, .slice none 0 0, .int .i64 0, .int .i64 0], .bool false]) ∧ Below w.heap.size w w' := by
  have hB0 : Below w.heap.size w ((w.alloc (.cells #[.int .i64 k.o, .int .i64 k.l, .int .i64 k.m, .slice A k.ps.length cap, .int .i64 k.base, .int .i64 k.last] 27)).alloc (.cells #[.int .i64 0, .int .i64 0, .int .i64 0, .slice none 0 0, .int .i64 0, .int .i64 0] 27)) := by (repeat (first | with_reducible (first | assumption | exact Below.refl _ _ | refine bel_alloc ?_ _ | refine bel_drew ?_ | refine bel_drewN ?_ _ | refine bel_set ?_ (by first | omega | (simp; done) | (simp; omega)) _ | refine bel_trans ?_ (by assumption)) | assumption | refine bel_trans ?_ (by assumption)))
  have HZ := hid (Blk.top w (.cells #[.int .i64 k.o, .int .i64 k.l, .int .i64 k.m, .slice A k.ps.length cap, .int .i64 k.base, .int .i64 k.last] 27) 27 #[.int .i64 0, .int .i64 0, .int .i64 0, .slice none 0 0, .int .i64 0, .int .i64 0])
  have HKN := hid ((Blk.new w 27 #[.int .i64 k.o, .int .i64 k.l, .int .i64 k.m, .slice A k.ps.length cap, .int .i64 k.base, .int .i64 k.last]).alloc (.cells #[.int .i64 0, .int .i64 0, .int .i64 0, .slice none 0 0, .int .i64 0, .int .i64 0] 27))
  by_cases h1 : k.Ok
  · have hf : dataFits k.o k.l k.m D = false := by
      cases hq : dataFits k.o k.l k.m D with
      | false => rfl
      | true => exact absurd ⟨h1, hq⟩ hk
    have HV := hid (fun (v : World) (hb : Below w.heap.size w v) => c_sKnownValid_yes k A cap L v (h.below hb hL) (Nat.le_trans hL hb.size) h1 hw)
    have HD := hid (fun (v : World) => c_sDataFits k.o k.l k.m D v hs)
    simp only [hf] at HD
    clear h hk hw hf h1
    obtain ⟨p0, p1, p2, p3, p4, p5⟩ := HKN.out.cells6
    go_enter Try.func79, Try.ntmps79
    go_wp2_with fail
    refine (HV.out _ hB0).mono ?_
    rintro e w1 ⟨rfl, hb1⟩
    have HK1 := hid (HKN.out.on hb1)
    clear p0 p1 p2 p3 p4 p5
    obtain ⟨p0, p1, p2, p3, p4, p5⟩ := HK1.out.cells6
    go_wp2_with fail
    refine (HD.out _).mono ?_
    rintro e w2 ⟨rfl, hb2⟩
    have hB2 := bel_trans (bel_trans hB0 hb1) hb2
    have HZ2 := hid ((HZ.out.on hb1).on hb2)
    clear p0 p1 p2 p3 p4 p5
    obtain ⟨p0, p1, p2, p3, p4, p5⟩ := HZ2.out.cells6
    obtain ⟨q0, q1, q2, q3, q4, q5⟩ := HZ2.out.free6
    have HZ3 := hid (HZ2.out.put6 (.int .i64 0) (.int .i64 0) (.int .i64 0) (.slice none 0 0) (.int .i64 0) (.int .i64 0))
    obtain ⟨z0, z1, z2, z3, z4, z5⟩ := HZ3.out.cells6
    go_wp2
    exact bodyPost_ret (v := .tuple #[.agg #[.int .i64 0, .int .i64 0, .int .i64 0, .slice none 0 0, .int .i64 0, .int .i64 0], .bool false]) (by simp [results, Try.results79, go_sem, z0, z1, z2, z3, z4, z5]) rfl ⟨rfl, bel_put6 hB2 (by omega) _ _ _ _ _ _⟩
  · have HV := hid (fun (v : World) (hb : Below w.heap.size w v) => c_sKnownValid_no k A cap L v (h.below hb hL) (Nat.le_trans hL hb.size) h1 hw)
    clear h hk hw h1
    obtain ⟨p0, p1, p2, p3, p4, p5⟩ := HKN.out.cells6
    go_enter Try.func79, Try.ntmps79
    go_wp2_with fail
    refine (HV.out _ hB0).mono ?_
    rintro e w1 ⟨rfl, hb1⟩
    have hB2 := bel_trans hB0 hb1
    have HZ2 := hid (HZ.out.on hb1)
    clear p0 p1 p2 p3 p4 p5
    obtain ⟨p0, p1, p2, p3, p4, p5⟩ := HZ2.out.cells6
    obtain ⟨q0, q1, q2, q3, q4, q5⟩ := HZ2.out.free6
    have HZ3 := hid (HZ2.out.put6 (.int .i64 0) (.int .i64 0) (.int .i64 0) (.slice none 0 0) (.int .i64 0) (.int .i64 0))
    obtain ⟨z0, z1, z2, z3, z4, z5⟩ := HZ3.out.cells6
    go_wp2
    exact bodyPost_ret (v := .tuple #[.agg #[.int .i64 0, .int .i64 0, .int .i64 0, .slice none 0 0, .int .i64 0, .int .i64 0], .bool false]) (by simp [results, Try.results79, go_sem, z0, z1, z2, z3, z4, z5]) rfl ⟨rfl, bel_put6 hB2 (by omega) _ _ _ _ _ _⟩

theorem c_sLearnKnown_yes (k : Kn) (A : Option Addr) (cap L : Nat) (w : World) (h : PsAt w L A cap k.ps) (hL : L ≤ w.heap.size) (D : ByteArray) (hk : FitsOk k D) (hw : k.Wf) : Calls Try.prog 79 #[.agg #[.int .i64 k.o, .int .i64 k.l, .int .i64 k.m, .slice A k.ps.length cap, .int .i64 k.base, .int .i64 k.last], .string D] w fun e w' => ∃ A' cap', e = .returned (.tuple #[.agg #[.int .i64 (k.learned D.data.toList).o, .int .i64 (k.learned D.data.toList).l, .int .i64 (k.learned D.data.toList).m, .slice A' (k.learned D.data.toList).ps.length cap', .int .i64 (k.learned D.data.toList).base, .int .i64 (k.learned D.data.toList).last], .bool true]) ∧ w'.ownsRow w.heap.size 182 2 (.slice A' (k.learned D.data.toList).ps.length cap') (k.learned D.data.toList).ps.length (prs (k.learned D.data.toList).ps) ∧ Below w.heap.size w w' := by
  have hB0 : Below w.heap.size w ((w.alloc (.cells #[.int .i64 k.o, .int .i64 k.l, .int .i64 k.m, .slice A k.ps.length cap, .int .i64 k.base, .int .i64 k.last] 27)).alloc (.cells #[.int .i64 0, .int .i64 0, .int .i64 0, .slice none 0 0, .int .i64 0, .int .i64 0] 27)) := by (repeat (first | with_reducible (first | assumption | exact Below.refl _ _ | refine bel_alloc ?_ _ | refine bel_drew ?_ | refine bel_drewN ?_ _ | refine bel_set ?_ (by first | omega | (simp; done) | (simp; omega)) _ | refine bel_trans ?_ (by assumption)) | assumption | refine bel_trans ?_ (by assumption)))
  have HZ := hid (Blk.top w (.cells #[.int .i64 k.o, .int .i64 k.l, .int .i64 k.m, .slice A k.ps.length cap, .int .i64 k.base, .int .i64 k.last] 27) 27 #[.int .i64 0, .int .i64 0, .int .i64 0, .slice none 0 0, .int .i64 0, .int .i64 0])
  have HKN := hid ((Blk.new w 27 #[.int .i64 k.o, .int .i64 k.l, .int .i64 k.m, .slice A k.ps.length cap, .int .i64 k.base, .int .i64 k.last]).alloc (.cells #[.int .i64 0, .int .i64 0, .int .i64 0, .slice none 0 0, .int .i64 0, .int .i64 0] 27))
  have HV := hid (fun (v : World) (hb : Below w.heap.size w v) => c_sKnownValid_yes k A cap L v (h.below hb hL) (Nat.le_trans hL hb.size) hk.1 hw)
  have HD := hid (fun (v : World) => c_sDataFits k.o k.l k.m D v (by have := hk.lits.2; unfold maxLen; omega))
  simp only [hk.2] at HD
  have HLn := hid (fun (v : World) (hb : Below w.heap.size w v) => c_l4Learn k A cap L v (h.below hb hL) (Nat.le_trans hL hb.size) D hk)
  obtain ⟨R, hR⟩ : ∃ R, R = k.learned D.data.toList := ⟨_, rfl⟩
  simp only [← hR] at HLn ⊢
  clear h hk hw hR
  obtain ⟨p0, p1, p2, p3, p4, p5⟩ := HKN.out.cells6
  go_enter Try.func79, Try.ntmps79
  go_wp2_with fail
  refine (HV.out _ hB0).mono ?_
  rintro e w1 ⟨rfl, hb1⟩
  have HK1 := hid (HKN.out.on hb1)
  clear p0 p1 p2 p3 p4 p5
  obtain ⟨p0, p1, p2, p3, p4, p5⟩ := HK1.out.cells6
  go_wp2_with fail
  refine (HD.out _).mono ?_
  rintro e w2 ⟨rfl, hb2⟩
  have hB2 := bel_trans (bel_trans hB0 hb1) hb2
  have HZ2 := hid ((HZ.out.on hb1).on hb2)
  have HK2 := hid (HK1.out.on hb2)
  clear p0 p1 p2 p3 p4 p5
  obtain ⟨p0, p1, p2, p3, p4, p5⟩ := HK2.out.cells6
  go_wp2_with fail
  refine (HLn.out _ hB2).mono ?_
  rintro e w3 ⟨A', cap', rfl, hown, hb3⟩
  have hB3 := bel_trans hB2 hb3
  have HO := hid (own_mono hown hB2.size)
  have HZ3 := hid (HZ2.out.on hb3)
  clear p0 p1 p2 p3 p4 p5 hown
  obtain ⟨p0, p1, p2, p3, p4, p5⟩ := HZ3.out.cells6
  obtain ⟨q0, q1, q2, q3, q4, q5⟩ := HZ3.out.free6
  have HZ4 := hid (HZ3.out.put6 (.int .i64 R.o) (.int .i64 R.l) (.int .i64 R.m) (.slice A' R.ps.length cap') (.int .i64 R.base) (.int .i64 R.last))
  have HO4 := hid (own_put6 HO.out HZ3.out (by decide) (.int .i64 R.o) (.int .i64 R.l) (.int .i64 R.m) (.slice A' R.ps.length cap') (.int .i64 R.base) (.int .i64 R.last))
  obtain ⟨z0, z1, z2, z3, z4, z5⟩ := HZ4.out.cells6
  go_wp2
  exact bodyPost_ret (v := .tuple #[.agg #[.int .i64 R.o, .int .i64 R.l, .int .i64 R.m, .slice A' R.ps.length cap', .int .i64 R.base, .int .i64 R.last], .bool true]) (by simp [results, Try.results79, go_sem, z0, z1, z2, z3, z4, z5]) rfl ⟨A', cap', rfl, HO4.out, bel_put6 hB3 (by omega) _ _ _ _ _ _⟩

theorem c_LearnKnown_no (k : Kn) (A : Option Addr) (cap L : Nat) (w : World) (h : PsAt w L A cap k.ps) (hL : L ≤ w.heap.size) (D : ByteArray) (hs : D.size ≤ maxLen) (hk : ¬ FitsOk k D) (hw : k.Wf) : Calls Try.prog 80 #[.agg #[.int .i64 k.o, .int .i64 k.l, .int .i64 k.m, .slice A k.ps.length cap, .int .i64 k.base, .int .i64 k.last], .string D] w fun e w' => e = .returned (.tuple #[.agg #[.int .i64 0, .int .i64 0, .int .i64 0, .slice none 0 0, .int .i64 0, .int .i64 0], .bool false]) ∧ Below w.heap.size w w' := by
  have hB0 : Below w.heap.size w ((w.alloc (.cells #[.int .i64 k.o, .int .i64 k.l, .int .i64 k.m, .slice A k.ps.length cap, .int .i64 k.base, .int .i64 k.last] 27)).alloc (.cells #[.int .i64 0, .int .i64 0, .int .i64 0, .slice none 0 0, .int .i64 0, .int .i64 0] 27)) := by (repeat (first | with_reducible (first | assumption | exact Below.refl _ _ | refine bel_alloc ?_ _ | refine bel_drew ?_ | refine bel_drewN ?_ _ | refine bel_set ?_ (by first | omega | (simp; done) | (simp; omega)) _ | refine bel_trans ?_ (by assumption)) | assumption | refine bel_trans ?_ (by assumption)))
  have HZ := hid (Blk.top w (.cells #[.int .i64 k.o, .int .i64 k.l, .int .i64 k.m, .slice A k.ps.length cap, .int .i64 k.base, .int .i64 k.last] 27) 27 #[.int .i64 0, .int .i64 0, .int .i64 0, .slice none 0 0, .int .i64 0, .int .i64 0])
  have HKN := hid ((Blk.new w 27 #[.int .i64 k.o, .int .i64 k.l, .int .i64 k.m, .slice A k.ps.length cap, .int .i64 k.base, .int .i64 k.last]).alloc (.cells #[.int .i64 0, .int .i64 0, .int .i64 0, .slice none 0 0, .int .i64 0, .int .i64 0] 27))
  have HLn := hid (fun (v : World) (hb : Below w.heap.size w v) => c_learn_no k A cap L v (h.below hb hL) (Nat.le_trans hL hb.size) D hs hk hw)
  clear h hk hw
  obtain ⟨p0, p1, p2, p3, p4, p5⟩ := HKN.out.cells6
  go_enter Try.func80, Try.ntmps80
  go_wp2_with fail
  refine (HLn.out _ hB0).mono ?_
  rintro e w1 ⟨rfl, hb1⟩
  have hB1 := bel_trans hB0 hb1
  have HZ1 := hid (HZ.out.on hb1)
  have hal := bel_alloc (Below.refl _ w1) (.cells #[.int .i64 0, .int .i64 0, .int .i64 0, .slice none 0 0, .int .i64 0, .int .i64 0] 27)
  have hB2 := bel_trans hB1 hal
  have HZ2 := hid (HZ1.out.on hal)
  obtain ⟨u0, u1, u2, u3, u4, u5⟩ := (Blk.new w1 27 #[.int .i64 0, .int .i64 0, .int .i64 0, .slice none 0 0, .int .i64 0, .int .i64 0]).cells6
  clear p0 p1 p2 p3 p4 p5
  obtain ⟨p0, p1, p2, p3, p4, p5⟩ := HZ2.out.cells6
  obtain ⟨q0, q1, q2, q3, q4, q5⟩ := HZ2.out.free6
  have HZ3 := hid (HZ2.out.put6 (.int .i64 0) (.int .i64 0) (.int .i64 0) (.slice none 0 0) (.int .i64 0) (.int .i64 0))
  obtain ⟨z0, z1, z2, z3, z4, z5⟩ := HZ3.out.cells6
  go_wp2
  exact bodyPost_ret (v := .tuple #[.agg #[.int .i64 0, .int .i64 0, .int .i64 0, .slice none 0 0, .int .i64 0, .int .i64 0], .bool false]) (by simp [results, Try.results80, go_sem, z0, z1, z2, z3, z4, z5]) rfl ⟨rfl, bel_put6 hB2 (by omega) _ _ _ _ _ _⟩

theorem c_LearnKnown_yes (k : Kn) (A : Option Addr) (cap L : Nat) (w : World) (h : PsAt w L A cap k.ps) (hL : L ≤ w.heap.size) (D : ByteArray) (hk : FitsOk k D) (hw : k.Wf) : Calls Try.prog 80 #[.agg #[.int .i64 k.o, .int .i64 k.l, .int .i64 k.m, .slice A k.ps.length cap, .int .i64 k.base, .int .i64 k.last], .string D] w fun e w' => ∃ A' cap', e = .returned (.tuple #[.agg #[.int .i64 (k.learned D.data.toList).o, .int .i64 (k.learned D.data.toList).l, .int .i64 (k.learned D.data.toList).m, .slice A' (k.learned D.data.toList).ps.length cap', .int .i64 (k.learned D.data.toList).base, .int .i64 (k.learned D.data.toList).last], .bool true]) ∧ w'.ownsRow w.heap.size 182 2 (.slice A' (k.learned D.data.toList).ps.length cap') (k.learned D.data.toList).ps.length (prs (k.learned D.data.toList).ps) ∧ Below w.heap.size w w' := by
  have hB0 : Below w.heap.size w ((w.alloc (.cells #[.int .i64 k.o, .int .i64 k.l, .int .i64 k.m, .slice A k.ps.length cap, .int .i64 k.base, .int .i64 k.last] 27)).alloc (.cells #[.int .i64 0, .int .i64 0, .int .i64 0, .slice none 0 0, .int .i64 0, .int .i64 0] 27)) := by (repeat (first | with_reducible (first | assumption | exact Below.refl _ _ | refine bel_alloc ?_ _ | refine bel_drew ?_ | refine bel_drewN ?_ _ | refine bel_set ?_ (by first | omega | (simp; done) | (simp; omega)) _ | refine bel_trans ?_ (by assumption)) | assumption | refine bel_trans ?_ (by assumption)))
  have HZ := hid (Blk.top w (.cells #[.int .i64 k.o, .int .i64 k.l, .int .i64 k.m, .slice A k.ps.length cap, .int .i64 k.base, .int .i64 k.last] 27) 27 #[.int .i64 0, .int .i64 0, .int .i64 0, .slice none 0 0, .int .i64 0, .int .i64 0])
  have HKN := hid ((Blk.new w 27 #[.int .i64 k.o, .int .i64 k.l, .int .i64 k.m, .slice A k.ps.length cap, .int .i64 k.base, .int .i64 k.last]).alloc (.cells #[.int .i64 0, .int .i64 0, .int .i64 0, .slice none 0 0, .int .i64 0, .int .i64 0] 27))
  have HLn := hid (fun (v : World) (hb : Below w.heap.size w v) => c_learn_yes k A cap L v (h.below hb hL) (Nat.le_trans hL hb.size) D hk hw)
  obtain ⟨R, hR⟩ : ∃ R, R = k.learned D.data.toList := ⟨_, rfl⟩
  simp only [← hR] at HLn ⊢
  clear h hk hw hR
  obtain ⟨p0, p1, p2, p3, p4, p5⟩ := HKN.out.cells6
  go_enter Try.func80, Try.ntmps80
  go_wp2_with fail
  refine (HLn.out _ hB0).mono ?_
  rintro e w1 ⟨A', cap', te, rfl, hown, hb1⟩
  have hB1 := bel_trans hB0 hb1
  have HZ1 := hid (HZ.out.on hb1)
  have hal := bel_alloc (Below.refl _ w1) (.cells #[.int .i64 R.o, .int .i64 R.l, .int .i64 R.m, .slice A' R.ps.length cap', .int .i64 R.base, .int .i64 R.last] 27)
  have hB2 := bel_trans hB1 hal
  have HZ2 := hid (HZ1.out.on hal)
  have HO := hid (own_on (own_mono hown hB0.size) hal)
  obtain ⟨u0, u1, u2, u3, u4, u5⟩ := (Blk.new w1 27 #[.int .i64 R.o, .int .i64 R.l, .int .i64 R.m, .slice A' R.ps.length cap', .int .i64 R.base, .int .i64 R.last]).cells6
  clear p0 p1 p2 p3 p4 p5 hown
  obtain ⟨p0, p1, p2, p3, p4, p5⟩ := HZ2.out.cells6
  obtain ⟨q0, q1, q2, q3, q4, q5⟩ := HZ2.out.free6
  have HZ3 := hid (HZ2.out.put6 (.int .i64 R.o) (.int .i64 R.l) (.int .i64 R.m) (.slice A' R.ps.length cap') (.int .i64 R.base) (.int .i64 R.last))
  have HO3 := hid (own_put6 HO.out HZ2.out (by decide) (.int .i64 R.o) (.int .i64 R.l) (.int .i64 R.m) (.slice A' R.ps.length cap') (.int .i64 R.base) (.int .i64 R.last))
  obtain ⟨z0, z1, z2, z3, z4, z5⟩ := HZ3.out.cells6
  go_wp2
  exact bodyPost_ret (v := .tuple #[.agg #[.int .i64 R.o, .int .i64 R.l, .int .i64 R.m, .slice A' R.ps.length cap', .int .i64 R.base, .int .i64 R.last], .bool true]) (by simp [results, Try.results80, go_sem, z0, z1, z2, z3, z4, z5]) rfl ⟨A', cap', rfl, HO3.out, bel_put6 hB2 (by omega) _ _ _ _ _ _⟩
end Go.Proofs.Ytblmifbpoopbdaa
