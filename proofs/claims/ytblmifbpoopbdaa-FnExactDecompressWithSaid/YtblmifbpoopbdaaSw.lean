/- The contracts of StartWith in both programs. No condition but that the numbers are int's. -/
import Derived.Test.YtblmifbpoopbdaaLt
namespace Go.Proofs.Ytblmifbpoopbdaa
open Go.ChangeShapes Go.WideShapes Go.ChangeAt Go.RowKit Go.Joins
set_option linter.unusedVariables false

/-- what is known at first -/
def begun (o l m : Int) : Kn := ⟨o, l, m, [], 0, -1⟩
theorem begun_wf (o l m : Int) : (begun o l m).Wf := ⟨(by intro i p hp; simp [begun] at hp), by show (-9223372036854775808 : Int) ≤ 0 ∧ (0 : Int) ≤ 9223372036854775807; omega, by show (-9223372036854775808 : Int) ≤ -1 ∧ (-1 : Int) ≤ 9223372036854775807; omega, by simp [begun]⟩
theorem c_StartWith_no (o l m : Int) (w : World) (D : ByteArray) (hs : D.size ≤ maxLen) (hk : ¬ FitsOk (begun o l m) D) : Calls Try.prog 84 #[.agg #[.int .i64 o, .int .i64 l, .int .i64 m], .string D] w fun e w' => e = .returned (.tuple #[.agg #[.int .i64 0, .int .i64 0, .int .i64 0, .slice none 0 0, .int .i64 0, .int .i64 0], .bool false]) ∧ Below w.heap.size w w' := by
  have hB0 : Below w.heap.size w ((w.alloc (.cells #[.int .i64 o, .int .i64 l, .int .i64 m] 24)).alloc (.cells #[.int .i64 0, .int .i64 0, .int .i64 0, .slice none 0 0, .int .i64 0, .int .i64 0] 27)) := by (repeat (first | with_reducible (first | assumption | exact Below.refl _ _ | refine bel_alloc ?_ _ | refine bel_drew ?_ | refine bel_drewN ?_ _ | refine bel_set ?_ (by first | omega | (simp; done) | (simp; omega)) _ | refine bel_trans ?_ (by assumption)) | assumption | refine bel_trans ?_ (by assumption)))
  have HZ := hid (Blk.top w (.cells #[.int .i64 o, .int .i64 l, .int .i64 m] 24) 27 #[.int .i64 0, .int .i64 0, .int .i64 0, .slice none 0 0, .int .i64 0, .int .i64 0])
  have HS := hid ((Blk.new w 24 #[.int .i64 o, .int .i64 l, .int .i64 m]).alloc (.cells #[.int .i64 0, .int .i64 0, .int .i64 0, .slice none 0 0, .int .i64 0, .int .i64 0] 27))
  obtain ⟨y0, y1, y2⟩ := HS.out.cells3
  by_cases h : setOk o l m = true
  · have HSt := hid (fun (v : World) => c_Start_yes o l m v h)
    have HL := hid (fun (v : World) => c_LearnKnown_no (begun o l m) none 0 0 v (PsAt.nil _ _) (Nat.zero_le _) D hs hk (begun_wf o l m))
    clear h hk
    go_enter Try.func84, Try.ntmps84
    go_wp2_with fail
    refine (HSt.out _).mono ?_
    rintro e w1 ⟨rfl, hb1⟩
    have hB1 := bel_trans hB0 hb1
    have HZ1 := hid (HZ.out.on hb1)
    have hal := bel_alloc (Below.refl _ w1) (.cells #[.int .i64 o, .int .i64 l, .int .i64 m, .slice none 0 0, .int .i64 0, .int .i64 (-1)] 27)
    have hB2 := bel_trans hB1 hal
    have HZ2 := hid (HZ1.out.on hal)
    have HK2 := hid (Blk.new w1 27 #[.int .i64 o, .int .i64 l, .int .i64 m, .slice none 0 0, .int .i64 0, .int .i64 (-1)])
    obtain ⟨u0, u1, u2, u3, u4, u5⟩ := HK2.out.cells6
    clear y0 y1 y2
    go_wp2_with fail
    refine (HL.out _).mono ?_
    rintro e w3 ⟨rfl, hb3⟩
    have hB3 := bel_trans hB2 hb3
    have HZ3 := hid (HZ2.out.on hb3)
    clear u0 u1 u2 u3 u4 u5
    obtain ⟨p0, p1, p2, p3, p4, p5⟩ := HZ3.out.cells6
    obtain ⟨q0, q1, q2, q3, q4, q5⟩ := HZ3.out.free6
    have HZf := hid (HZ3.out.put6 (.int .i64 0) (.int .i64 0) (.int .i64 0) (.slice none 0 0) (.int .i64 0) (.int .i64 0))
    obtain ⟨z0, z1, z2, z3, z4, z5⟩ := HZf.out.cells6
    go_wp2
    exact bodyPost_ret (v := .tuple #[.agg #[.int .i64 0, .int .i64 0, .int .i64 0, .slice none 0 0, .int .i64 0, .int .i64 0], .bool false]) (by simp [results, Try.results84, go_sem, z0, z1, z2, z3, z4, z5]) rfl ⟨rfl, bel_put6 hB3 (by omega) _ _ _ _ _ _⟩
  · have h2 : setOk o l m = false := by simpa using h
    have HSt := hid (fun (v : World) => c_Start_no o l m v h2)
    clear h h2 hk
    go_enter Try.func84, Try.ntmps84
    go_wp2_with fail
    refine (HSt.out _).mono ?_
    rintro e w1 ⟨rfl, hb1⟩
    have hB1 := bel_trans hB0 hb1
    have HZ1 := hid (HZ.out.on hb1)
    have hal := bel_alloc (Below.refl _ w1) (.cells #[.int .i64 0, .int .i64 0, .int .i64 0, .slice none 0 0, .int .i64 0, .int .i64 0] 27)
    have hB2 := bel_trans hB1 hal
    have HZ2 := hid (HZ1.out.on hal)
    have HK2 := hid (Blk.new w1 27 #[.int .i64 0, .int .i64 0, .int .i64 0, .slice none 0 0, .int .i64 0, .int .i64 0])
    obtain ⟨u0, u1, u2, u3, u4, u5⟩ := HK2.out.cells6
    clear y0 y1 y2
    obtain ⟨p0, p1, p2, p3, p4, p5⟩ := HZ2.out.cells6
    obtain ⟨q0, q1, q2, q3, q4, q5⟩ := HZ2.out.free6
    have HZf := hid (HZ2.out.put6 (.int .i64 0) (.int .i64 0) (.int .i64 0) (.slice none 0 0) (.int .i64 0) (.int .i64 0))
    obtain ⟨z0, z1, z2, z3, z4, z5⟩ := HZf.out.cells6
    go_wp2
    exact bodyPost_ret (v := .tuple #[.agg #[.int .i64 0, .int .i64 0, .int .i64 0, .slice none 0 0, .int .i64 0, .int .i64 0], .bool false]) (by simp [results, Try.results84, go_sem, z0, z1, z2, z3, z4, z5]) rfl ⟨rfl, bel_put6 hB2 (by omega) _ _ _ _ _ _⟩

theorem c_StartWith_yes (o l m : Int) (w : World) (D : ByteArray) (hk : FitsOk (begun o l m) D) : Calls Try.prog 84 #[.agg #[.int .i64 o, .int .i64 l, .int .i64 m], .string D] w fun e w' => ∃ A' cap', e = .returned (.tuple #[.agg #[.int .i64 ((begun o l m).learned D.data.toList).o, .int .i64 ((begun o l m).learned D.data.toList).l, .int .i64 ((begun o l m).learned D.data.toList).m, .slice A' ((begun o l m).learned D.data.toList).ps.length cap', .int .i64 ((begun o l m).learned D.data.toList).base, .int .i64 ((begun o l m).learned D.data.toList).last], .bool true]) ∧ w'.ownsRow w.heap.size 182 2 (.slice A' ((begun o l m).learned D.data.toList).ps.length cap') ((begun o l m).learned D.data.toList).ps.length (prs ((begun o l m).learned D.data.toList).ps) ∧ Below w.heap.size w w' := by
  have hB0 : Below w.heap.size w ((w.alloc (.cells #[.int .i64 o, .int .i64 l, .int .i64 m] 24)).alloc (.cells #[.int .i64 0, .int .i64 0, .int .i64 0, .slice none 0 0, .int .i64 0, .int .i64 0] 27)) := by (repeat (first | with_reducible (first | assumption | exact Below.refl _ _ | refine bel_alloc ?_ _ | refine bel_drew ?_ | refine bel_drewN ?_ _ | refine bel_set ?_ (by first | omega | (simp; done) | (simp; omega)) _ | refine bel_trans ?_ (by assumption)) | assumption | refine bel_trans ?_ (by assumption)))
  have HZ := hid (Blk.top w (.cells #[.int .i64 o, .int .i64 l, .int .i64 m] 24) 27 #[.int .i64 0, .int .i64 0, .int .i64 0, .slice none 0 0, .int .i64 0, .int .i64 0])
  have HS := hid ((Blk.new w 24 #[.int .i64 o, .int .i64 l, .int .i64 m]).alloc (.cells #[.int .i64 0, .int .i64 0, .int .i64 0, .slice none 0 0, .int .i64 0, .int .i64 0] 27))
  obtain ⟨y0, y1, y2⟩ := HS.out.cells3
  have h := hk.1.set
  · have HSt := hid (fun (v : World) => c_Start_yes o l m v h)
    have HL := hid (fun (v : World) => c_LearnKnown_yes (begun o l m) none 0 0 v (PsAt.nil _ _) (Nat.zero_le _) D hk (begun_wf o l m))
    obtain ⟨R, hR⟩ : ∃ R, R = (begun o l m).learned D.data.toList := ⟨_, rfl⟩
    simp only [← hR] at HL ⊢
    clear h hk hR
    go_enter Try.func84, Try.ntmps84
    go_wp2_with fail
    refine (HSt.out _).mono ?_
    rintro e w1 ⟨rfl, hb1⟩
    have hB1 := bel_trans hB0 hb1
    have HZ1 := hid (HZ.out.on hb1)
    have hal := bel_alloc (Below.refl _ w1) (.cells #[.int .i64 o, .int .i64 l, .int .i64 m, .slice none 0 0, .int .i64 0, .int .i64 (-1)] 27)
    have hB2 := bel_trans hB1 hal
    have HZ2 := hid (HZ1.out.on hal)
    have HK2 := hid (Blk.new w1 27 #[.int .i64 o, .int .i64 l, .int .i64 m, .slice none 0 0, .int .i64 0, .int .i64 (-1)])
    obtain ⟨u0, u1, u2, u3, u4, u5⟩ := HK2.out.cells6
    clear y0 y1 y2
    go_wp2_with fail
    refine (HL.out _).mono ?_
    rintro e w3 ⟨A', cap', rfl, hown, hb3⟩
    have hB3 := bel_trans hB2 hb3
    have HZ3 := hid (HZ2.out.on hb3)
    have HO := hid (own_mono hown hB2.size)
    clear u0 u1 u2 u3 u4 u5 hown
    obtain ⟨p0, p1, p2, p3, p4, p5⟩ := HZ3.out.cells6
    obtain ⟨q0, q1, q2, q3, q4, q5⟩ := HZ3.out.free6
    have HZ4 := hid (HZ3.out.put6 (.int .i64 R.o) (.int .i64 R.l) (.int .i64 R.m) (.slice A' R.ps.length cap') (.int .i64 R.base) (.int .i64 R.last))
    have HO4 := hid (own_put6 HO.out HZ3.out (by decide) (.int .i64 R.o) (.int .i64 R.l) (.int .i64 R.m) (.slice A' R.ps.length cap') (.int .i64 R.base) (.int .i64 R.last))
    obtain ⟨z0, z1, z2, z3, z4, z5⟩ := HZ4.out.cells6
    go_wp2
    exact bodyPost_ret (v := .tuple #[.agg #[.int .i64 R.o, .int .i64 R.l, .int .i64 R.m, .slice A' R.ps.length cap', .int .i64 R.base, .int .i64 R.last], .bool true]) (by simp [results, Try.results84, go_sem, z0, z1, z2, z3, z4, z5]) rfl ⟨A', cap', rfl, HO4.out, bel_put6 hB3 (by omega) _ _ _ _ _ _⟩

theorem c_sStartWith_no (o l m : Int) (w : World) (D : ByteArray) (hs : D.size ≤ maxLen) (hk : ¬ FitsOk (begun o l m) D) : Calls Try.prog 82 #[.agg #[.int .i64 o, .int .i64 l, .int .i64 m], .string D] w fun e w' => e = .returned (.tuple #[.agg #[.int .i64 0, .int .i64 0, .int .i64 0, .slice none 0 0, .int .i64 0, .int .i64 0], .bool false]) ∧ Below w.heap.size w w' := by
  have hB0 : Below w.heap.size w ((w.alloc (.cells #[.int .i64 o, .int .i64 l, .int .i64 m] 24)).alloc (.cells #[.int .i64 0, .int .i64 0, .int .i64 0, .slice none 0 0, .int .i64 0, .int .i64 0] 27)) := by (repeat (first | with_reducible (first | assumption | exact Below.refl _ _ | refine bel_alloc ?_ _ | refine bel_drew ?_ | refine bel_drewN ?_ _ | refine bel_set ?_ (by first | omega | (simp; done) | (simp; omega)) _ | refine bel_trans ?_ (by assumption)) | assumption | refine bel_trans ?_ (by assumption)))
  have HZ := hid (Blk.top w (.cells #[.int .i64 o, .int .i64 l, .int .i64 m] 24) 27 #[.int .i64 0, .int .i64 0, .int .i64 0, .slice none 0 0, .int .i64 0, .int .i64 0])
  have HS := hid ((Blk.new w 24 #[.int .i64 o, .int .i64 l, .int .i64 m]).alloc (.cells #[.int .i64 0, .int .i64 0, .int .i64 0, .slice none 0 0, .int .i64 0, .int .i64 0] 27))
  obtain ⟨y0, y1, y2⟩ := HS.out.cells3
  by_cases h : setOk o l m = true
  · have HSt := hid (fun (v : World) => c_sStart_yes o l m v h)
    have HL := hid (fun (v : World) => c_sLearnKnown_no (begun o l m) none 0 0 v (PsAt.nil _ _) (Nat.zero_le _) D hs hk (begun_wf o l m))
    clear h hk
    go_enter Try.func82, Try.ntmps82
    go_wp2_with fail
    refine (HSt.out _).mono ?_
    rintro e w1 ⟨rfl, hb1⟩
    have hB1 := bel_trans hB0 hb1
    have HZ1 := hid (HZ.out.on hb1)
    have hal := bel_alloc (Below.refl _ w1) (.cells #[.int .i64 o, .int .i64 l, .int .i64 m, .slice none 0 0, .int .i64 0, .int .i64 (-1)] 27)
    have hB2 := bel_trans hB1 hal
    have HZ2 := hid (HZ1.out.on hal)
    have HK2 := hid (Blk.new w1 27 #[.int .i64 o, .int .i64 l, .int .i64 m, .slice none 0 0, .int .i64 0, .int .i64 (-1)])
    obtain ⟨u0, u1, u2, u3, u4, u5⟩ := HK2.out.cells6
    clear y0 y1 y2
    go_wp2_with fail
    refine (HL.out _).mono ?_
    rintro e w3 ⟨rfl, hb3⟩
    have hB3 := bel_trans hB2 hb3
    have HZ3 := hid (HZ2.out.on hb3)
    clear u0 u1 u2 u3 u4 u5
    obtain ⟨p0, p1, p2, p3, p4, p5⟩ := HZ3.out.cells6
    obtain ⟨q0, q1, q2, q3, q4, q5⟩ := HZ3.out.free6
    have HZf := hid (HZ3.out.put6 (.int .i64 0) (.int .i64 0) (.int .i64 0) (.slice none 0 0) (.int .i64 0) (.int .i64 0))
    obtain ⟨z0, z1, z2, z3, z4, z5⟩ := HZf.out.cells6
    go_wp2
    exact bodyPost_ret (v := .tuple #[.agg #[.int .i64 0, .int .i64 0, .int .i64 0, .slice none 0 0, .int .i64 0, .int .i64 0], .bool false]) (by simp [results, Try.results82, go_sem, z0, z1, z2, z3, z4, z5]) rfl ⟨rfl, bel_put6 hB3 (by omega) _ _ _ _ _ _⟩
  · have h2 : setOk o l m = false := by simpa using h
    have HSt := hid (fun (v : World) => c_sStart_no o l m v h2)
    clear h h2 hk
    go_enter Try.func82, Try.ntmps82
    go_wp2_with fail
    refine (HSt.out _).mono ?_
    rintro e w1 ⟨rfl, hb1⟩
    have hB1 := bel_trans hB0 hb1
    have HZ1 := hid (HZ.out.on hb1)
    have hal := bel_alloc (Below.refl _ w1) (.cells #[.int .i64 0, .int .i64 0, .int .i64 0, .slice none 0 0, .int .i64 0, .int .i64 0] 27)
    have hB2 := bel_trans hB1 hal
    have HZ2 := hid (HZ1.out.on hal)
    have HK2 := hid (Blk.new w1 27 #[.int .i64 0, .int .i64 0, .int .i64 0, .slice none 0 0, .int .i64 0, .int .i64 0])
    obtain ⟨u0, u1, u2, u3, u4, u5⟩ := HK2.out.cells6
    clear y0 y1 y2
    obtain ⟨p0, p1, p2, p3, p4, p5⟩ := HZ2.out.cells6
    obtain ⟨q0, q1, q2, q3, q4, q5⟩ := HZ2.out.free6
    have HZf := hid (HZ2.out.put6 (.int .i64 0) (.int .i64 0) (.int .i64 0) (.slice none 0 0) (.int .i64 0) (.int .i64 0))
    obtain ⟨z0, z1, z2, z3, z4, z5⟩ := HZf.out.cells6
    go_wp2
    exact bodyPost_ret (v := .tuple #[.agg #[.int .i64 0, .int .i64 0, .int .i64 0, .slice none 0 0, .int .i64 0, .int .i64 0], .bool false]) (by simp [results, Try.results82, go_sem, z0, z1, z2, z3, z4, z5]) rfl ⟨rfl, bel_put6 hB2 (by omega) _ _ _ _ _ _⟩

theorem c_sStartWith_yes (o l m : Int) (w : World) (D : ByteArray) (hk : FitsOk (begun o l m) D) : Calls Try.prog 82 #[.agg #[.int .i64 o, .int .i64 l, .int .i64 m], .string D] w fun e w' => ∃ A' cap', e = .returned (.tuple #[.agg #[.int .i64 ((begun o l m).learned D.data.toList).o, .int .i64 ((begun o l m).learned D.data.toList).l, .int .i64 ((begun o l m).learned D.data.toList).m, .slice A' ((begun o l m).learned D.data.toList).ps.length cap', .int .i64 ((begun o l m).learned D.data.toList).base, .int .i64 ((begun o l m).learned D.data.toList).last], .bool true]) ∧ w'.ownsRow w.heap.size 182 2 (.slice A' ((begun o l m).learned D.data.toList).ps.length cap') ((begun o l m).learned D.data.toList).ps.length (prs ((begun o l m).learned D.data.toList).ps) ∧ Below w.heap.size w w' := by
  have hB0 : Below w.heap.size w ((w.alloc (.cells #[.int .i64 o, .int .i64 l, .int .i64 m] 24)).alloc (.cells #[.int .i64 0, .int .i64 0, .int .i64 0, .slice none 0 0, .int .i64 0, .int .i64 0] 27)) := by (repeat (first | with_reducible (first | assumption | exact Below.refl _ _ | refine bel_alloc ?_ _ | refine bel_drew ?_ | refine bel_drewN ?_ _ | refine bel_set ?_ (by first | omega | (simp; done) | (simp; omega)) _ | refine bel_trans ?_ (by assumption)) | assumption | refine bel_trans ?_ (by assumption)))
  have HZ := hid (Blk.top w (.cells #[.int .i64 o, .int .i64 l, .int .i64 m] 24) 27 #[.int .i64 0, .int .i64 0, .int .i64 0, .slice none 0 0, .int .i64 0, .int .i64 0])
  have HS := hid ((Blk.new w 24 #[.int .i64 o, .int .i64 l, .int .i64 m]).alloc (.cells #[.int .i64 0, .int .i64 0, .int .i64 0, .slice none 0 0, .int .i64 0, .int .i64 0] 27))
  obtain ⟨y0, y1, y2⟩ := HS.out.cells3
  have h := hk.1.set
  · have HSt := hid (fun (v : World) => c_sStart_yes o l m v h)
    have HL := hid (fun (v : World) => c_sLearnKnown_yes (begun o l m) none 0 0 v (PsAt.nil _ _) (Nat.zero_le _) D hk (begun_wf o l m))
    obtain ⟨R, hR⟩ : ∃ R, R = (begun o l m).learned D.data.toList := ⟨_, rfl⟩
    simp only [← hR] at HL ⊢
    clear h hk hR
    go_enter Try.func82, Try.ntmps82
    go_wp2_with fail
    refine (HSt.out _).mono ?_
    rintro e w1 ⟨rfl, hb1⟩
    have hB1 := bel_trans hB0 hb1
    have HZ1 := hid (HZ.out.on hb1)
    have hal := bel_alloc (Below.refl _ w1) (.cells #[.int .i64 o, .int .i64 l, .int .i64 m, .slice none 0 0, .int .i64 0, .int .i64 (-1)] 27)
    have hB2 := bel_trans hB1 hal
    have HZ2 := hid (HZ1.out.on hal)
    have HK2 := hid (Blk.new w1 27 #[.int .i64 o, .int .i64 l, .int .i64 m, .slice none 0 0, .int .i64 0, .int .i64 (-1)])
    obtain ⟨u0, u1, u2, u3, u4, u5⟩ := HK2.out.cells6
    clear y0 y1 y2
    go_wp2_with fail
    refine (HL.out _).mono ?_
    rintro e w3 ⟨A', cap', rfl, hown, hb3⟩
    have hB3 := bel_trans hB2 hb3
    have HZ3 := hid (HZ2.out.on hb3)
    have HO := hid (own_mono hown hB2.size)
    clear u0 u1 u2 u3 u4 u5 hown
    obtain ⟨p0, p1, p2, p3, p4, p5⟩ := HZ3.out.cells6
    obtain ⟨q0, q1, q2, q3, q4, q5⟩ := HZ3.out.free6
    have HZ4 := hid (HZ3.out.put6 (.int .i64 R.o) (.int .i64 R.l) (.int .i64 R.m) (.slice A' R.ps.length cap') (.int .i64 R.base) (.int .i64 R.last))
    have HO4 := hid (own_put6 HO.out HZ3.out (by decide) (.int .i64 R.o) (.int .i64 R.l) (.int .i64 R.m) (.slice A' R.ps.length cap') (.int .i64 R.base) (.int .i64 R.last))
    obtain ⟨z0, z1, z2, z3, z4, z5⟩ := HZ4.out.cells6
    go_wp2
    exact bodyPost_ret (v := .tuple #[.agg #[.int .i64 R.o, .int .i64 R.l, .int .i64 R.m, .slice A' R.ps.length cap', .int .i64 R.base, .int .i64 R.last], .bool true]) (by simp [results, Try.results82, go_sem, z0, z1, z2, z3, z4, z5]) rfl ⟨A', cap', rfl, HO4.out, bel_put6 hB3 (by omega) _ _ _ _ _ _⟩
end Go.Proofs.Ytblmifbpoopbdaa
