/- Walks of exact laws: each law's Go text returns true, and writes nothing that was there. -/
import Derived.Test.YtblmifbpoopbdaaBh
import Derived.Test.YtblmifbpoopbdaaSw
namespace Go.Proofs.Ytblmifbpoopbdaa
open Go.ChangeShapes Go.WideShapes Go.ChangeAt Go.RowKit Go.Joins
set_option linter.unusedVariables false

set_option maxHeartbeats 4000000 in
set_option maxRecDepth 100000 in
theorem walk_FnExactStartWith (o l m : Int) (s : ByteArray) (w : World) (h_o : -9223372036854775808 ≤ o ∧ o ≤ 9223372036854775807) (h_l : -9223372036854775808 ≤ l ∧ l ≤ 9223372036854775807) (h_m : -9223372036854775808 ≤ m ∧ m ≤ 9223372036854775807) (h_s : s.size ≤ maxLen) :
    Calls Try.prog 18 #[.agg #[.int .i64 o, .int .i64 l, .int .i64 m], .string s] w fun e w' => e = .returned (.bool true) ∧ Below w.heap.size w w' := by
  by_cases big_s : 1048576 < s.size
  · unfold maxLen at *
    go_enter Try.func18, Try.ntmps18
    go_wp2_with fail
    go_ret
    exact ⟨rfl, by (repeat (first | with_reducible (first | assumption | exact Below.refl _ _ | refine bel_alloc ?_ _ | refine bel_drew ?_ | refine bel_drewN ?_ _ | refine bel_set ?_ (by first | omega | (simp; done) | (simp; omega)) _ | refine bel_trans ?_ (by assumption)) | assumption | refine bel_trans ?_ (by assumption)))⟩
  have hs_s : s.size ≤ 1048576 := by omega
  · skip
    obtain ⟨R, b, hl0, HS, HI⟩ : ∃ (R : Kn) (b : Bool), R.ps.length ≤ 1048576 ∧ (∀  (w : World), Calls Try.prog 82 #[.agg #[.int .i64 o, .int .i64 l, .int .i64 m], .string s] w (fun e w' => ∃ A0_ cap0_, e = .returned (.tuple #[.agg #[.int .i64 R.o, .int .i64 R.l, .int .i64 R.m, .slice A0_ R.ps.length cap0_, .int .i64 R.base, .int .i64 R.last], .bool b]) ∧ w'.ownsRow w.heap.size 182 2 (.slice A0_ R.ps.length cap0_) R.ps.length (prs R.ps) ∧ Below w.heap.size w w')) ∧ (∀  (w : World), Calls Try.prog 84 #[.agg #[.int .i64 o, .int .i64 l, .int .i64 m], .string s] w (fun e w' => ∃ A0_ cap0_, e = .returned (.tuple #[.agg #[.int .i64 R.o, .int .i64 R.l, .int .i64 R.m, .slice A0_ R.ps.length cap0_, .int .i64 R.base, .int .i64 R.last], .bool b]) ∧ w'.ownsRow w.heap.size 182 2 (.slice A0_ R.ps.length cap0_) R.ps.length (prs R.ps) ∧ Below w.heap.size w w')) := by
      by_cases hk : FitsOk (begun o l m) s
      · exact ⟨(begun o l m).learned s.data.toList, true, by have := (hk.1.learned hk.lits.1).len; omega, fun w => c_sStartWith_yes o l m w s hk, fun w => c_StartWith_yes o l m w s hk⟩
      · exact ⟨⟨0, 0, 0, [], 0, 0⟩, false, by simp, fun w => (c_sStartWith_no o l m w s h_s hk).mono fun e w' ⟨q1, q2⟩ => ⟨none, 0, q1, own_ps_nil _ _ _, q2⟩, fun w => (c_StartWith_no o l m w s h_s hk).mono fun e w' ⟨q1, q2⟩ => ⟨none, 0, q1, own_ps_nil _ _ _, q2⟩⟩
    have HS := hid HS
    have HI := hid HI
    go_enter Try.func18, Try.ntmps18
    obtain ⟨y0, y1, y2⟩ := (Blk.new w 42 #[.int .i64 o, .int .i64 l, .int .i64 m]).cells3
    go_wp2_with fail
    refine (c_toSetting o l m _).mono ?_
    rintro e w1 ⟨rfl, hb1⟩
    have hz1 : w.heap.size ≤ w1.heap.size := by have := hb1.size; first | exact this | (simp only [World.size_alloc] at this; omega)
    have kS1 := (Blk.new _ 42 #[.int .i64 o, .int .i64 l, .int .i64 m]).on hb1
    have hB1 : Below w.heap.size w w1 := by (repeat (first | with_reducible (first | assumption | exact Below.refl _ _ | refine bel_alloc ?_ _ | refine bel_drew ?_ | refine bel_drewN ?_ _ | refine bel_set ?_ (by first | omega | (simp; done) | (simp; omega)) _ | refine bel_trans ?_ (by assumption)) | assumption | refine bel_trans ?_ (by assumption)))
    clear y0 y1 y2 hb1
    obtain ⟨q0_0, q0_1, q0_2⟩ := kS1.cells3
    have l0 := kS1.lt
    go_wp2_with fail
    refine (HS.out  _ ).mono ?_
    rintro e w2 ⟨AW0, cW0, rfl, hrW0, hb2⟩
    have hz2 : w1.heap.size ≤ w2.heap.size := by have := hb2.size; first | exact this | (simp only [World.size_alloc] at this; omega)
    have kS2 := kS1.on hb2
    have hB2 : Below w.heap.size w w2 := by (repeat (first | with_reducible (first | assumption | exact Below.refl _ _ | refine bel_alloc ?_ _ | refine bel_drew ?_ | refine bel_drewN ?_ _ | refine bel_set ?_ (by first | omega | (simp; done) | (simp; omega)) _ | refine bel_trans ?_ (by assumption)) | assumption | refine bel_trans ?_ (by assumption)))
    clear kS1 q0_0 q0_1 q0_2 l0 hb2 hB1
    obtain ⟨q0_0, q0_1, q0_2⟩ := kS2.cells3
    have l0 := kS2.lt
    have oW02 := own_mono (B' := w1.heap.size) hrW0 (by first | exact Nat.le_refl _ | (simp only [World.size_alloc]; omega) | omega)
    have uoW0 := hid (own_upto oW02)
    clear hrW0
    go_wp2_with fail
    refine (c_toSetting o l m _).mono ?_
    rintro e w3 ⟨rfl, hb3⟩
    have hz3 : w2.heap.size ≤ w3.heap.size := by have := hb3.size; first | exact this | (simp only [World.size_alloc] at this; omega)
    have kS3 := (kS2.alloc _).on hb3
    have kW03 := (Blk.new _ 27 #[.int .i64 R.o, .int .i64 R.l, .int .i64 R.m, .slice AW0 R.ps.length cW0, .int .i64 R.base, .int .i64 R.last]).on hb3
    have oW03 := own_on (oW02.alloc _) hb3
    have hB3 : Below w.heap.size w w3 := by (repeat (first | with_reducible (first | assumption | exact Below.refl _ _ | refine bel_alloc ?_ _ | refine bel_drew ?_ | refine bel_drewN ?_ _ | refine bel_set ?_ (by first | omega | (simp; done) | (simp; omega)) _ | refine bel_trans ?_ (by assumption)) | assumption | refine bel_trans ?_ (by assumption)))
    clear kS2 oW02 q0_0 q0_1 q0_2 l0 hb3 hB2
    obtain ⟨q0_0, q0_1, q0_2⟩ := kS3.cells3
    have l0 := kS3.lt
    obtain ⟨q1_0, q1_1, q1_2, q1_3, q1_4, q1_5⟩ := kW03.cells6
    have l1 := kW03.lt
    go_wp2_with fail
    refine (HI.out  _ ).mono ?_
    rintro e w4 ⟨AG0, cG0, rfl, hrG0, hb4⟩
    have hz4 : w3.heap.size ≤ w4.heap.size := by have := hb4.size; first | exact this | (simp only [World.size_alloc] at this; omega)
    have kS4 := kS3.on hb4
    have kW04 := kW03.on hb4
    have oW04 := own_on oW03 hb4
    have hB4 : Below w.heap.size w w4 := by (repeat (first | with_reducible (first | assumption | exact Below.refl _ _ | refine bel_alloc ?_ _ | refine bel_drew ?_ | refine bel_drewN ?_ _ | refine bel_set ?_ (by first | omega | (simp; done) | (simp; omega)) _ | refine bel_trans ?_ (by assumption)) | assumption | refine bel_trans ?_ (by assumption)))
    clear kS3 kW03 oW03 q0_0 q0_1 q0_2 l0 q1_0 q1_1 q1_2 q1_3 q1_4 q1_5 l1 hb4 hB3
    obtain ⟨q0_0, q0_1, q0_2⟩ := kS4.cells3
    have l0 := kS4.lt
    obtain ⟨q1_0, q1_1, q1_2, q1_3, q1_4, q1_5⟩ := kW04.cells6
    have l1 := kW04.lt
    have oG04 := own_mono (B' := w3.heap.size) hrG0 (by first | exact Nat.le_refl _ | (simp only [World.size_alloc]; omega) | omega)
    have uoG0 := hid (own_upto oG04)
    clear hrG0
    go_wp2_with fail
    refine (c_eqKnown R _ _ _ _ _ _ _ (own_ps_at (oG04.alloc _)) (own_ps_at (oW04.alloc _)) (Nat.le_refl _) (Nat.le_refl _) hl0).mono ?_
    rintro e w5 ⟨rfl, hb5⟩
    have hz5 : w4.heap.size ≤ w5.heap.size := by have := hb5.size; first | exact this | (simp only [World.size_alloc] at this; omega)
    have kS5 := (kS4.alloc _).on hb5
    have kW05 := (kW04.alloc _).on hb5
    have kG05 := (Blk.new _ 27 #[.int .i64 R.o, .int .i64 R.l, .int .i64 R.m, .slice AG0 R.ps.length cG0, .int .i64 R.base, .int .i64 R.last]).on hb5
    have oW05 := own_on (oW04.alloc _) hb5
    have oG05 := own_on (oG04.alloc _) hb5
    have hB5 : Below w.heap.size w w5 := by (repeat (first | with_reducible (first | assumption | exact Below.refl _ _ | refine bel_alloc ?_ _ | refine bel_drew ?_ | refine bel_drewN ?_ _ | refine bel_set ?_ (by first | omega | (simp; done) | (simp; omega)) _ | refine bel_trans ?_ (by assumption)) | assumption | refine bel_trans ?_ (by assumption)))
    clear kS4 kW04 oW04 oG04 q0_0 q0_1 q0_2 l0 q1_0 q1_1 q1_2 q1_3 q1_4 q1_5 l1 hb5 hB4
    obtain ⟨q0_0, q0_1, q0_2⟩ := kS5.cells3
    have l0 := kS5.lt
    obtain ⟨q1_0, q1_1, q1_2, q1_3, q1_4, q1_5⟩ := kW05.cells6
    have l1 := kW05.lt
    obtain ⟨q2_0, q2_1, q2_2, q2_3, q2_4, q2_5⟩ := kG05.cells6
    have l2 := kG05.lt
    go_wp2_with fail
    refine (c_markKnown_any R _ _ _ _ (oG05) (by first | omega | (simp only [World.size_alloc]; omega)) hl0).mono ?_
    rintro e w6 ⟨rfl, hown6, hg6⟩
    have hz6 : w5.heap.size ≤ w6.heap.size := by have := hg6.size; first | exact this | (simp only [World.size_alloc] at this; omega)
    have kS6 := box_apart kS5 oG05 (by decide) hg6
    have kW06 := box_apart kW05 oG05 (by decide) hg6
    have kG06 := box_apart kG05 oG05 (by decide) hg6
    have oW06 := oW05.kept hg6 (sep_old uoW0.out oG05 (by omega))
    have oG06 := hown6
    have hB6 : Below w.heap.size w w6 := bel_grow (by (repeat (first | with_reducible (first | assumption | exact Below.refl _ _ | refine bel_alloc ?_ _ | refine bel_drew ?_ | refine bel_drewN ?_ _ | refine bel_set ?_ (by first | omega | (simp; done) | (simp; omega)) _ | refine bel_trans ?_ (by assumption)) | assumption | refine bel_trans ?_ (by assumption)))) oG05 (by omega) hg6
    clear kS5 kW05 kG05 oW05 oG05 q0_0 q0_1 q0_2 l0 q1_0 q1_1 q1_2 q1_3 q1_4 q1_5 l1 q2_0 q2_1 q2_2 q2_3 q2_4 q2_5 l2 hown6 hg6 hB5
    obtain ⟨q0_0, q0_1, q0_2⟩ := kS6.cells3
    have l0 := kS6.lt
    obtain ⟨q1_0, q1_1, q1_2, q1_3, q1_4, q1_5⟩ := kW06.cells6
    have l1 := kW06.lt
    obtain ⟨q2_0, q2_1, q2_2, q2_3, q2_4, q2_5⟩ := kG06.cells6
    have l2 := kG06.lt
    go_wp2_with fail
    refine (c_heldKnown _ _ _ _ _ _ _ _ _ _ (own_ps_at oG06) (Nat.le_refl _) hl0).mono ?_
    rintro e w7 ⟨rfl, hb7⟩
    have hz7 : w6.heap.size ≤ w7.heap.size := by have := hb7.size; first | exact this | (simp only [World.size_alloc] at this; omega)
    have kS7 := kS6.on hb7
    have kW07 := kW06.on hb7
    have kG07 := kG06.on hb7
    have oW07 := own_on oW06 hb7
    have oG07 := own_on oG06 hb7
    have hB7 : Below w.heap.size w w7 := by (repeat (first | with_reducible (first | assumption | exact Below.refl _ _ | refine bel_alloc ?_ _ | refine bel_drew ?_ | refine bel_drewN ?_ _ | refine bel_set ?_ (by first | omega | (simp; done) | (simp; omega)) _ | refine bel_trans ?_ (by assumption)) | assumption | refine bel_trans ?_ (by assumption)))
    clear kS6 kW06 kG06 oW06 oG06 q0_0 q0_1 q0_2 l0 q1_0 q1_1 q1_2 q1_3 q1_4 q1_5 l1 q2_0 q2_1 q2_2 q2_3 q2_4 q2_5 l2 hb7 hB6
    obtain ⟨q0_0, q0_1, q0_2⟩ := kS7.cells3
    have l0 := kS7.lt
    obtain ⟨q1_0, q1_1, q1_2, q1_3, q1_4, q1_5⟩ := kW07.cells6
    have l1 := kW07.lt
    obtain ⟨q2_0, q2_1, q2_2, q2_3, q2_4, q2_5⟩ := kG07.cells6
    have l2 := kG07.lt
    go_wp2_with fail
    refine (c_toSetting o l m _).mono ?_
    rintro e w8 ⟨rfl, hb8⟩
    have hz8 : w7.heap.size ≤ w8.heap.size := by have := hb8.size; first | exact this | (simp only [World.size_alloc] at this; omega)
    have kS8 := kS7.on hb8
    have kW08 := kW07.on hb8
    have kG08 := kG07.on hb8
    have oW08 := own_on oW07 hb8
    have oG08 := own_on oG07 hb8
    have hB8 : Below w.heap.size w w8 := by (repeat (first | with_reducible (first | assumption | exact Below.refl _ _ | refine bel_alloc ?_ _ | refine bel_drew ?_ | refine bel_drewN ?_ _ | refine bel_set ?_ (by first | omega | (simp; done) | (simp; omega)) _ | refine bel_trans ?_ (by assumption)) | assumption | refine bel_trans ?_ (by assumption)))
    clear kS7 kW07 kG07 oW07 oG07 q0_0 q0_1 q0_2 l0 q1_0 q1_1 q1_2 q1_3 q1_4 q1_5 l1 q2_0 q2_1 q2_2 q2_3 q2_4 q2_5 l2 hb8 hB7
    obtain ⟨q0_0, q0_1, q0_2⟩ := kS8.cells3
    have l0 := kS8.lt
    obtain ⟨q1_0, q1_1, q1_2, q1_3, q1_4, q1_5⟩ := kW08.cells6
    have l1 := kW08.lt
    obtain ⟨q2_0, q2_1, q2_2, q2_3, q2_4, q2_5⟩ := kG08.cells6
    have l2 := kG08.lt
    go_wp2_with fail
    refine (HI.out  _ ).mono ?_
    rintro e w9 ⟨AH0, cH0, rfl, hrH0, hb9⟩
    have hz9 : w8.heap.size ≤ w9.heap.size := by have := hb9.size; first | exact this | (simp only [World.size_alloc] at this; omega)
    have kS9 := kS8.on hb9
    have kW09 := kW08.on hb9
    have kG09 := kG08.on hb9
    have oW09 := own_on oW08 hb9
    have oG09 := own_on oG08 hb9
    have hB9 : Below w.heap.size w w9 := by (repeat (first | with_reducible (first | assumption | exact Below.refl _ _ | refine bel_alloc ?_ _ | refine bel_drew ?_ | refine bel_drewN ?_ _ | refine bel_set ?_ (by first | omega | (simp; done) | (simp; omega)) _ | refine bel_trans ?_ (by assumption)) | assumption | refine bel_trans ?_ (by assumption)))
    clear kS8 kW08 kG08 oW08 oG08 q0_0 q0_1 q0_2 l0 q1_0 q1_1 q1_2 q1_3 q1_4 q1_5 l1 q2_0 q2_1 q2_2 q2_3 q2_4 q2_5 l2 hb9 hB8
    obtain ⟨q0_0, q0_1, q0_2⟩ := kS9.cells3
    have l0 := kS9.lt
    obtain ⟨q1_0, q1_1, q1_2, q1_3, q1_4, q1_5⟩ := kW09.cells6
    have l1 := kW09.lt
    obtain ⟨q2_0, q2_1, q2_2, q2_3, q2_4, q2_5⟩ := kG09.cells6
    have l2 := kG09.lt
    have oH09 := own_mono (B' := w8.heap.size) hrH0 (by first | exact Nat.le_refl _ | (simp only [World.size_alloc]; omega) | omega)
    have uoH0 := hid (own_upto oH09)
    clear hrH0
    go_wp2_with fail
    refine (c_eqKnown R _ _ _ _ _ _ _ (own_ps_at (oH09.alloc _)) (own_ps_at (oW09.alloc _)) (Nat.le_refl _) (Nat.le_refl _) hl0).mono ?_
    rintro e w10 ⟨rfl, hb10⟩
    have hz10 : w9.heap.size ≤ w10.heap.size := by have := hb10.size; first | exact this | (simp only [World.size_alloc] at this; omega)
    have kS10 := (kS9.alloc _).on hb10
    have kW010 := (kW09.alloc _).on hb10
    have kG010 := (kG09.alloc _).on hb10
    have kH010 := (Blk.new _ 27 #[.int .i64 R.o, .int .i64 R.l, .int .i64 R.m, .slice AH0 R.ps.length cH0, .int .i64 R.base, .int .i64 R.last]).on hb10
    have oW010 := own_on (oW09.alloc _) hb10
    have oG010 := own_on (oG09.alloc _) hb10
    have oH010 := own_on (oH09.alloc _) hb10
    have hB10 : Below w.heap.size w w10 := by (repeat (first | with_reducible (first | assumption | exact Below.refl _ _ | refine bel_alloc ?_ _ | refine bel_drew ?_ | refine bel_drewN ?_ _ | refine bel_set ?_ (by first | omega | (simp; done) | (simp; omega)) _ | refine bel_trans ?_ (by assumption)) | assumption | refine bel_trans ?_ (by assumption)))
    clear kS9 kW09 kG09 oW09 oG09 oH09 q0_0 q0_1 q0_2 l0 q1_0 q1_1 q1_2 q1_3 q1_4 q1_5 l1 q2_0 q2_1 q2_2 q2_3 q2_4 q2_5 l2 hb10 hB9
    obtain ⟨q0_0, q0_1, q0_2⟩ := kS10.cells3
    have l0 := kS10.lt
    obtain ⟨q1_0, q1_1, q1_2, q1_3, q1_4, q1_5⟩ := kW010.cells6
    have l1 := kW010.lt
    obtain ⟨q2_0, q2_1, q2_2, q2_3, q2_4, q2_5⟩ := kG010.cells6
    have l2 := kG010.lt
    obtain ⟨q3_0, q3_1, q3_2, q3_3, q3_4, q3_5⟩ := kH010.cells6
    have l3 := kH010.lt
    go_wp2_with fail
    refine (c_heldKnown _ _ _ _ _ _ _ _ _ _ (own_ps_at oG010) (Nat.le_refl _) hl0).mono ?_
    rintro e w11 ⟨rfl, hb11⟩
    have hz11 : w10.heap.size ≤ w11.heap.size := by have := hb11.size; first | exact this | (simp only [World.size_alloc] at this; omega)
    have kS11 := kS10.on hb11
    have kW011 := kW010.on hb11
    have kG011 := kG010.on hb11
    have kH011 := kH010.on hb11
    have oW011 := own_on oW010 hb11
    have oG011 := own_on oG010 hb11
    have oH011 := own_on oH010 hb11
    have hB11 : Below w.heap.size w w11 := by (repeat (first | with_reducible (first | assumption | exact Below.refl _ _ | refine bel_alloc ?_ _ | refine bel_drew ?_ | refine bel_drewN ?_ _ | refine bel_set ?_ (by first | omega | (simp; done) | (simp; omega)) _ | refine bel_trans ?_ (by assumption)) | assumption | refine bel_trans ?_ (by assumption)))
    clear kS10 kW010 kG010 kH010 oW010 oG010 oH010 q0_0 q0_1 q0_2 l0 q1_0 q1_1 q1_2 q1_3 q1_4 q1_5 l1 q2_0 q2_1 q2_2 q2_3 q2_4 q2_5 l2 q3_0 q3_1 q3_2 q3_3 q3_4 q3_5 l3 hb11 hB10
    obtain ⟨q0_0, q0_1, q0_2⟩ := kS11.cells3
    have l0 := kS11.lt
    obtain ⟨q1_0, q1_1, q1_2, q1_3, q1_4, q1_5⟩ := kW011.cells6
    have l1 := kW011.lt
    obtain ⟨q2_0, q2_1, q2_2, q2_3, q2_4, q2_5⟩ := kG011.cells6
    have l2 := kG011.lt
    obtain ⟨q3_0, q3_1, q3_2, q3_3, q3_4, q3_5⟩ := kH011.cells6
    have l3 := kH011.lt
    go_wp2
    go_ret
    exact ⟨rfl, by (repeat (first | with_reducible (first | assumption | exact Below.refl _ _ | refine bel_alloc ?_ _ | refine bel_drew ?_ | refine bel_drewN ?_ _ | refine bel_set ?_ (by first | omega | (simp; done) | (simp; omega)) _ | refine bel_trans ?_ (by assumption)) | assumption | refine bel_trans ?_ (by assumption)))⟩
end Go.Proofs.Ytblmifbpoopbdaa
