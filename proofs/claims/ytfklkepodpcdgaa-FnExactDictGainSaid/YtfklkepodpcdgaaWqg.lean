/- Walks of exact laws: each law's Go text returns true, and writes nothing that was there. -/
import Derived.Test.YtfklkepodpcdgaaBh
import Derived.Test.YtfklkepodpcdgaaQg
namespace Go.Proofs.Ytfklkepodpcdgaa
open Go.ChangeShapes Go.WideShapes Go.ChangeAt Go.RowKit Go.Joins

set_option linter.unusedVariables false
set_option maxHeartbeats 4000000 in
set_option maxRecDepth 100000 in
theorem walk_FnExactDictGain (o l m : Int) (s : ByteArray) (t : ByteArray) (w : World) (h_o : -9223372036854775808 ≤ o ∧ o ≤ 9223372036854775807) (h_l : -9223372036854775808 ≤ l ∧ l ≤ 9223372036854775807) (h_m : -9223372036854775808 ≤ m ∧ m ≤ 9223372036854775807) (h_s : s.size ≤ maxLen) (h_t : t.size ≤ maxLen) :
    Calls Try.prog 12 #[.agg #[.int .i64 o, .int .i64 l, .int .i64 m], .string s, .string t] w fun e w' => e = .returned (.bool true) ∧ Below w.heap.size w w' := by
  by_cases big_s : 1048576 < s.size
  · unfold maxLen at *
    go_enter Try.func12, Try.ntmps12
    go_wp2_with fail
    go_ret
    exact ⟨rfl, by (repeat (first | with_reducible (first | assumption | exact Below.refl _ _ | refine bel_alloc ?_ _ | refine bel_drew ?_ | refine bel_drewN ?_ _ | refine bel_set ?_ (by first | omega | (simp; done) | (simp; omega)) _ | refine bel_trans ?_ (by assumption)) | assumption | refine bel_trans ?_ (by assumption)))⟩
  by_cases big_t : 1048576 < t.size
  · unfold maxLen at *
    go_enter Try.func12, Try.ntmps12
    go_wp2_with fail
    go_ret
    exact ⟨rfl, by (repeat (first | with_reducible (first | assumption | exact Below.refl _ _ | refine bel_alloc ?_ _ | refine bel_drew ?_ | refine bel_drewN ?_ _ | refine bel_set ?_ (by first | omega | (simp; done) | (simp; omega)) _ | refine bel_trans ?_ (by assumption)) | assumption | refine bel_trans ?_ (by assumption)))⟩
  have hs_s : s.size ≤ 1048576 := by omega
  have hs_t : t.size ≤ 1048576 := by omega
  · skip
    obtain ⟨X, b, HS, HI⟩ : ∃ (X : Int) (b : Bool), (∀  (w : World), Calls Try.prog 53 #[.agg #[.int .i64 o, .int .i64 l, .int .i64 m], .string s, .string t] w (fun e w' => e = .returned (.tuple #[.int .i64 X, .bool b]) ∧ Below w.heap.size w w')) ∧ (∀  (w : World), Calls Try.prog 54 #[.agg #[.int .i64 o, .int .i64 l, .int .i64 m], .string s, .string t] w (fun e w' => e = .returned (.tuple #[.int .i64 X, .bool b]) ∧ Below w.heap.size w w')) := by
      obtain ⟨g, b, h1, h2⟩ := c_gain o l m s t h_s h_t
      exact ⟨g, b, h1, h2⟩
    have HS := hid HS
    have HI := hid HI
    go_enter Try.func12, Try.ntmps12
    obtain ⟨y0, y1, y2⟩ := (Blk.new w 44 #[.int .i64 o, .int .i64 l, .int .i64 m]).cells3
    go_wp2_with fail
    refine (c_toSetting o l m _).mono ?_
    rintro e w1 ⟨rfl, hb1⟩
    have hz1 : w.heap.size ≤ w1.heap.size := by have := hb1.size; first | exact this | (simp only [World.size_alloc] at this; omega)
    have kS1 := (Blk.new _ 44 #[.int .i64 o, .int .i64 l, .int .i64 m]).on hb1
    have hB1 : Below w.heap.size w w1 := by (repeat (first | with_reducible (first | assumption | exact Below.refl _ _ | refine bel_alloc ?_ _ | refine bel_drew ?_ | refine bel_drewN ?_ _ | refine bel_set ?_ (by first | omega | (simp; done) | (simp; omega)) _ | refine bel_trans ?_ (by assumption)) | assumption | refine bel_trans ?_ (by assumption)))
    clear y0 y1 y2 hb1
    obtain ⟨q0_0, q0_1, q0_2⟩ := kS1.cells3
    have l0 := kS1.lt
    go_wp2_with fail
    refine (HS.out  _ ).mono ?_
    rintro e w2 ⟨rfl, hb2⟩
    have hz2 : w1.heap.size ≤ w2.heap.size := by have := hb2.size; first | exact this | (simp only [World.size_alloc] at this; omega)
    have kS2 := kS1.on hb2
    have hB2 : Below w.heap.size w w2 := by (repeat (first | with_reducible (first | assumption | exact Below.refl _ _ | refine bel_alloc ?_ _ | refine bel_drew ?_ | refine bel_drewN ?_ _ | refine bel_set ?_ (by first | omega | (simp; done) | (simp; omega)) _ | refine bel_trans ?_ (by assumption)) | assumption | refine bel_trans ?_ (by assumption)))
    clear kS1 q0_0 q0_1 q0_2 l0 hb2 hB1
    obtain ⟨q0_0, q0_1, q0_2⟩ := kS2.cells3
    have l0 := kS2.lt
    go_wp2_with fail
    refine (c_toSetting o l m _).mono ?_
    rintro e w3 ⟨rfl, hb3⟩
    have hz3 : w2.heap.size ≤ w3.heap.size := by have := hb3.size; first | exact this | (simp only [World.size_alloc] at this; omega)
    have kS3 := kS2.on hb3
    have hB3 : Below w.heap.size w w3 := by (repeat (first | with_reducible (first | assumption | exact Below.refl _ _ | refine bel_alloc ?_ _ | refine bel_drew ?_ | refine bel_drewN ?_ _ | refine bel_set ?_ (by first | omega | (simp; done) | (simp; omega)) _ | refine bel_trans ?_ (by assumption)) | assumption | refine bel_trans ?_ (by assumption)))
    clear kS2 q0_0 q0_1 q0_2 l0 hb3 hB2
    obtain ⟨q0_0, q0_1, q0_2⟩ := kS3.cells3
    have l0 := kS3.lt
    go_wp2_with fail
    refine (HI.out  _ ).mono ?_
    rintro e w4 ⟨rfl, hb4⟩
    have hz4 : w3.heap.size ≤ w4.heap.size := by have := hb4.size; first | exact this | (simp only [World.size_alloc] at this; omega)
    have kS4 := kS3.on hb4
    have hB4 : Below w.heap.size w w4 := by (repeat (first | with_reducible (first | assumption | exact Below.refl _ _ | refine bel_alloc ?_ _ | refine bel_drew ?_ | refine bel_drewN ?_ _ | refine bel_set ?_ (by first | omega | (simp; done) | (simp; omega)) _ | refine bel_trans ?_ (by assumption)) | assumption | refine bel_trans ?_ (by assumption)))
    clear kS3 q0_0 q0_1 q0_2 l0 hb4 hB3
    obtain ⟨q0_0, q0_1, q0_2⟩ := kS4.cells3
    have l0 := kS4.lt
    go_wp2
    go_ret
    exact ⟨rfl, by (repeat (first | with_reducible (first | assumption | exact Below.refl _ _ | refine bel_alloc ?_ _ | refine bel_drew ?_ | refine bel_drewN ?_ _ | refine bel_set ?_ (by first | omega | (simp; done) | (simp; omega)) _ | refine bel_trans ?_ (by assumption)) | assumption | refine bel_trans ?_ (by assumption)))⟩
end Go.Proofs.Ytfklkepodpcdgaa
