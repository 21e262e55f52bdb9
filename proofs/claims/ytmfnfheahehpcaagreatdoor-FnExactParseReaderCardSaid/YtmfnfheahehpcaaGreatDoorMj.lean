/- Walks of exact laws: each law's Go text returns true, and writes nothing that was there. -/
import Derived.Test.YtmfnfheahehpcaaGreatDoorMh
import Derived.Test.YtmfnfheahehpcaaGreatDoorMi
namespace Go.Proofs.YtmfnfheahehpcaaGreatDoor
open Go.ChangeShapes Go.WideShapes Go.ChangeAt Go.RowKit Go.Joins
set_option linter.unusedVariables false

set_option maxHeartbeats 4000000 in
set_option maxRecDepth 100000 in
theorem walk_FnExactParseReader (t : ByteArray) (w : World) (h_t : t.size ≤ maxLen) (hE : ErrAt w) (mm : Int) (hm : w.cell? ⟨3, 0, none⟩ = some (.int .i64 mm)) (hTab : TabN w) :
    Calls Tryz.prog 5 #[.string t] w fun e w' => e = .returned (.bool true) ∧ Below w.heap.size w w' := by
  by_cases big_t : 1048576 < t.size
  · unfold maxLen at *
    go_enter Tryz.func5, Tryz.ntmps5
    go_wp2_with fail
    go_ret
    exact ⟨rfl, by exact obB⟩
  have hs_t : t.size ≤ 1048576 := by omega
  · skip
    obtain ⟨R, Bt, s, c, en, b, hl0, HS, HI⟩ : ∃ (R : Kn) (Bt : ByteArray) (s c en : Int) (b : Bool), R.ps.length ≤ 1048576 ∧ (∀  (w : World), Calls Tryz.prog 17 #[.string t] w (fun e w' => ∃ A0_ cap0_, e = .returned (.tuple #[.agg #[.int .i64 R.o, .int .i64 R.l, .int .i64 R.m, .slice A0_ R.ps.length cap0_, .int .i64 R.base, .int .i64 R.last, .string Bt, .int .i64 s, .int .i64 c, .int .i64 en], .bool b]) ∧ w'.ownsRow w.heap.size 53 2 (.slice A0_ R.ps.length cap0_) R.ps.length (prs R.ps) ∧ Below w.heap.size w w')) ∧ (∀ (v : World), Below w.heap.size w v → Calls Tryz.prog 18 #[.string t] v (fun e w' => ∃ A0_ cap0_, e = .returned (.tuple #[.agg #[.int .i64 R.o, .int .i64 R.l, .int .i64 R.m, .slice A0_ R.ps.length cap0_, .int .i64 R.base, .int .i64 R.last, .string Bt, .int .i64 s, .int .i64 c, .int .i64 en], .bool b]) ∧ w'.ownsRow v.heap.size 53 2 (.slice A0_ R.ps.length cap0_) R.ps.length (prs R.ps) ∧ Below v.heap.size v w')) := by
      obtain ⟨R, Bt, s, c, en, b, hl, hone⟩ := prd_ex t
      exact ⟨R, Bt, s, c, en, b, hl, fun w => (c_sParseReader t w (by omega)).mono fun e w' h => by obtain ⟨k, B', s', c', e', b', A, cap, ⟨hp, _⟩, he, ho, hb⟩ := h; obtain ⟨rfl, rfl, rfl, rfl, rfl, rfl⟩ := hone k B' s' c' e' b' hp; exact ⟨A, cap, he, ho, hb⟩, fun v hv => (c_ParseReader t v (by omega) (hE.kept hv) mm (cell_kept hm hv) (hTab.on hv)).mono fun e w' h => by obtain ⟨k, B', s', c', e', b', A, cap, ⟨hp, _⟩, he, ho, hb⟩ := h; obtain ⟨rfl, rfl, rfl, rfl, rfl, rfl⟩ := hone k B' s' c' e' b' hp; exact ⟨A, cap, he, ho, hb⟩⟩
    have hbb : (b != b) = false := by simp
    have HS := hid HS
    have HI := hid HI
    clear hE hm hTab
    go_enter Tryz.func5, Tryz.ntmps5
    go_wp2_with fail
    refine (HS.out  _ ).mono ?_
    rintro e w1 ⟨AW0, cW0, rfl, hrW0, hb1⟩
    have hz1 : w.heap.size ≤ w1.heap.size := by have := hb1.size; first | exact this | (simp only [World.size_alloc] at this; omega)
    have hB1 : Below w.heap.size w w1 := by exact obB
    clear hb1
    have oW01 := own_mono (B' := w.heap.size) hrW0 (by first | exact Nat.le_refl _ | (simp only [World.size_alloc]; omega) | omega)
    have uoW0 := hid (own_upto oW01)
    clear hrW0
    go_wp2_with fail
    refine (HI.out _ (by exact obB)).mono ?_
    rintro e w2 ⟨AG0, cG0, rfl, hrG0, hb2⟩
    have hz2 : w1.heap.size ≤ w2.heap.size := by have := hb2.size; first | exact this | (simp only [World.size_alloc] at this; omega)
    have kW02 := (Blk.new _ 39 #[.int .i64 R.o, .int .i64 R.l, .int .i64 R.m, .slice AW0 R.ps.length cW0, .int .i64 R.base, .int .i64 R.last, .string Bt, .int .i64 s, .int .i64 c, .int .i64 en]).on hb2
    have oW02 := own_on (oW01.alloc _) hb2
    have hB2 : Below w.heap.size w w2 := by exact obB
    clear oW01 hb2 hB1
    obtain ⟨q0_0, q0_1, q0_2, q0_3, q0_4, q0_5, q0_6, q0_7, q0_8, q0_9⟩ := kW02.cells10
    have l0 := kW02.lt
    have oG02 := own_mono (B' := w1.heap.size) hrG0 (by first | exact Nat.le_refl _ | (simp only [World.size_alloc]; omega) | omega)
    have uoG0 := hid (own_upto oG02)
    clear hrG0
    go_wp2_with fail
    refine (c_eqReader R _ _ _ _ _ _ _ (own_ps_at (oG02.alloc _)) (own_ps_at (oW02.alloc _)) (Nat.le_refl _) (Nat.le_refl _) hl0).mono ?_
    rintro e w3 ⟨rfl, hb3⟩
    have hz3 : w2.heap.size ≤ w3.heap.size := by have := hb3.size; first | exact this | (simp only [World.size_alloc] at this; omega)
    have kW03 := (kW02.alloc _).on hb3
    have kG03 := (Blk.new _ 39 #[.int .i64 R.o, .int .i64 R.l, .int .i64 R.m, .slice AG0 R.ps.length cG0, .int .i64 R.base, .int .i64 R.last, .string Bt, .int .i64 s, .int .i64 c, .int .i64 en]).on hb3
    have oW03 := own_on (oW02.alloc _) hb3
    have oG03 := own_on (oG02.alloc _) hb3
    have hB3 : Below w.heap.size w w3 := by exact obB
    clear kW02 oW02 oG02 q0_0 q0_1 q0_2 q0_3 q0_4 q0_5 q0_6 q0_7 q0_8 q0_9 l0 hb3 hB2
    obtain ⟨q0_0, q0_1, q0_2, q0_3, q0_4, q0_5, q0_6, q0_7, q0_8, q0_9⟩ := kW03.cells10
    have l0 := kW03.lt
    obtain ⟨q1_0, q1_1, q1_2, q1_3, q1_4, q1_5, q1_6, q1_7, q1_8, q1_9⟩ := kG03.cells10
    have l1 := kG03.lt
    go_wp2_with fail
    refine (c_markReader_any R _ _ _ _ (oG03) (by first | omega | (simp only [World.size_alloc]; omega)) hl0).mono ?_
    rintro e w4 ⟨rfl, hown4, hg4⟩
    have hz4 : w3.heap.size ≤ w4.heap.size := by have := hg4.size; first | exact this | (simp only [World.size_alloc] at this; omega)
    have kW04 := box_apart kW03 oG03 (by decide) hg4
    have kG04 := box_apart kG03 oG03 (by decide) hg4
    have oW04 := oW03.kept hg4 (sep_old uoW0.out oG03 (by omega))
    have oG04 := hown4
    have hB4 : Below w.heap.size w w4 := bel_grow (by exact obB) oG03 (by omega) hg4
    clear kW03 kG03 oW03 oG03 q0_0 q0_1 q0_2 q0_3 q0_4 q0_5 q0_6 q0_7 q0_8 q0_9 l0 q1_0 q1_1 q1_2 q1_3 q1_4 q1_5 q1_6 q1_7 q1_8 q1_9 l1 hown4 hg4 hB3
    obtain ⟨q0_0, q0_1, q0_2, q0_3, q0_4, q0_5, q0_6, q0_7, q0_8, q0_9⟩ := kW04.cells10
    have l0 := kW04.lt
    obtain ⟨q1_0, q1_1, q1_2, q1_3, q1_4, q1_5, q1_6, q1_7, q1_8, q1_9⟩ := kG04.cells10
    have l1 := kG04.lt
    go_wp2_with fail
    refine (c_heldReader _ _ _ _ _ _ _ _ _ _ (own_ps_at oG04) (Nat.le_refl _) hl0).mono ?_
    rintro e w5 ⟨rfl, hb5⟩
    have hz5 : w4.heap.size ≤ w5.heap.size := by have := hb5.size; first | exact this | (simp only [World.size_alloc] at this; omega)
    have kW05 := kW04.on hb5
    have kG05 := kG04.on hb5
    have oW05 := own_on oW04 hb5
    have oG05 := own_on oG04 hb5
    have hB5 : Below w.heap.size w w5 := by exact obB
    clear kW04 kG04 oW04 oG04 q0_0 q0_1 q0_2 q0_3 q0_4 q0_5 q0_6 q0_7 q0_8 q0_9 l0 q1_0 q1_1 q1_2 q1_3 q1_4 q1_5 q1_6 q1_7 q1_8 q1_9 l1 hb5 hB4
    obtain ⟨q0_0, q0_1, q0_2, q0_3, q0_4, q0_5, q0_6, q0_7, q0_8, q0_9⟩ := kW05.cells10
    have l0 := kW05.lt
    obtain ⟨q1_0, q1_1, q1_2, q1_3, q1_4, q1_5, q1_6, q1_7, q1_8, q1_9⟩ := kG05.cells10
    have l1 := kG05.lt
    go_wp2_with fail
    refine (HI.out _ (by exact obB)).mono ?_
    rintro e w6 ⟨AH0, cH0, rfl, hrH0, hb6⟩
    have hz6 : w5.heap.size ≤ w6.heap.size := by have := hb6.size; first | exact this | (simp only [World.size_alloc] at this; omega)
    have kW06 := kW05.on hb6
    have kG06 := kG05.on hb6
    have oW06 := own_on oW05 hb6
    have oG06 := own_on oG05 hb6
    have hB6 : Below w.heap.size w w6 := by exact obB
    clear kW05 kG05 oW05 oG05 q0_0 q0_1 q0_2 q0_3 q0_4 q0_5 q0_6 q0_7 q0_8 q0_9 l0 q1_0 q1_1 q1_2 q1_3 q1_4 q1_5 q1_6 q1_7 q1_8 q1_9 l1 hb6 hB5
    obtain ⟨q0_0, q0_1, q0_2, q0_3, q0_4, q0_5, q0_6, q0_7, q0_8, q0_9⟩ := kW06.cells10
    have l0 := kW06.lt
    obtain ⟨q1_0, q1_1, q1_2, q1_3, q1_4, q1_5, q1_6, q1_7, q1_8, q1_9⟩ := kG06.cells10
    have l1 := kG06.lt
    have oH06 := own_mono (B' := w5.heap.size) hrH0 (by first | exact Nat.le_refl _ | (simp only [World.size_alloc]; omega) | omega)
    have uoH0 := hid (own_upto oH06)
    clear hrH0
    go_wp2_with fail
    refine (c_eqReader R _ _ _ _ _ _ _ (own_ps_at (oH06.alloc _)) (own_ps_at (oW06.alloc _)) (Nat.le_refl _) (Nat.le_refl _) hl0).mono ?_
    rintro e w7 ⟨rfl, hb7⟩
    have hz7 : w6.heap.size ≤ w7.heap.size := by have := hb7.size; first | exact this | (simp only [World.size_alloc] at this; omega)
    have kW07 := (kW06.alloc _).on hb7
    have kG07 := (kG06.alloc _).on hb7
    have kH07 := (Blk.new _ 39 #[.int .i64 R.o, .int .i64 R.l, .int .i64 R.m, .slice AH0 R.ps.length cH0, .int .i64 R.base, .int .i64 R.last, .string Bt, .int .i64 s, .int .i64 c, .int .i64 en]).on hb7
    have oW07 := own_on (oW06.alloc _) hb7
    have oG07 := own_on (oG06.alloc _) hb7
    have oH07 := own_on (oH06.alloc _) hb7
    have hB7 : Below w.heap.size w w7 := by exact obB
    clear kW06 kG06 oW06 oG06 oH06 q0_0 q0_1 q0_2 q0_3 q0_4 q0_5 q0_6 q0_7 q0_8 q0_9 l0 q1_0 q1_1 q1_2 q1_3 q1_4 q1_5 q1_6 q1_7 q1_8 q1_9 l1 hb7 hB6
    obtain ⟨q0_0, q0_1, q0_2, q0_3, q0_4, q0_5, q0_6, q0_7, q0_8, q0_9⟩ := kW07.cells10
    have l0 := kW07.lt
    obtain ⟨q1_0, q1_1, q1_2, q1_3, q1_4, q1_5, q1_6, q1_7, q1_8, q1_9⟩ := kG07.cells10
    have l1 := kG07.lt
    obtain ⟨q2_0, q2_1, q2_2, q2_3, q2_4, q2_5, q2_6, q2_7, q2_8, q2_9⟩ := kH07.cells10
    have l2 := kH07.lt
    go_wp2_with fail
    refine (c_heldReader _ _ _ _ _ _ _ _ _ _ (own_ps_at oG07) (Nat.le_refl _) hl0).mono ?_
    rintro e w8 ⟨rfl, hb8⟩
    have hz8 : w7.heap.size ≤ w8.heap.size := by have := hb8.size; first | exact this | (simp only [World.size_alloc] at this; omega)
    have kW08 := kW07.on hb8
    have kG08 := kG07.on hb8
    have kH08 := kH07.on hb8
    have oW08 := own_on oW07 hb8
    have oG08 := own_on oG07 hb8
    have oH08 := own_on oH07 hb8
    have hB8 : Below w.heap.size w w8 := by exact obB
    clear kW07 kG07 kH07 oW07 oG07 oH07 q0_0 q0_1 q0_2 q0_3 q0_4 q0_5 q0_6 q0_7 q0_8 q0_9 l0 q1_0 q1_1 q1_2 q1_3 q1_4 q1_5 q1_6 q1_7 q1_8 q1_9 l1 q2_0 q2_1 q2_2 q2_3 q2_4 q2_5 q2_6 q2_7 q2_8 q2_9 l2 hb8 hB7
    obtain ⟨q0_0, q0_1, q0_2, q0_3, q0_4, q0_5, q0_6, q0_7, q0_8, q0_9⟩ := kW08.cells10
    have l0 := kW08.lt
    obtain ⟨q1_0, q1_1, q1_2, q1_3, q1_4, q1_5, q1_6, q1_7, q1_8, q1_9⟩ := kG08.cells10
    have l1 := kG08.lt
    obtain ⟨q2_0, q2_1, q2_2, q2_3, q2_4, q2_5, q2_6, q2_7, q2_8, q2_9⟩ := kH08.cells10
    have l2 := kH08.lt
    go_wp2
    go_ret
    exact ⟨rfl, by exact obB⟩
end Go.Proofs.YtmfnfheahehpcaaGreatDoor
