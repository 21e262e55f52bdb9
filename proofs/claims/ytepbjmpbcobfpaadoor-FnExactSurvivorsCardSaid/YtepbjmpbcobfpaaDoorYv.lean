/- Contracts: a block's bytes and whether it is one, FormatBlock in both programs, and the walk of its exact law. The layout of the header is as the program's text lays it. -/
import Derived.Test.YtepbjmpbcobfpaaDoorYu
namespace Go.Proofs.YtepbjmpbcobfpaaDoor
open Go.ChangeShapes Go.WideShapes Go.ChangeAt Go.RowKit Go.Joins
set_option linter.unusedVariables false
set_option linter.unusedSimpArgs false

theorem okB_no1 {b : Bl} (h : inB b.n 0 39 = false) : decide b.ok = false := decide_eq_false fun hb => by have := inB_iff.2 hb.1; rw [h] at this; cases this

theorem okB_no2 {b : Bl} (h : inB b.z 1 64 = false) : decide b.ok = false := decide_eq_false fun hb => by have := inB_iff.2 hb.2.1; rw [h] at this; cases this

theorem okB_no3 {b : Bl} (h : inB b.body.size 1 64 = false) : decide b.ok = false := decide_eq_false fun hb => by
  have := b.len hb
  have h2 : inB (b.body.size : Int) 1 64 = true := inB_iff.2 (by omega)
  rw [h] at h2; cases h2

theorem okB_raw {b : Bl} (h1 : inB b.n 0 39 = true) (h2 : inB b.z 1 64 = true) (hr : b.raw = true) : decide b.ok = ((b.body.size : Int) == b.z) := by
  have h1 := inB_iff.1 h1
  have h2 := inB_iff.1 h2
  rw [Bool.eq_iff_iff]
  simp [Bl.ok, hr]
  omega

theorem okB_not {b : Bl} (h1 : inB b.n 0 39 = true) (h2 : inB b.z 1 64 = true) (h3 : inB b.body.size 1 64 = true) (hr : b.raw = false) : decide b.ok = decide ((b.body.size : Int) < b.z) := by
  have h1 := inB_iff.1 h1
  have h2 := inB_iff.1 h2
  have h3 := inB_iff.1 h3
  rw [Bool.eq_iff_iff]
  simp [Bl.ok, hr]
  omega

set_option maxHeartbeats 4000000 in
set_option maxRecDepth 100000 in
theorem c_blockValid (b : Bl) (w : World) (hL : Lay w) (hn : -9223372036854775808 ≤ b.n ∧ b.n ≤ 9223372036854775807) (hz : -9223372036854775808 ≤ b.z ∧ b.z ≤ 9223372036854775807) (hs : b.body.size ≤ maxLen) : Calls Tryd.prog 43 #[.agg #[.int .i64 b.n, .bool b.raw, .int .i64 b.z, .string b.body]] w fun e w' => e = .returned (.bool (decide b.ok)) ∧ Below w.heap.size w w' := by
  unfold maxLen at hs
  have HH := hid (fun (v : World) => c_headerOf b v)
  have HK := hid (Blk.new w 35 #[.int .i64 b.n, .bool b.raw, .int .i64 b.z, .string b.body])
  have HB := hid (bel_alloc (Below.refl _ w) (.cells #[.int .i64 b.n, .bool b.raw, .int .i64 b.z, .string b.body] 35))
  have HL := hid hL
  have ix0 : ∀ W : World, (Instr.index 73 (.agg #[.int .i64 181, .int .i64 (b.kind.toNat : Int), .int .i64 b.n, .int .i64 b.z, .int .i64 (b.body.size : Int)]) (.int .i64 0)).run Tryd.prog W = .ok (.int .i64 181) W := fun _ => by kernel_rfl
  have ix1 : ∀ W : World, (Instr.index 73 (.agg #[.int .i64 181, .int .i64 (b.kind.toNat : Int), .int .i64 b.n, .int .i64 b.z, .int .i64 (b.body.size : Int)]) (.int .i64 1)).run Tryd.prog W = .ok (.int .i64 (b.kind.toNat : Int)) W := fun _ => by kernel_rfl
  have ix2 : ∀ W : World, (Instr.index 73 (.agg #[.int .i64 181, .int .i64 (b.kind.toNat : Int), .int .i64 b.n, .int .i64 b.z, .int .i64 (b.body.size : Int)]) (.int .i64 2)).run Tryd.prog W = .ok (.int .i64 b.n) W := fun _ => by kernel_rfl
  have ix3 : ∀ W : World, (Instr.index 73 (.agg #[.int .i64 181, .int .i64 (b.kind.toNat : Int), .int .i64 b.n, .int .i64 b.z, .int .i64 (b.body.size : Int)]) (.int .i64 3)).run Tryd.prog W = .ok (.int .i64 b.z) W := fun _ => by kernel_rfl
  have ix4 : ∀ W : World, (Instr.index 73 (.agg #[.int .i64 181, .int .i64 (b.kind.toNat : Int), .int .i64 b.n, .int .i64 b.z, .int .i64 (b.body.size : Int)]) (.int .i64 4)).run Tryd.prog W = .ok (.int .i64 (b.body.size : Int)) W := fun _ => by kernel_rfl
  have HA0 := hid (fun (v : World) => c_allows 1 181 181 181 v)
  have HA1 := hid (fun (v : World) => c_allows 1 0 1 (b.kind.toNat : Int) v)
  have HA2 := hid (fun (v : World) => c_allows 2 0 39 b.n v)
  have HA3 := hid (fun (v : World) => c_allows 2 1 64 b.z v)
  have HA4 := hid (fun (v : World) => c_allows 2 1 64 (b.body.size : Int) v)
  have hk := b.kind_lt.1
  have e0 : inB 181 181 181 = true := rfl
  have e1 : inB (b.kind.toNat : Int) 0 1 = true := inB_iff.2 (by omega)
  simp only [e0] at HA0
  simp only [e1] at HA1
  cases h1 : inB b.n 0 39 with
  | false =>
    have HF := hid (okB_no1 h1)
    simp only [h1] at HA2
    go_enter Tryd.func43, Tryd.ntmps43
    go_wp2_with fail
    refine (HH.out _).mono ?_
    rintro e w0 ⟨rfl, hb0⟩
    have HB0 := hid (bel_trans HB.out hb0)
    have HK0 := hid (HK.out.on hb0)
    have HL0 := hid (HL.out.on HB0.out)
    clear hb0
    go_wp2_with fail
    refine wp_loop_rounds 6 ?_
    rw [rounds_succ]
    obtain ⟨l0, l1, l2, l3, l4, l5, l6, l7, l8, l9, l10, l11, l12, l13, l14, lg⟩ := HL0.out.cells
    go_wp2_with fail
    refine (HA0.out _).mono ?_
    rintro e w1 ⟨rfl, hb1⟩
    have HB1 := hid (bel_trans HB0.out hb1)
    have HK1 := hid (HK0.out.on hb1)
    have HL1 := hid (HL0.out.on hb1)
    clear l0 l1 l2 l3 l4 l5 l6 l7 l8 l9 l10 l11 l12 l13 l14 lg hb1 HL0 HB0 HK0
    go_wp2_with fail
    rw [rounds_succ]
    obtain ⟨l0, l1, l2, l3, l4, l5, l6, l7, l8, l9, l10, l11, l12, l13, l14, lg⟩ := HL1.out.cells
    go_wp2_with fail
    refine (HA1.out _).mono ?_
    rintro e w2 ⟨rfl, hb2⟩
    have HB2 := hid (bel_trans HB1.out hb2)
    have HK2 := hid (HK1.out.on hb2)
    have HL2 := hid (HL1.out.on hb2)
    clear l0 l1 l2 l3 l4 l5 l6 l7 l8 l9 l10 l11 l12 l13 l14 lg hb2 HL1 HB1 HK1
    go_wp2_with fail
    rw [rounds_succ]
    obtain ⟨l0, l1, l2, l3, l4, l5, l6, l7, l8, l9, l10, l11, l12, l13, l14, lg⟩ := HL2.out.cells
    go_wp2_with fail
    refine (HA2.out _).mono ?_
    rintro e w3 ⟨rfl, hb3⟩
    have HB3 := hid (bel_trans HB2.out hb3)
    go_wp2
    go_ret
    exact ⟨ret_bool (by rw [HF.out]), HB3.out⟩
  | true =>
   simp only [h1] at HA2
   cases h2 : inB b.z 1 64 with
   | false =>
    have HF := hid (okB_no2 h2)
    simp only [h2] at HA3
    go_enter Tryd.func43, Tryd.ntmps43
    go_wp2_with fail
    refine (HH.out _).mono ?_
    rintro e w0 ⟨rfl, hb0⟩
    have HB0 := hid (bel_trans HB.out hb0)
    have HK0 := hid (HK.out.on hb0)
    have HL0 := hid (HL.out.on HB0.out)
    clear hb0
    go_wp2_with fail
    refine wp_loop_rounds 6 ?_
    rw [rounds_succ]
    obtain ⟨l0, l1, l2, l3, l4, l5, l6, l7, l8, l9, l10, l11, l12, l13, l14, lg⟩ := HL0.out.cells
    go_wp2_with fail
    refine (HA0.out _).mono ?_
    rintro e w1 ⟨rfl, hb1⟩
    have HB1 := hid (bel_trans HB0.out hb1)
    have HK1 := hid (HK0.out.on hb1)
    have HL1 := hid (HL0.out.on hb1)
    clear l0 l1 l2 l3 l4 l5 l6 l7 l8 l9 l10 l11 l12 l13 l14 lg hb1 HL0 HB0 HK0
    go_wp2_with fail
    rw [rounds_succ]
    obtain ⟨l0, l1, l2, l3, l4, l5, l6, l7, l8, l9, l10, l11, l12, l13, l14, lg⟩ := HL1.out.cells
    go_wp2_with fail
    refine (HA1.out _).mono ?_
    rintro e w2 ⟨rfl, hb2⟩
    have HB2 := hid (bel_trans HB1.out hb2)
    have HK2 := hid (HK1.out.on hb2)
    have HL2 := hid (HL1.out.on hb2)
    clear l0 l1 l2 l3 l4 l5 l6 l7 l8 l9 l10 l11 l12 l13 l14 lg hb2 HL1 HB1 HK1
    go_wp2_with fail
    rw [rounds_succ]
    obtain ⟨l0, l1, l2, l3, l4, l5, l6, l7, l8, l9, l10, l11, l12, l13, l14, lg⟩ := HL2.out.cells
    go_wp2_with fail
    refine (HA2.out _).mono ?_
    rintro e w3 ⟨rfl, hb3⟩
    have HB3 := hid (bel_trans HB2.out hb3)
    have HK3 := hid (HK2.out.on hb3)
    have HL3 := hid (HL2.out.on hb3)
    clear l0 l1 l2 l3 l4 l5 l6 l7 l8 l9 l10 l11 l12 l13 l14 lg hb3 HL2 HB2 HK2
    go_wp2_with fail
    rw [rounds_succ]
    obtain ⟨l0, l1, l2, l3, l4, l5, l6, l7, l8, l9, l10, l11, l12, l13, l14, lg⟩ := HL3.out.cells
    go_wp2_with fail
    refine (HA3.out _).mono ?_
    rintro e w4 ⟨rfl, hb4⟩
    have HB4 := hid (bel_trans HB3.out hb4)
    go_wp2
    go_ret
    exact ⟨ret_bool (by rw [HF.out]), HB4.out⟩
   | true =>
    simp only [h2] at HA3
    cases h3 : inB (b.body.size : Int) 1 64 with
    | false =>
     have HF := hid (okB_no3 h3)
     simp only [h3] at HA4
     go_enter Tryd.func43, Tryd.ntmps43
     go_wp2_with fail
     refine (HH.out _).mono ?_
     rintro e w0 ⟨rfl, hb0⟩
     have HB0 := hid (bel_trans HB.out hb0)
     have HK0 := hid (HK.out.on hb0)
     have HL0 := hid (HL.out.on HB0.out)
     clear hb0
     go_wp2_with fail
     refine wp_loop_rounds 6 ?_
     rw [rounds_succ]
     obtain ⟨l0, l1, l2, l3, l4, l5, l6, l7, l8, l9, l10, l11, l12, l13, l14, lg⟩ := HL0.out.cells
     go_wp2_with fail
     refine (HA0.out _).mono ?_
     rintro e w1 ⟨rfl, hb1⟩
     have HB1 := hid (bel_trans HB0.out hb1)
     have HK1 := hid (HK0.out.on hb1)
     have HL1 := hid (HL0.out.on hb1)
     clear l0 l1 l2 l3 l4 l5 l6 l7 l8 l9 l10 l11 l12 l13 l14 lg hb1 HL0 HB0 HK0
     go_wp2_with fail
     rw [rounds_succ]
     obtain ⟨l0, l1, l2, l3, l4, l5, l6, l7, l8, l9, l10, l11, l12, l13, l14, lg⟩ := HL1.out.cells
     go_wp2_with fail
     refine (HA1.out _).mono ?_
     rintro e w2 ⟨rfl, hb2⟩
     have HB2 := hid (bel_trans HB1.out hb2)
     have HK2 := hid (HK1.out.on hb2)
     have HL2 := hid (HL1.out.on hb2)
     clear l0 l1 l2 l3 l4 l5 l6 l7 l8 l9 l10 l11 l12 l13 l14 lg hb2 HL1 HB1 HK1
     go_wp2_with fail
     rw [rounds_succ]
     obtain ⟨l0, l1, l2, l3, l4, l5, l6, l7, l8, l9, l10, l11, l12, l13, l14, lg⟩ := HL2.out.cells
     go_wp2_with fail
     refine (HA2.out _).mono ?_
     rintro e w3 ⟨rfl, hb3⟩
     have HB3 := hid (bel_trans HB2.out hb3)
     have HK3 := hid (HK2.out.on hb3)
     have HL3 := hid (HL2.out.on hb3)
     clear l0 l1 l2 l3 l4 l5 l6 l7 l8 l9 l10 l11 l12 l13 l14 lg hb3 HL2 HB2 HK2
     go_wp2_with fail
     rw [rounds_succ]
     obtain ⟨l0, l1, l2, l3, l4, l5, l6, l7, l8, l9, l10, l11, l12, l13, l14, lg⟩ := HL3.out.cells
     go_wp2_with fail
     refine (HA3.out _).mono ?_
     rintro e w4 ⟨rfl, hb4⟩
     have HB4 := hid (bel_trans HB3.out hb4)
     have HK4 := hid (HK3.out.on hb4)
     have HL4 := hid (HL3.out.on hb4)
     clear l0 l1 l2 l3 l4 l5 l6 l7 l8 l9 l10 l11 l12 l13 l14 lg hb4 HL3 HB3 HK3
     go_wp2_with fail
     rw [rounds_succ]
     obtain ⟨l0, l1, l2, l3, l4, l5, l6, l7, l8, l9, l10, l11, l12, l13, l14, lg⟩ := HL4.out.cells
     go_wp2_with fail
     refine (HA4.out _).mono ?_
     rintro e w5 ⟨rfl, hb5⟩
     have HB5 := hid (bel_trans HB4.out hb5)
     go_wp2
     go_ret
     exact ⟨ret_bool (by rw [HF.out]), HB5.out⟩
    | true =>
     simp only [h3] at HA4
     have H1 := hid h1
     have H2 := hid h2
     have H3 := hid h3
     clear h1 h2 h3
     go_enter Tryd.func43, Tryd.ntmps43
     go_wp2_with fail
     refine (HH.out _).mono ?_
     rintro e w0 ⟨rfl, hb0⟩
     have HB0 := hid (bel_trans HB.out hb0)
     have HK0 := hid (HK.out.on hb0)
     have HL0 := hid (HL.out.on HB0.out)
     clear hb0
     go_wp2_with fail
     refine wp_loop_rounds 6 ?_
     rw [rounds_succ]
     obtain ⟨l0, l1, l2, l3, l4, l5, l6, l7, l8, l9, l10, l11, l12, l13, l14, lg⟩ := HL0.out.cells
     go_wp2_with fail
     refine (HA0.out _).mono ?_
     rintro e w1 ⟨rfl, hb1⟩
     have HB1 := hid (bel_trans HB0.out hb1)
     have HK1 := hid (HK0.out.on hb1)
     have HL1 := hid (HL0.out.on hb1)
     clear l0 l1 l2 l3 l4 l5 l6 l7 l8 l9 l10 l11 l12 l13 l14 lg hb1 HL0 HB0 HK0
     go_wp2_with fail
     rw [rounds_succ]
     obtain ⟨l0, l1, l2, l3, l4, l5, l6, l7, l8, l9, l10, l11, l12, l13, l14, lg⟩ := HL1.out.cells
     go_wp2_with fail
     refine (HA1.out _).mono ?_
     rintro e w2 ⟨rfl, hb2⟩
     have HB2 := hid (bel_trans HB1.out hb2)
     have HK2 := hid (HK1.out.on hb2)
     have HL2 := hid (HL1.out.on hb2)
     clear l0 l1 l2 l3 l4 l5 l6 l7 l8 l9 l10 l11 l12 l13 l14 lg hb2 HL1 HB1 HK1
     go_wp2_with fail
     rw [rounds_succ]
     obtain ⟨l0, l1, l2, l3, l4, l5, l6, l7, l8, l9, l10, l11, l12, l13, l14, lg⟩ := HL2.out.cells
     go_wp2_with fail
     refine (HA2.out _).mono ?_
     rintro e w3 ⟨rfl, hb3⟩
     have HB3 := hid (bel_trans HB2.out hb3)
     have HK3 := hid (HK2.out.on hb3)
     have HL3 := hid (HL2.out.on hb3)
     clear l0 l1 l2 l3 l4 l5 l6 l7 l8 l9 l10 l11 l12 l13 l14 lg hb3 HL2 HB2 HK2
     go_wp2_with fail
     rw [rounds_succ]
     obtain ⟨l0, l1, l2, l3, l4, l5, l6, l7, l8, l9, l10, l11, l12, l13, l14, lg⟩ := HL3.out.cells
     go_wp2_with fail
     refine (HA3.out _).mono ?_
     rintro e w4 ⟨rfl, hb4⟩
     have HB4 := hid (bel_trans HB3.out hb4)
     have HK4 := hid (HK3.out.on hb4)
     have HL4 := hid (HL3.out.on hb4)
     clear l0 l1 l2 l3 l4 l5 l6 l7 l8 l9 l10 l11 l12 l13 l14 lg hb4 HL3 HB3 HK3
     go_wp2_with fail
     rw [rounds_succ]
     obtain ⟨l0, l1, l2, l3, l4, l5, l6, l7, l8, l9, l10, l11, l12, l13, l14, lg⟩ := HL4.out.cells
     go_wp2_with fail
     refine (HA4.out _).mono ?_
     rintro e w5 ⟨rfl, hb5⟩
     have HB5 := hid (bel_trans HB4.out hb5)
     have HK5 := hid (HK4.out.on hb5)
     have HL5 := hid (HL4.out.on hb5)
     clear l0 l1 l2 l3 l4 l5 l6 l7 l8 l9 l10 l11 l12 l13 l14 lg hb5 HL4 HB4 HK4
     go_wp2_with fail
     obtain ⟨p0, p1, p2, p3⟩ := HK5.out.cells4y
     rw [rounds_succ]
     go_wp2
     · rename_i hr
       go_ret
       exact ⟨ret_bool (okB_raw H1.out H2.out hr).symm, HB5.out⟩
     · rename_i hr
       go_ret
       exact ⟨ret_bool (okB_not H1.out H2.out H3.out hr).symm, HB5.out⟩
end Go.Proofs.YtepbjmpbcobfpaaDoor
