/- Walks of the exact laws of SharedStart, SharedEnd, PatchOf, ApplyPatch, InvertPatch. -/
import Derived.Test.YtfklkepodpcdgaaPg
namespace Go.Proofs.Ytfklkepodpcdgaa
open Go.ChangeShapes Go.WideShapes Go.ChangeAt Go.RowKit Go.Joins
set_option linter.unusedVariables false
set_option linter.unusedSimpArgs false

theorem walk_FnExactSharedStart (a b : ByteArray) (w : World) (h_a : a.size ≤ maxLen) (h_b : b.size ≤ maxLen) :
    Calls Try.prog 3 #[.string a, .string b] w fun e w' => e = .returned (.bool true) ∧ Below w.heap.size w w' := by
  have HS := hid (fun (v : World) => c_sSharedStart a b v h_a h_b)
  have HI := hid (fun (v : World) => c_SharedStart a b v h_a h_b)
  obtain ⟨n, hn⟩ : ∃ n, n = sharedS a b := ⟨_, rfl⟩
  simp only [← hn] at HS HI
  clear hn
  unfold maxLen at h_a h_b
  by_cases b1 : (1048576 : Int) < a.size
  · go_enter Try.func3, Try.ntmps3
    go_wp2
    go_ret
    exact ⟨rfl, by (repeat (first | with_reducible (first | assumption | exact Below.refl _ _ | refine bel_alloc ?_ _ | refine bel_drew ?_ | refine bel_drewN ?_ _ | refine bel_set ?_ (by first | omega | (simp; done) | (simp; omega)) _ | refine bel_trans ?_ (by assumption)) | assumption | refine bel_trans ?_ (by assumption)))⟩
  by_cases b2 : (1048576 : Int) < b.size
  · go_enter Try.func3, Try.ntmps3
    go_wp2
    go_ret
    exact ⟨rfl, by (repeat (first | with_reducible (first | assumption | exact Below.refl _ _ | refine bel_alloc ?_ _ | refine bel_drew ?_ | refine bel_drewN ?_ _ | refine bel_set ?_ (by first | omega | (simp; done) | (simp; omega)) _ | refine bel_trans ?_ (by assumption)) | assumption | refine bel_trans ?_ (by assumption)))⟩
  go_enter Try.func3, Try.ntmps3
  go_wp2_with fail
  refine (HS.out _).mono ?_
  rintro e w1 ⟨rfl, hb1⟩
  go_wp2_with fail
  refine (HI.out _).mono ?_
  rintro e w2 ⟨rfl, hb2⟩
  go_wp2
  go_ret
  exact ⟨rfl, by (repeat (first | with_reducible (first | assumption | exact Below.refl _ _ | refine bel_alloc ?_ _ | refine bel_drew ?_ | refine bel_drewN ?_ _ | refine bel_set ?_ (by first | omega | (simp; done) | (simp; omega)) _ | refine bel_trans ?_ (by assumption)) | assumption | refine bel_trans ?_ (by assumption)))⟩

theorem walk_FnExactSharedEnd (a b : ByteArray) (w : World) (h_a : a.size ≤ maxLen) (h_b : b.size ≤ maxLen) :
    Calls Try.prog 4 #[.string a, .string b] w fun e w' => e = .returned (.bool true) ∧ Below w.heap.size w w' := by
  have HS := hid (fun (v : World) => c_sSharedEnd a b v h_a h_b)
  have HI := hid (fun (v : World) => c_SharedEnd a b v h_a h_b)
  obtain ⟨n, hn⟩ : ∃ n, n = sharedE a b := ⟨_, rfl⟩
  simp only [← hn] at HS HI
  clear hn
  unfold maxLen at h_a h_b
  by_cases b1 : (1048576 : Int) < a.size
  · go_enter Try.func4, Try.ntmps4
    go_wp2
    go_ret
    exact ⟨rfl, by (repeat (first | with_reducible (first | assumption | exact Below.refl _ _ | refine bel_alloc ?_ _ | refine bel_drew ?_ | refine bel_drewN ?_ _ | refine bel_set ?_ (by first | omega | (simp; done) | (simp; omega)) _ | refine bel_trans ?_ (by assumption)) | assumption | refine bel_trans ?_ (by assumption)))⟩
  by_cases b2 : (1048576 : Int) < b.size
  · go_enter Try.func4, Try.ntmps4
    go_wp2
    go_ret
    exact ⟨rfl, by (repeat (first | with_reducible (first | assumption | exact Below.refl _ _ | refine bel_alloc ?_ _ | refine bel_drew ?_ | refine bel_drewN ?_ _ | refine bel_set ?_ (by first | omega | (simp; done) | (simp; omega)) _ | refine bel_trans ?_ (by assumption)) | assumption | refine bel_trans ?_ (by assumption)))⟩
  go_enter Try.func4, Try.ntmps4
  go_wp2_with fail
  refine (HS.out _).mono ?_
  rintro e w1 ⟨rfl, hb1⟩
  go_wp2_with fail
  refine (HI.out _).mono ?_
  rintro e w2 ⟨rfl, hb2⟩
  go_wp2
  go_ret
  exact ⟨rfl, by (repeat (first | with_reducible (first | assumption | exact Below.refl _ _ | refine bel_alloc ?_ _ | refine bel_drew ?_ | refine bel_drewN ?_ _ | refine bel_set ?_ (by first | omega | (simp; done) | (simp; omega)) _ | refine bel_trans ?_ (by assumption)) | assumption | refine bel_trans ?_ (by assumption)))⟩

theorem walk_FnExactPatchOf (a b : ByteArray) (w : World) (h_a : a.size ≤ maxLen) (h_b : b.size ≤ maxLen) :
    Calls Try.prog 5 #[.string a, .string b] w fun e w' => e = .returned (.bool true) ∧ Below w.heap.size w w' := by
  obtain ⟨f, t, D, ok, HS, HI⟩ : ∃ (f t : Int) (D : ByteArray) (ok : Bool), (∀ v : World, Calls Try.prog 25 #[.string a, .string b] v fun e w' => e = .returned (.tuple #[.agg #[.int .i64 f, .int .i64 t, .string D], .bool ok]) ∧ Below v.heap.size v w') ∧ (∀ v : World, Calls Try.prog 26 #[.string a, .string b] v fun e w' => e = .returned (.tuple #[.agg #[.int .i64 f, .int .i64 t, .string D], .bool ok]) ∧ Below v.heap.size v w') := by
    by_cases hk : a.size ≤ 2000 ∧ b.size ≤ 2000
    · exact ⟨_, _, _, _, fun v => c_sPatchOf_yes a b v hk.1 hk.2, fun v => c_PatchOf_yes a b v hk.1 hk.2⟩
    · exact ⟨_, _, _, _, fun v => c_sPatchOf_no a b v h_a h_b hk, fun v => c_PatchOf_no a b v h_a h_b hk⟩
  have HS := hid HS
  have HI := hid HI
  unfold maxLen at h_a h_b
  by_cases b1 : (1048576 : Int) < a.size
  · go_enter Try.func5, Try.ntmps5
    go_wp2
    go_ret
    exact ⟨rfl, by (repeat (first | with_reducible (first | assumption | exact Below.refl _ _ | refine bel_alloc ?_ _ | refine bel_drew ?_ | refine bel_drewN ?_ _ | refine bel_set ?_ (by first | omega | (simp; done) | (simp; omega)) _ | refine bel_trans ?_ (by assumption)) | assumption | refine bel_trans ?_ (by assumption)))⟩
  by_cases b2 : (1048576 : Int) < b.size
  · go_enter Try.func5, Try.ntmps5
    go_wp2
    go_ret
    exact ⟨rfl, by (repeat (first | with_reducible (first | assumption | exact Below.refl _ _ | refine bel_alloc ?_ _ | refine bel_drew ?_ | refine bel_drewN ?_ _ | refine bel_set ?_ (by first | omega | (simp; done) | (simp; omega)) _ | refine bel_trans ?_ (by assumption)) | assumption | refine bel_trans ?_ (by assumption)))⟩
  go_enter Try.func5, Try.ntmps5
  go_wp2_with fail
  refine (HS.out _).mono ?_
  rintro e w1 ⟨rfl, hb1⟩
  have HA := hid (Blk.new w1 25 #[.int .i64 f, .int .i64 t, .string D])
  go_wp2_with fail
  refine (HI.out _).mono ?_
  rintro e w2 ⟨rfl, hb2⟩
  have HA2 := hid ((HA.out.on hb2).alloc (.cells #[.int .i64 f, .int .i64 t, .string D] 25))
  obtain ⟨p0, p1, p2⟩ := HA2.out.cells3
  go_wp2_with fail
  refine (c_eqPatch f t D _).mono ?_
  rintro e w3 ⟨rfl, hb3⟩
  go_wp2
  go_ret
  exact ⟨rfl, by (repeat (first | with_reducible (first | assumption | exact Below.refl _ _ | refine bel_alloc ?_ _ | refine bel_drew ?_ | refine bel_drewN ?_ _ | refine bel_set ?_ (by first | omega | (simp; done) | (simp; omega)) _ | refine bel_trans ?_ (by assumption)) | assumption | refine bel_trans ?_ (by assumption)))⟩

theorem walk_FnExactApplyPatch (S : ByteArray) (f t : Int) (D : ByteArray) (w : World) (h_S : S.size ≤ maxLen) (hf : -9223372036854775808 ≤ f ∧ f ≤ 9223372036854775807) (ht : -9223372036854775808 ≤ t ∧ t ≤ 9223372036854775807) (h_D : D.size ≤ maxLen) :
    Calls Try.prog 6 #[.string S, .agg #[.int .i64 f, .int .i64 t, .string D]] w fun e w' => e = .returned (.bool true) ∧ Below w.heap.size w w' := by
  obtain ⟨R, ok, HS, HI⟩ : ∃ (R : ByteArray) (ok : Bool), (∀ v : World, Calls Try.prog 29 #[.string S, .agg #[.int .i64 f, .int .i64 t, .string D]] v fun e w' => e = .returned (.tuple #[.string R, .bool ok]) ∧ Below v.heap.size v w') ∧ (∀ v : World, Calls Try.prog 31 #[.string S, .agg #[.int .i64 f, .int .i64 t, .string D]] v fun e w' => e = .returned (.tuple #[.string R, .bool ok]) ∧ Below v.heap.size v w') := by
    cases hk : patchOk S.size f t D with
    | true => exact ⟨_, _, fun v => c_sApplyPatch_yes S D f t v hf ht h_D h_S hk, fun v => c_ApplyPatch_yes S D f t v hf ht h_D h_S hk⟩
    | false => exact ⟨_, _, fun v => c_sApplyPatch_no S D f t v hf ht h_D h_S hk, fun v => c_ApplyPatch_no S D f t v hf ht h_D h_S hk⟩
  have HS := hid HS
  have HI := hid HI
  have HZn := hid (fun (v : World) (h : 1048576 < D.size) => c_szPatch_no f t D v h h_D)
  unfold maxLen at h_S h_D
  have HL := hid (Blk.new w 29 #[.int .i64 f, .int .i64 t, .string D])
  obtain ⟨p0, p1, p2⟩ := HL.out.cells3
  by_cases b1 : (1048576 : Int) < S.size
  · go_enter Try.func6, Try.ntmps6
    go_wp2
    go_ret
    exact ⟨rfl, by (repeat (first | with_reducible (first | assumption | exact Below.refl _ _ | refine bel_alloc ?_ _ | refine bel_drew ?_ | refine bel_drewN ?_ _ | refine bel_set ?_ (by first | omega | (simp; done) | (simp; omega)) _ | refine bel_trans ?_ (by assumption)) | assumption | refine bel_trans ?_ (by assumption)))⟩
  by_cases b2 : 1048576 < D.size
  · go_enter Try.func6, Try.ntmps6
    go_wp2_with fail
    refine (HZn.out _ b2).mono ?_
    rintro e w1 ⟨rfl, hb1⟩
    go_wp2
    go_ret
    exact ⟨rfl, by (repeat (first | with_reducible (first | assumption | exact Below.refl _ _ | refine bel_alloc ?_ _ | refine bel_drew ?_ | refine bel_drewN ?_ _ | refine bel_set ?_ (by first | omega | (simp; done) | (simp; omega)) _ | refine bel_trans ?_ (by assumption)) | assumption | refine bel_trans ?_ (by assumption)))⟩
  have b3 : ¬ (1048576 - (D.size : Int) < 0) := by omega
  go_enter Try.func6, Try.ntmps6
  go_wp2_with fail
  refine (c_szPatch f t D _ (by omega)).mono ?_
  rintro e w1 ⟨rfl, hb1⟩
  have HL1 := hid (HL.out.on hb1)
  clear p0 p1 p2
  obtain ⟨p0, p1, p2⟩ := HL1.out.cells3
  go_wp2_with fail
  refine (c_toPatch f t D _).mono ?_
  rintro e w2 ⟨rfl, hb2⟩
  have HL2 := hid (HL1.out.on hb2)
  clear p0 p1 p2
  go_wp2_with fail
  refine (HS.out _).mono ?_
  rintro e w3 ⟨rfl, hb3⟩
  have hB3 : Below w.heap.size w w3 := by (repeat (first | with_reducible (first | assumption | exact Below.refl _ _ | refine bel_alloc ?_ _ | refine bel_drew ?_ | refine bel_drewN ?_ _ | refine bel_set ?_ (by first | omega | (simp; done) | (simp; omega)) _ | refine bel_trans ?_ (by assumption)) | assumption | refine bel_trans ?_ (by assumption)))
  have HL3 := hid (HL2.out.on hb3)
  obtain ⟨p0, p1, p2⟩ := HL3.out.cells3
  clear hb1 hb2 hb3
  go_wp2_with fail
  refine (c_toPatch f t D _).mono ?_
  rintro e w4 ⟨rfl, hb4⟩
  clear p0 p1 p2
  go_wp2_with fail
  refine (HI.out _).mono ?_
  rintro e w5 ⟨rfl, hb5⟩
  go_wp2
  go_ret
  exact ⟨rfl, by (repeat (first | with_reducible (first | assumption | exact Below.refl _ _ | refine bel_alloc ?_ _ | refine bel_drew ?_ | refine bel_drewN ?_ _ | refine bel_set ?_ (by first | omega | (simp; done) | (simp; omega)) _ | refine bel_trans ?_ (by assumption)) | assumption | refine bel_trans ?_ (by assumption)))⟩

theorem walk_FnExactInvertPatch (S : ByteArray) (f t : Int) (D : ByteArray) (w : World) (h_S : S.size ≤ maxLen) (hf : -9223372036854775808 ≤ f ∧ f ≤ 9223372036854775807) (ht : -9223372036854775808 ≤ t ∧ t ≤ 9223372036854775807) (h_D : D.size ≤ maxLen) :
    Calls Try.prog 7 #[.string S, .agg #[.int .i64 f, .int .i64 t, .string D]] w fun e w' => e = .returned (.bool true) ∧ Below w.heap.size w w' := by
  obtain ⟨f2, t2, D2, ok, HS, HI⟩ : ∃ (f2 t2 : Int) (D2 : ByteArray) (ok : Bool), (∀ v : World, Calls Try.prog 32 #[.string S, .agg #[.int .i64 f, .int .i64 t, .string D]] v fun e w' => e = .returned (.tuple #[.agg #[.int .i64 f2, .int .i64 t2, .string D2], .bool ok]) ∧ Below v.heap.size v w') ∧ (∀ v : World, Calls Try.prog 33 #[.string S, .agg #[.int .i64 f, .int .i64 t, .string D]] v fun e w' => e = .returned (.tuple #[.agg #[.int .i64 f2, .int .i64 t2, .string D2], .bool ok]) ∧ Below v.heap.size v w') := by
    cases hk : patchOk S.size f t D with
    | true => exact ⟨_, _, _, _, fun v => c_sInvertPatch_yes S D f t v hf ht h_D h_S hk, fun v => c_InvertPatch_yes S D f t v hf ht h_D h_S hk⟩
    | false => exact ⟨_, _, _, _, fun v => c_sInvertPatch_no S D f t v hf ht h_D h_S hk, fun v => c_InvertPatch_no S D f t v hf ht h_D h_S hk⟩
  have HS := hid HS
  have HI := hid HI
  have HZn := hid (fun (v : World) (h : 1048576 < D.size) => c_szPatch_no f t D v h h_D)
  unfold maxLen at h_S h_D
  have HL := hid (Blk.new w 29 #[.int .i64 f, .int .i64 t, .string D])
  obtain ⟨p0, p1, p2⟩ := HL.out.cells3
  by_cases b1 : (1048576 : Int) < S.size
  · go_enter Try.func7, Try.ntmps7
    go_wp2
    go_ret
    exact ⟨rfl, by (repeat (first | with_reducible (first | assumption | exact Below.refl _ _ | refine bel_alloc ?_ _ | refine bel_drew ?_ | refine bel_drewN ?_ _ | refine bel_set ?_ (by first | omega | (simp; done) | (simp; omega)) _ | refine bel_trans ?_ (by assumption)) | assumption | refine bel_trans ?_ (by assumption)))⟩
  by_cases b2 : 1048576 < D.size
  · go_enter Try.func7, Try.ntmps7
    go_wp2_with fail
    refine (HZn.out _ b2).mono ?_
    rintro e w1 ⟨rfl, hb1⟩
    go_wp2
    go_ret
    exact ⟨rfl, by (repeat (first | with_reducible (first | assumption | exact Below.refl _ _ | refine bel_alloc ?_ _ | refine bel_drew ?_ | refine bel_drewN ?_ _ | refine bel_set ?_ (by first | omega | (simp; done) | (simp; omega)) _ | refine bel_trans ?_ (by assumption)) | assumption | refine bel_trans ?_ (by assumption)))⟩
  have b3 : ¬ (1048576 - (D.size : Int) < 0) := by omega
  go_enter Try.func7, Try.ntmps7
  go_wp2_with fail
  refine (c_szPatch f t D _ (by omega)).mono ?_
  rintro e w1 ⟨rfl, hb1⟩
  have HL1 := hid (HL.out.on hb1)
  clear p0 p1 p2
  obtain ⟨p0, p1, p2⟩ := HL1.out.cells3
  go_wp2_with fail
  refine (c_toPatch f t D _).mono ?_
  rintro e w2 ⟨rfl, hb2⟩
  have HL2 := hid (HL1.out.on hb2)
  clear p0 p1 p2
  go_wp2_with fail
  refine (HS.out _).mono ?_
  rintro e w3 ⟨rfl, hb3⟩
  have hB3 : Below w.heap.size w w3 := by (repeat (first | with_reducible (first | assumption | exact Below.refl _ _ | refine bel_alloc ?_ _ | refine bel_drew ?_ | refine bel_drewN ?_ _ | refine bel_set ?_ (by first | omega | (simp; done) | (simp; omega)) _ | refine bel_trans ?_ (by assumption)) | assumption | refine bel_trans ?_ (by assumption)))
  have HL3 := hid ((HL2.out.on hb3).alloc (.cells #[.int .i64 f2, .int .i64 t2, .string D2] 25))
  obtain ⟨p0, p1, p2⟩ := HL3.out.cells3
  have HA := hid (Blk.new w3 25 #[.int .i64 f2, .int .i64 t2, .string D2])
  clear hb1 hb2 hb3
  go_wp2_with fail
  refine (c_toPatch f t D _).mono ?_
  rintro e w4 ⟨rfl, hb4⟩
  clear p0 p1 p2
  go_wp2_with fail
  refine (HI.out _).mono ?_
  rintro e w5 ⟨rfl, hb5⟩
  have HA2 := hid (((HA.out.on hb4).on hb5).alloc (.cells #[.int .i64 f2, .int .i64 t2, .string D2] 25))
  obtain ⟨p0, p1, p2⟩ := HA2.out.cells3
  have hB5 : Below w.heap.size w w5 := by (repeat (first | with_reducible (first | assumption | exact Below.refl _ _ | refine bel_alloc ?_ _ | refine bel_drew ?_ | refine bel_drewN ?_ _ | refine bel_set ?_ (by first | omega | (simp; done) | (simp; omega)) _ | refine bel_trans ?_ (by assumption)) | assumption | refine bel_trans ?_ (by assumption)))
  clear hb4 hb5
  go_wp2_with fail
  refine (c_eqPatch f2 t2 D2 _).mono ?_
  rintro e w6 ⟨rfl, hb6⟩
  go_wp2
  go_ret
  exact ⟨rfl, by (repeat (first | with_reducible (first | assumption | exact Below.refl _ _ | refine bel_alloc ?_ _ | refine bel_drew ?_ | refine bel_drewN ?_ _ | refine bel_set ?_ (by first | omega | (simp; done) | (simp; omega)) _ | refine bel_trans ?_ (by assumption)) | assumption | refine bel_trans ?_ (by assumption)))⟩
end Go.Proofs.Ytfklkepodpcdgaa
