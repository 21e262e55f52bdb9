/- Contracts of ApplyPatch, InvertPatch, PatchOf in both programs. No condition but that the numbers are ints. -/
import Derived.Test.YtfklkepodpcdgaaPh
import Derived.Test.YtfklkepodpcdgaaBb
import Derived.BigRegion
namespace Go.Proofs.Ytfklkepodpcdgaa
open Go.ChangeShapes Go.WideShapes Go.ChangeAt Go.RowKit Go.Joins
set_option linter.unusedVariables false
set_option linter.unusedSimpArgs false

def patchOk (n : Nat) (f t : Int) (D : ByteArray) : Bool := decide (0 ≤ f ∧ f ≤ t ∧ t ≤ n ∧ n ≤ 2000 ∧ D.size ≤ 2000 ∧ (n : Int) - t + f + D.size ≤ 2000)
def ptV (f t : Int) (D : ByteArray) : Value := .agg #[.int .i64 f, .int .i64 t, .string D]

theorem c_l6Range (f t z : Int) (w : World) : Calls Try.prog 135 #[.int .i64 f, .int .i64 t, .int .i64 z] w (Same (.bool (decide (0 ≤ f ∧ f ≤ t ∧ t ≤ z))) w) := by
  by_cases h1 : 0 ≤ t ∧ t ≤ z
  · have e1 : inB t 0 z = true := inB_iff.2 h1
    by_cases h2 : 0 ≤ f ∧ f ≤ t
    · have e2 : inB f 0 t = true := inB_iff.2 h2
      have HR := hid (show decide (0 ≤ f ∧ f ≤ t ∧ t ≤ z) = true from decide_eq_true (by omega))
      have H1 := hid (fun (v : World) => c_l1In t 0 z v)
      have H2 := hid (fun (v : World) => c_l1In f 0 t v)
      simp only [e1] at H1
      simp only [e2] at H2
      clear e1 e2 h1 h2
      go_enter Try.func135, Try.ntmps135
      go_wp2_with fail
      refine (H1.out _).mono ?_
      rintro e w1 ⟨rfl, rfl⟩
      go_wp2_with fail
      refine (H2.out _).mono ?_
      rintro e w1 ⟨rfl, rfl⟩
      go_wp2
      go_ret
      exact ⟨ret_bool HR.out.symm, rfl⟩
    · have e2 : inB f 0 t = false := by rw [Bool.eq_false_iff]; exact fun e => h2 (inB_iff.1 e)
      have HR := hid (show decide (0 ≤ f ∧ f ≤ t ∧ t ≤ z) = false from decide_eq_false (by omega))
      have H1 := hid (fun (v : World) => c_l1In t 0 z v)
      have H2 := hid (fun (v : World) => c_l1In f 0 t v)
      simp only [e1] at H1
      simp only [e2] at H2
      clear e1 e2 h1 h2
      go_enter Try.func135, Try.ntmps135
      go_wp2_with fail
      refine (H1.out _).mono ?_
      rintro e w1 ⟨rfl, rfl⟩
      go_wp2_with fail
      refine (H2.out _).mono ?_
      rintro e w1 ⟨rfl, rfl⟩
      go_wp2
      go_ret
      exact ⟨ret_bool HR.out.symm, rfl⟩
  · have e1 : inB t 0 z = false := by rw [Bool.eq_false_iff]; exact fun e => h1 (inB_iff.1 e)
    have HR := hid (show decide (0 ≤ f ∧ f ≤ t ∧ t ≤ z) = false from decide_eq_false (by omega))
    have H1 := hid (fun (v : World) => c_l1In t 0 z v)
    simp only [e1] at H1
    clear e1 h1
    go_enter Try.func135, Try.ntmps135
    go_wp2_with fail
    refine (H1.out _).mono ?_
    rintro e w1 ⟨rfl, rfl⟩
    go_wp2
    go_ret
    exact ⟨ret_bool HR.out.symm, rfl⟩

theorem c_patchValid (f t : Int) (D : ByteArray) (w : World) (hf : -9223372036854775808 ≤ f ∧ f ≤ 9223372036854775807) (ht : -9223372036854775808 ≤ t ∧ t ≤ 9223372036854775807) (hD : D.size ≤ maxLen) : Calls Try.prog 136 #[.agg #[.int .i64 f, .int .i64 t, .string D]] w fun e w' => e = .returned (.bool (decide (0 ≤ f ∧ f ≤ t ∧ t ≤ 2000 ∧ D.size ≤ 2000))) ∧ Below w.heap.size w w' := by
  unfold maxLen at hD
  by_cases h1 : 0 ≤ f
  · by_cases h2 : f ≤ t
    · by_cases h3 : t ≤ 2000
      · by_cases h4 : (D.size : Int) ≤ 2000
        all_goals
          go_enter Try.func136, Try.ntmps136
          go_wp2
          go_ret
          exact ⟨ret_bool (by rw [Bool.eq_iff_iff]; simp; omega), by (repeat (first | with_reducible (first | assumption | exact Below.refl _ _ | refine bel_alloc ?_ _ | refine bel_drew ?_ | refine bel_drewN ?_ _ | refine bel_set ?_ (by first | omega | (simp; done) | (simp; omega)) _ | refine bel_trans ?_ (by assumption)) | assumption | refine bel_trans ?_ (by assumption)))⟩
      · go_enter Try.func136, Try.ntmps136
        go_wp2
        go_ret
        exact ⟨ret_bool (by rw [Bool.eq_iff_iff]; simp; omega), by (repeat (first | with_reducible (first | assumption | exact Below.refl _ _ | refine bel_alloc ?_ _ | refine bel_drew ?_ | refine bel_drewN ?_ _ | refine bel_set ?_ (by first | omega | (simp; done) | (simp; omega)) _ | refine bel_trans ?_ (by assumption)) | assumption | refine bel_trans ?_ (by assumption)))⟩
    · go_enter Try.func136, Try.ntmps136
      go_wp2
      go_ret
      exact ⟨ret_bool (by rw [Bool.eq_iff_iff]; simp; omega), by (repeat (first | with_reducible (first | assumption | exact Below.refl _ _ | refine bel_alloc ?_ _ | refine bel_drew ?_ | refine bel_drewN ?_ _ | refine bel_set ?_ (by first | omega | (simp; done) | (simp; omega)) _ | refine bel_trans ?_ (by assumption)) | assumption | refine bel_trans ?_ (by assumption)))⟩
  · go_enter Try.func136, Try.ntmps136
    go_wp2
    go_ret
    exact ⟨ret_bool (by rw [Bool.eq_iff_iff]; simp; omega), by (repeat (first | with_reducible (first | assumption | exact Below.refl _ _ | refine bel_alloc ?_ _ | refine bel_drew ?_ | refine bel_drewN ?_ _ | refine bel_set ?_ (by first | omega | (simp; done) | (simp; omega)) _ | refine bel_trans ?_ (by assumption)) | assumption | refine bel_trans ?_ (by assumption)))⟩

theorem c_patchFits (S D : ByteArray) (f t : Int) (w : World) (hf : -9223372036854775808 ≤ f ∧ f ≤ 9223372036854775807) (ht : -9223372036854775808 ≤ t ∧ t ≤ 9223372036854775807) (hD : D.size ≤ maxLen) (hS : S.size ≤ maxLen) : Calls Try.prog 88 #[.string S, .agg #[.int .i64 f, .int .i64 t, .string D]] w fun e w' => e = .returned (.bool (patchOk S.size f t D)) ∧ Below w.heap.size w w' := by
  have HV := hid (fun (v : World) => c_patchValid f t D v hf ht hD)
  unfold maxLen at hD hS
  by_cases h1 : 0 ≤ f ∧ f ≤ t ∧ t ≤ 2000 ∧ D.size ≤ 2000
  · simp only [decide_eq_true h1] at HV
    by_cases h2 : (S.size : Int) ≤ 2000
    · by_cases h3 : t ≤ (S.size : Int)
      · by_cases h4 : (S.size : Int) - (t - f) + (D.size : Int) ≤ 2000
        all_goals
          go_enter Try.func88, Try.ntmps88
          go_wp2_with fail
          refine (HV.out _).mono ?_
          rintro e w1 ⟨rfl, hb1⟩
          have kP := (Blk.new w 25 #[.int .i64 f, .int .i64 t, .string D]).on hb1
          obtain ⟨p0, p1, p2⟩ := kP.cells3
          go_wp2
          go_ret
          exact ⟨ret_bool (by rw [Bool.eq_iff_iff]; simp [patchOk]; omega), by (repeat (first | with_reducible (first | assumption | exact Below.refl _ _ | refine bel_alloc ?_ _ | refine bel_drew ?_ | refine bel_drewN ?_ _ | refine bel_set ?_ (by first | omega | (simp; done) | (simp; omega)) _ | refine bel_trans ?_ (by assumption)) | assumption | refine bel_trans ?_ (by assumption)))⟩
      · skip
        go_enter Try.func88, Try.ntmps88
        go_wp2_with fail
        refine (HV.out _).mono ?_
        rintro e w1 ⟨rfl, hb1⟩
        have kP := (Blk.new w 25 #[.int .i64 f, .int .i64 t, .string D]).on hb1
        obtain ⟨p0, p1, p2⟩ := kP.cells3
        go_wp2
        go_ret
        exact ⟨ret_bool (by rw [Bool.eq_iff_iff]; simp [patchOk]; omega), by (repeat (first | with_reducible (first | assumption | exact Below.refl _ _ | refine bel_alloc ?_ _ | refine bel_drew ?_ | refine bel_drewN ?_ _ | refine bel_set ?_ (by first | omega | (simp; done) | (simp; omega)) _ | refine bel_trans ?_ (by assumption)) | assumption | refine bel_trans ?_ (by assumption)))⟩
    · skip
      go_enter Try.func88, Try.ntmps88
      go_wp2_with fail
      refine (HV.out _).mono ?_
      rintro e w1 ⟨rfl, hb1⟩
      have kP := (Blk.new w 25 #[.int .i64 f, .int .i64 t, .string D]).on hb1
      obtain ⟨p0, p1, p2⟩ := kP.cells3
      go_wp2
      go_ret
      exact ⟨ret_bool (by rw [Bool.eq_iff_iff]; simp [patchOk]; omega), by (repeat (first | with_reducible (first | assumption | exact Below.refl _ _ | refine bel_alloc ?_ _ | refine bel_drew ?_ | refine bel_drewN ?_ _ | refine bel_set ?_ (by first | omega | (simp; done) | (simp; omega)) _ | refine bel_trans ?_ (by assumption)) | assumption | refine bel_trans ?_ (by assumption)))⟩
  · simp only [decide_eq_false h1] at HV
    go_enter Try.func88, Try.ntmps88
    go_wp2_with fail
    refine (HV.out _).mono ?_
    rintro e w1 ⟨rfl, hb1⟩
    go_wp2
    go_ret
    exact ⟨ret_bool (by rw [Bool.eq_iff_iff]; simp [patchOk]; omega), by (repeat (first | with_reducible (first | assumption | exact Below.refl _ _ | refine bel_alloc ?_ _ | refine bel_drew ?_ | refine bel_drewN ?_ _ | refine bel_set ?_ (by first | omega | (simp; done) | (simp; omega)) _ | refine bel_trans ?_ (by assumption)) | assumption | refine bel_trans ?_ (by assumption)))⟩

theorem c_l6Patch (S D : ByteArray) (f t : Int) (w : World) (hf : -9223372036854775808 ≤ f ∧ f ≤ 9223372036854775807) (ht : -9223372036854775808 ≤ t ∧ t ≤ 9223372036854775807) (hD : D.size ≤ maxLen) (hS : S.size ≤ maxLen) : Calls Try.prog 87 #[.agg #[.int .i64 f, .int .i64 t, .string D], .int .i64 (S.size : Int)] w fun e w' => e = .returned (.bool (patchOk S.size f t D)) ∧ Below w.heap.size w w' := by
  have H1 := hid (fun (v : World) => c_l1In (S.size : Int) 0 2000 v)
  have H2 := hid (fun (v : World) => c_l6Range f t (S.size : Int) v)
  unfold maxLen at hD hS
  obtain ⟨p0, p1, p2⟩ := (Blk.new w 25 #[.int .i64 f, .int .i64 t, .string D]).cells3
  by_cases h1 : S.size ≤ 2000
  · have e1 : inB (S.size : Int) 0 2000 = true := inB_iff.2 (by omega)
    simp only [e1] at H1
    by_cases h2 : 0 ≤ f ∧ f ≤ t ∧ t ≤ (S.size : Int)
    · simp only [decide_eq_true h2] at H2
      by_cases h3 : (D.size : Int) ≤ 2000
      · by_cases h4 : (S.size : Int) - t + f + (D.size : Int) ≤ 2000
        all_goals
          go_enter Try.func87, Try.ntmps87
          go_wp2_with fail
          refine (H1.out _).mono ?_
          rintro e w1 ⟨rfl, rfl⟩
          go_wp2_with fail
          refine (H2.out _).mono ?_
          rintro e w1 ⟨rfl, rfl⟩
          go_wp2
          go_ret
          exact ⟨ret_bool (by rw [Bool.eq_iff_iff]; simp [patchOk]; omega), by (repeat (first | with_reducible (first | assumption | exact Below.refl _ _ | refine bel_alloc ?_ _ | refine bel_drew ?_ | refine bel_drewN ?_ _ | refine bel_set ?_ (by first | omega | (simp; done) | (simp; omega)) _ | refine bel_trans ?_ (by assumption)) | assumption | refine bel_trans ?_ (by assumption)))⟩
      · skip
        go_enter Try.func87, Try.ntmps87
        go_wp2_with fail
        refine (H1.out _).mono ?_
        rintro e w1 ⟨rfl, rfl⟩
        go_wp2_with fail
        refine (H2.out _).mono ?_
        rintro e w1 ⟨rfl, rfl⟩
        go_wp2
        go_ret
        exact ⟨ret_bool (by rw [Bool.eq_iff_iff]; simp [patchOk]; omega), by (repeat (first | with_reducible (first | assumption | exact Below.refl _ _ | refine bel_alloc ?_ _ | refine bel_drew ?_ | refine bel_drewN ?_ _ | refine bel_set ?_ (by first | omega | (simp; done) | (simp; omega)) _ | refine bel_trans ?_ (by assumption)) | assumption | refine bel_trans ?_ (by assumption)))⟩
    · simp only [decide_eq_false h2] at H2
      go_enter Try.func87, Try.ntmps87
      go_wp2_with fail
      refine (H1.out _).mono ?_
      rintro e w1 ⟨rfl, rfl⟩
      go_wp2_with fail
      refine (H2.out _).mono ?_
      rintro e w1 ⟨rfl, rfl⟩
      go_wp2
      go_ret
      exact ⟨ret_bool (by rw [Bool.eq_iff_iff]; simp [patchOk]; omega), by (repeat (first | with_reducible (first | assumption | exact Below.refl _ _ | refine bel_alloc ?_ _ | refine bel_drew ?_ | refine bel_drewN ?_ _ | refine bel_set ?_ (by first | omega | (simp; done) | (simp; omega)) _ | refine bel_trans ?_ (by assumption)) | assumption | refine bel_trans ?_ (by assumption)))⟩
  · have e1 : inB (S.size : Int) 0 2000 = false := by rw [Bool.eq_false_iff]; exact fun e => h1 (by have := inB_iff.1 e; omega)
    simp only [e1] at H1
    go_enter Try.func87, Try.ntmps87
    go_wp2_with fail
    refine (H1.out _).mono ?_
    rintro e w1 ⟨rfl, rfl⟩
    go_wp2
    go_ret
    exact ⟨ret_bool (by rw [Bool.eq_iff_iff]; simp [patchOk]; omega), by (repeat (first | with_reducible (first | assumption | exact Below.refl _ _ | refine bel_alloc ?_ _ | refine bel_drew ?_ | refine bel_drewN ?_ _ | refine bel_set ?_ (by first | omega | (simp; done) | (simp; omega)) _ | refine bel_trans ?_ (by assumption)) | assumption | refine bel_trans ?_ (by assumption)))⟩

theorem c_ApplyPatch_no (S D : ByteArray) (f t : Int) (w : World) (hf : -9223372036854775808 ≤ f ∧ f ≤ 9223372036854775807) (ht : -9223372036854775808 ≤ t ∧ t ≤ 9223372036854775807) (hD : D.size ≤ maxLen) (hS : S.size ≤ maxLen) (hk : patchOk S.size f t D = false) : Calls Try.prog 31 #[.string S, .agg #[.int .i64 f, .int .i64 t, .string D]] w fun e w' => e = .returned (.tuple #[.string ByteArray.empty, .bool false]) ∧ Below w.heap.size w w' := by
  have HV := hid (fun (v : World) => c_patchFits S D f t v hf ht hD hS)
  simp only [hk] at HV
  obtain ⟨p0, p1, p2⟩ := (Blk.new w 25 #[.int .i64 f, .int .i64 t, .string D]).cells3
  clear hk
  go_enter Try.func31, Try.ntmps31
  go_wp2_with fail
  refine (HV.out _).mono ?_
  rintro e w1 ⟨rfl, hb1⟩
  go_wp2
  go_ret2
  exact ⟨rfl, by (repeat (first | with_reducible (first | assumption | exact Below.refl _ _ | refine bel_alloc ?_ _ | refine bel_drew ?_ | refine bel_drewN ?_ _ | refine bel_set ?_ (by first | omega | (simp; done) | (simp; omega)) _ | refine bel_trans ?_ (by assumption)) | assumption | refine bel_trans ?_ (by assumption)))⟩

theorem c_ApplyPatch_yes (S D : ByteArray) (f t : Int) (w : World) (hf : -9223372036854775808 ≤ f ∧ f ≤ 9223372036854775807) (ht : -9223372036854775808 ≤ t ∧ t ≤ 9223372036854775807) (hD : D.size ≤ maxLen) (hS : S.size ≤ maxLen) (hk : patchOk S.size f t D = true) : Calls Try.prog 31 #[.string S, .agg #[.int .i64 f, .int .i64 t, .string D]] w fun e w' => e = .returned (.tuple #[.string (S.extract 0 f.toNat ++ D ++ S.extract t.toNat S.size), .bool true]) ∧ Below w.heap.size w w' := by
  have HV := hid (fun (v : World) => c_patchFits S D f t v hf ht hD hS)
  simp only [hk] at HV
  have hP := of_decide_eq_true (show decide _ = true from hk)
  obtain ⟨F, rfl⟩ : ∃ F : Nat, f = F := ⟨f.toNat, by omega⟩
  obtain ⟨T, rfl⟩ : ∃ T : Nat, t = T := ⟨t.toNat, by omega⟩
  obtain ⟨p0, p1, p2⟩ := (Blk.new w 25 #[.int .i64 (F : Int), .int .i64 (T : Int), .string D]).cells3
  obtain ⟨X, hX⟩ : ∃ X, X = S.extract 0 F := ⟨_, rfl⟩
  obtain ⟨Y, hY⟩ : ∃ Y, Y = S.extract T S.size := ⟨_, rfl⟩
  have zX : X.size = F := by rw [hX, ByteArray.size_extract]; omega
  have zY : Y.size = S.size - T := by rw [hY, ByteArray.size_extract]; omega
  have hx : ∀ w, (Instr.slice 9 (.string S) none (some (.int .i64 (F : Int))) none).run Try.prog w = .ok (.string X) w := fun w => by rw [run_slice_string_h w 9 S Try.underlying9 .i64 (F : Int) (by omega) (by omega), hX]; rfl
  have hy : ∀ w, (Instr.slice 9 (.string S) (some (.int .i64 (T : Int))) none none).run Try.prog w = .ok (.string Y) w := fun w => by rw [run_slice_string_l w 9 S Try.underlying9 .i64 (T : Int) (by omega) (by omega), hY]; rfl
  obtain ⟨Z, hZ⟩ : ∃ Z, Z = X ++ D := ⟨_, rfl⟩
  obtain ⟨R, hR⟩ : ∃ R, R = Z ++ Y := ⟨_, rfl⟩
  have zZ : Z.size = X.size + D.size := by rw [hZ, ByteArray.size_append]
  have hz : ∀ W, (Op.stringOp .add X D).run Try.prog W = .ok (.string Z) W := fun W => by rw [run_string_add_sum W _ _ (by omega), hZ]
  have hr : ∀ W, (Op.stringOp .add Z Y).run Try.prog W = .ok (.string R) W := fun W => by rw [run_string_add_sum W _ _ (by omega), hR]
  have HR := hid (show S.extract 0 (F : Int).toNat ++ D ++ S.extract (T : Int).toNat S.size = R by rw [hR, hZ, hX, hY]; rfl)
  rw [HR.out]
  clear hk hX hY hZ hR zX zY zZ hP
  go_enter Try.func31, Try.ntmps31
  go_wp2_with fail
  refine (HV.out _).mono ?_
  rintro e w1 ⟨rfl, hb1⟩
  have kP := (Blk.new w 25 #[.int .i64 (F : Int), .int .i64 (T : Int), .string D]).on hb1
  obtain ⟨p0, p1, p2⟩ := kP.cells3
  go_wp2_with fail
  go_quiet (fail)
  go_wp2
  go_ret2
  exact ⟨rfl, by (repeat (first | with_reducible (first | assumption | exact Below.refl _ _ | refine bel_alloc ?_ _ | refine bel_drew ?_ | refine bel_drewN ?_ _ | refine bel_set ?_ (by first | omega | (simp; done) | (simp; omega)) _ | refine bel_trans ?_ (by assumption)) | assumption | refine bel_trans ?_ (by assumption)))⟩

theorem c_sApplyPatch_no (S D : ByteArray) (f t : Int) (w : World) (hf : -9223372036854775808 ≤ f ∧ f ≤ 9223372036854775807) (ht : -9223372036854775808 ≤ t ∧ t ≤ 9223372036854775807) (hD : D.size ≤ maxLen) (hS : S.size ≤ maxLen) (hk : patchOk S.size f t D = false) : Calls Try.prog 29 #[.string S, .agg #[.int .i64 f, .int .i64 t, .string D]] w fun e w' => e = .returned (.tuple #[.string ByteArray.empty, .bool false]) ∧ Below w.heap.size w w' := by
  have HV := hid (fun (v : World) => c_l6Patch S D f t v hf ht hD hS)
  simp only [hk] at HV
  obtain ⟨p0, p1, p2⟩ := (Blk.new w 25 #[.int .i64 f, .int .i64 t, .string D]).cells3
  clear hk
  go_enter Try.func29, Try.ntmps29
  go_wp2_with fail
  refine (HV.out _).mono ?_
  rintro e w1 ⟨rfl, hb1⟩
  go_wp2
  go_ret2
  exact ⟨rfl, by (repeat (first | with_reducible (first | assumption | exact Below.refl _ _ | refine bel_alloc ?_ _ | refine bel_drew ?_ | refine bel_drewN ?_ _ | refine bel_set ?_ (by first | omega | (simp; done) | (simp; omega)) _ | refine bel_trans ?_ (by assumption)) | assumption | refine bel_trans ?_ (by assumption)))⟩

theorem c_sApplyPatch_yes (S D : ByteArray) (f t : Int) (w : World) (hf : -9223372036854775808 ≤ f ∧ f ≤ 9223372036854775807) (ht : -9223372036854775808 ≤ t ∧ t ≤ 9223372036854775807) (hD : D.size ≤ maxLen) (hS : S.size ≤ maxLen) (hk : patchOk S.size f t D = true) : Calls Try.prog 29 #[.string S, .agg #[.int .i64 f, .int .i64 t, .string D]] w fun e w' => e = .returned (.tuple #[.string (S.extract 0 f.toNat ++ D ++ S.extract t.toNat S.size), .bool true]) ∧ Below w.heap.size w w' := by
  have HV := hid (fun (v : World) => c_l6Patch S D f t v hf ht hD hS)
  simp only [hk] at HV
  have hP := of_decide_eq_true (show decide _ = true from hk)
  obtain ⟨F, rfl⟩ : ∃ F : Nat, f = F := ⟨f.toNat, by omega⟩
  obtain ⟨T, rfl⟩ : ∃ T : Nat, t = T := ⟨t.toNat, by omega⟩
  obtain ⟨p0, p1, p2⟩ := (Blk.new w 25 #[.int .i64 (F : Int), .int .i64 (T : Int), .string D]).cells3
  obtain ⟨X, hX⟩ : ∃ X, X = S.extract 0 F := ⟨_, rfl⟩
  obtain ⟨Y, hY⟩ : ∃ Y, Y = S.extract T S.size := ⟨_, rfl⟩
  have zX : X.size = F := by rw [hX, ByteArray.size_extract]; omega
  have zY : Y.size = S.size - T := by rw [hY, ByteArray.size_extract]; omega
  have hx : ∀ w, (Instr.slice 9 (.string S) none (some (.int .i64 (F : Int))) none).run Try.prog w = .ok (.string X) w := fun w => by rw [run_slice_string_h w 9 S Try.underlying9 .i64 (F : Int) (by omega) (by omega), hX]; rfl
  have hy : ∀ w, (Instr.slice 9 (.string S) (some (.int .i64 (T : Int))) none none).run Try.prog w = .ok (.string Y) w := fun w => by rw [run_slice_string_l w 9 S Try.underlying9 .i64 (T : Int) (by omega) (by omega), hY]; rfl
  obtain ⟨Z, hZ⟩ : ∃ Z, Z = X ++ D := ⟨_, rfl⟩
  obtain ⟨R, hR⟩ : ∃ R, R = Z ++ Y := ⟨_, rfl⟩
  have zZ : Z.size = X.size + D.size := by rw [hZ, ByteArray.size_append]
  have hz : ∀ W, (Op.stringOp .add X D).run Try.prog W = .ok (.string Z) W := fun W => by rw [run_string_add_sum W _ _ (by omega), hZ]
  have hr : ∀ W, (Op.stringOp .add Z Y).run Try.prog W = .ok (.string R) W := fun W => by rw [run_string_add_sum W _ _ (by omega), hR]
  have HR := hid (show S.extract 0 (F : Int).toNat ++ D ++ S.extract (T : Int).toNat S.size = R by rw [hR, hZ, hX, hY]; rfl)
  rw [HR.out]
  clear hk hX hY hZ hR zX zY zZ hP
  go_enter Try.func29, Try.ntmps29
  go_wp2_with fail
  refine (HV.out _).mono ?_
  rintro e w1 ⟨rfl, hb1⟩
  have kP := (Blk.new w 25 #[.int .i64 (F : Int), .int .i64 (T : Int), .string D]).on hb1
  obtain ⟨p0, p1, p2⟩ := kP.cells3
  go_wp2_with fail
  go_quiet (fail)
  go_wp2
  go_ret2
  exact ⟨rfl, by (repeat (first | with_reducible (first | assumption | exact Below.refl _ _ | refine bel_alloc ?_ _ | refine bel_drew ?_ | refine bel_drewN ?_ _ | refine bel_set ?_ (by first | omega | (simp; done) | (simp; omega)) _ | refine bel_trans ?_ (by assumption)) | assumption | refine bel_trans ?_ (by assumption)))⟩

theorem Blk.put3 {w : World} {g : Nat} {t : TypeId} {a b c : Value} (h : Blk w g t #[a, b, c]) (x y z : Value) : Blk (((w.setCell ⟨g, 0, none⟩ x).setCell ⟨g, 1, none⟩ y).setCell ⟨g, 2, none⟩ z) g t #[x, y, z] := ((h.set_ 0 x).set_ 1 y).set_ 2 z

theorem c_InvertPatch_no (S D : ByteArray) (f t : Int) (w : World) (hf : -9223372036854775808 ≤ f ∧ f ≤ 9223372036854775807) (ht : -9223372036854775808 ≤ t ∧ t ≤ 9223372036854775807) (hD : D.size ≤ maxLen) (hS : S.size ≤ maxLen) (hk : patchOk S.size f t D = false) : Calls Try.prog 33 #[.string S, .agg #[.int .i64 f, .int .i64 t, .string D]] w fun e w' => e = .returned (.tuple #[.agg #[.int .i64 0, .int .i64 0, .string ByteArray.empty], .bool false]) ∧ Below w.heap.size w w' := by
  have HV := hid (fun (v : World) => c_patchFits S D f t v hf ht hD hS)
  simp only [hk] at HV
  have HQ := hid (show Blk ((w.alloc (.cells #[.int .i64 f, .int .i64 t, .string D] 25)).alloc (.cells #[.int .i64 0, .int .i64 0, .string ByteArray.empty] 25)) (w.heap.size + 1) 25 #[.int .i64 0, .int .i64 0, .string ByteArray.empty] by have kQ := Blk.new (w.alloc (.cells #[.int .i64 f, .int .i64 t, .string D] 25)) 25 #[.int .i64 0, .int .i64 0, .string ByteArray.empty]; rw [World.size_alloc] at kQ; exact kQ)
  have HP := hid ((Blk.new w 25 #[.int .i64 f, .int .i64 t, .string D]).alloc (.cells #[.int .i64 0, .int .i64 0, .string ByteArray.empty] 25))
  obtain ⟨p0, p1, p2⟩ := HP.out.cells3
  clear hk
  go_enter Try.func33, Try.ntmps33
  go_wp2_with fail
  refine (HV.out _).mono ?_
  rintro e w1 ⟨rfl, hb1⟩
  have HR := hid (HQ.out.on hb1)
  have HP1 := hid (HP.out.on hb1)
  have hB1 : Below w.heap.size w w1 := by (repeat (first | with_reducible (first | assumption | exact Below.refl _ _ | refine bel_alloc ?_ _ | refine bel_drew ?_ | refine bel_drewN ?_ _ | refine bel_set ?_ (by first | omega | (simp; done) | (simp; omega)) _ | refine bel_trans ?_ (by assumption)) | assumption | refine bel_trans ?_ (by assumption)))
  obtain ⟨q0, q1, q2⟩ := HR.out.cells3
  have f0 := HR.out.frozen 0
  have f1 := HR.out.frozen 1
  have f2 := HR.out.frozen 2
  clear hb1 p0 p1 p2
  obtain ⟨p0, p1, p2⟩ := HP1.out.cells3
  have HS := hid (HR.out.put3 (.int .i64 0) (.int .i64 0) (.string (ByteArray.mk #[])))
  obtain ⟨z0, z1, z2⟩ := HS.out.cells3
  have y0 := (HR.out.set_ 0 (.int .i64 0)).cell 0
  have y1 := ((HR.out.set_ 0 (.int .i64 0)).set_ 1 (.int .i64 0)).cell 1
  go_wp2
  exact bodyPost_ret (v := .tuple #[.agg #[.int .i64 0, .int .i64 0, .string (ByteArray.mk #[])], .bool false]) (by simp [results, Try.results33, go_sem, z0, z1, z2, y0, y1]) rfl ⟨rfl, bel_set (bel_set (bel_set hB1 (by simp) _) (by simp) _) (by simp) _⟩

theorem c_InvertPatch_yes (S D : ByteArray) (f t : Int) (w : World) (hf : -9223372036854775808 ≤ f ∧ f ≤ 9223372036854775807) (ht : -9223372036854775808 ≤ t ∧ t ≤ 9223372036854775807) (hD : D.size ≤ maxLen) (hS : S.size ≤ maxLen) (hk : patchOk S.size f t D = true) : Calls Try.prog 33 #[.string S, .agg #[.int .i64 f, .int .i64 t, .string D]] w fun e w' => e = .returned (.tuple #[.agg #[.int .i64 f, .int .i64 (f + D.size), .string (S.extract f.toNat t.toNat)], .bool true]) ∧ Below w.heap.size w w' := by
  have HV := hid (fun (v : World) => c_patchFits S D f t v hf ht hD hS)
  simp only [hk] at HV
  have hP := of_decide_eq_true (show decide _ = true from hk)
  obtain ⟨F, rfl⟩ : ∃ F : Nat, f = F := ⟨f.toNat, by omega⟩
  obtain ⟨T, rfl⟩ : ∃ T : Nat, t = T := ⟨t.toNat, by omega⟩
  have HQ := hid (show Blk ((w.alloc (.cells #[.int .i64 (F : Int), .int .i64 (T : Int), .string D] 25)).alloc (.cells #[.int .i64 0, .int .i64 0, .string ByteArray.empty] 25)) (w.heap.size + 1) 25 #[.int .i64 0, .int .i64 0, .string ByteArray.empty] by have kQ := Blk.new (w.alloc (.cells #[.int .i64 (F : Int), .int .i64 (T : Int), .string D] 25)) 25 #[.int .i64 0, .int .i64 0, .string ByteArray.empty]; rw [World.size_alloc] at kQ; exact kQ)
  have HP := hid ((Blk.new w 25 #[.int .i64 (F : Int), .int .i64 (T : Int), .string D]).alloc (.cells #[.int .i64 0, .int .i64 0, .string ByteArray.empty] 25))
  obtain ⟨p0, p1, p2⟩ := HP.out.cells3
  obtain ⟨X, hX⟩ : ∃ X, X = S.extract F T := ⟨_, rfl⟩
  have hx : ∀ w, (Instr.slice 9 (.string S) (some (.int .i64 (F : Int))) (some (.int .i64 (T : Int))) none).run Try.prog w = .ok (.string X) w := fun w => by rw [slice_str Try.underlying9 S (F : Int) (T : Int) F T rfl rfl (by omega) (by omega), hX]
  have hw : IntKind.i64.wrap ((F : Int) + (D.size : Int)) = (F : Int) + (D.size : Int) := IntWalk.i64_in _ (by omega)
  have HX := hid (show S.extract (F : Int).toNat (T : Int).toNat = X by rw [hX]; rfl)
  rw [HX.out]
  obtain ⟨E, hE⟩ : ∃ E, E = (F : Int) + (D.size : Int) := ⟨_, rfl⟩
  rw [← hE]
  rw [← hE] at hw
  have HE := hid hE
  have HW2 := hid (show wrap64 ((F : Int) + (D.size : Int)) = E by rw [HE.out]; exact IntWalk.wrap64_in _ (by omega))
  clear hk hX hP
  go_enter Try.func33, Try.ntmps33
  go_wp2_with fail
  refine (HV.out _).mono ?_
  rintro e w1 ⟨rfl, hb1⟩
  have HR := hid (HQ.out.on hb1)
  have HP1 := hid (HP.out.on hb1)
  have hB1 : Below w.heap.size w w1 := by (repeat (first | with_reducible (first | assumption | exact Below.refl _ _ | refine bel_alloc ?_ _ | refine bel_drew ?_ | refine bel_drewN ?_ _ | refine bel_set ?_ (by first | omega | (simp; done) | (simp; omega)) _ | refine bel_trans ?_ (by assumption)) | assumption | refine bel_trans ?_ (by assumption)))
  obtain ⟨q0, q1, q2⟩ := HR.out.cells3
  have f0 := HR.out.frozen 0
  have f1 := HR.out.frozen 1
  have f2 := HR.out.frozen 2
  clear hb1 p0 p1 p2
  obtain ⟨p0, p1, p2⟩ := HP1.out.cells3
  have HS := hid (HR.out.put3 (.int .i64 (F : Int)) (.int .i64 E) (.string X))
  have hS : w1.cell? ⟨w.heap.size, 0, none⟩ = some (.int .i64 (F : Int)) ∧ w1.cell? ⟨w.heap.size, 1, none⟩ = some (.int .i64 (T : Int)) ∧ w1.cell? ⟨w.heap.size, 2, none⟩ = some (.string D) ∧ True := ⟨p0, p1, p2, trivial⟩
  have HPf := hid (fun (u0 u1 u2 : Value) => ((HP1.out.far 0 u0 (R := w.heap.size + 1) (by omega)).far 1 u1 (R := w.heap.size + 1) (by omega)).far 2 u2 (R := w.heap.size + 1) (by omega))
  go_wp2_with fail
  go_region
  have hw2 := HW2.out
  rw [hw2]
  have HS2 := hid (HS.out.drew)
  obtain ⟨z0, z1, z2⟩ := HS2.out.cells3
  have y0 := (HR.out.set_ 0 (.int .i64 (F : Int))).cell 0
  go_wp2
  exact bodyPost_ret (v := .tuple #[.agg #[.int .i64 (F : Int), .int .i64 E, .string X], .bool true]) (by simp [results, Try.results33, go_sem, z0, z1, z2, y0]) rfl ⟨rfl, bel_drew (bel_set (bel_set (bel_set hB1 (by simp) _) (by simp) _) (by simp) _)⟩
theorem c_sInvertPatch_no (S D : ByteArray) (f t : Int) (w : World) (hf : -9223372036854775808 ≤ f ∧ f ≤ 9223372036854775807) (ht : -9223372036854775808 ≤ t ∧ t ≤ 9223372036854775807) (hD : D.size ≤ maxLen) (hS : S.size ≤ maxLen) (hk : patchOk S.size f t D = false) : Calls Try.prog 32 #[.string S, .agg #[.int .i64 f, .int .i64 t, .string D]] w fun e w' => e = .returned (.tuple #[.agg #[.int .i64 0, .int .i64 0, .string ByteArray.empty], .bool false]) ∧ Below w.heap.size w w' := by
  have HV := hid (fun (v : World) => c_l6Patch S D f t v hf ht hD hS)
  simp only [hk] at HV
  have HQ := hid (show Blk ((w.alloc (.cells #[.int .i64 f, .int .i64 t, .string D] 25)).alloc (.cells #[.int .i64 0, .int .i64 0, .string ByteArray.empty] 25)) (w.heap.size + 1) 25 #[.int .i64 0, .int .i64 0, .string ByteArray.empty] by have kQ := Blk.new (w.alloc (.cells #[.int .i64 f, .int .i64 t, .string D] 25)) 25 #[.int .i64 0, .int .i64 0, .string ByteArray.empty]; rw [World.size_alloc] at kQ; exact kQ)
  have HP := hid ((Blk.new w 25 #[.int .i64 f, .int .i64 t, .string D]).alloc (.cells #[.int .i64 0, .int .i64 0, .string ByteArray.empty] 25))
  obtain ⟨p0, p1, p2⟩ := HP.out.cells3
  clear hk
  go_enter Try.func32, Try.ntmps32
  go_wp2_with fail
  refine (HV.out _).mono ?_
  rintro e w1 ⟨rfl, hb1⟩
  have HR := hid (HQ.out.on hb1)
  have HP1 := hid (HP.out.on hb1)
  have hB1 : Below w.heap.size w w1 := by (repeat (first | with_reducible (first | assumption | exact Below.refl _ _ | refine bel_alloc ?_ _ | refine bel_drew ?_ | refine bel_drewN ?_ _ | refine bel_set ?_ (by first | omega | (simp; done) | (simp; omega)) _ | refine bel_trans ?_ (by assumption)) | assumption | refine bel_trans ?_ (by assumption)))
  obtain ⟨q0, q1, q2⟩ := HR.out.cells3
  have f0 := HR.out.frozen 0
  have f1 := HR.out.frozen 1
  have f2 := HR.out.frozen 2
  clear hb1 p0 p1 p2
  obtain ⟨p0, p1, p2⟩ := HP1.out.cells3
  have HS := hid (HR.out.put3 (.int .i64 0) (.int .i64 0) (.string (ByteArray.mk #[])))
  obtain ⟨z0, z1, z2⟩ := HS.out.cells3
  have y0 := (HR.out.set_ 0 (.int .i64 0)).cell 0
  have y1 := ((HR.out.set_ 0 (.int .i64 0)).set_ 1 (.int .i64 0)).cell 1
  go_wp2
  exact bodyPost_ret (v := .tuple #[.agg #[.int .i64 0, .int .i64 0, .string (ByteArray.mk #[])], .bool false]) (by simp [results, Try.results32, go_sem, z0, z1, z2, y0, y1]) rfl ⟨rfl, bel_set (bel_set (bel_set hB1 (by simp) _) (by simp) _) (by simp) _⟩

theorem c_sInvertPatch_yes (S D : ByteArray) (f t : Int) (w : World) (hf : -9223372036854775808 ≤ f ∧ f ≤ 9223372036854775807) (ht : -9223372036854775808 ≤ t ∧ t ≤ 9223372036854775807) (hD : D.size ≤ maxLen) (hS : S.size ≤ maxLen) (hk : patchOk S.size f t D = true) : Calls Try.prog 32 #[.string S, .agg #[.int .i64 f, .int .i64 t, .string D]] w fun e w' => e = .returned (.tuple #[.agg #[.int .i64 f, .int .i64 (f + D.size), .string (S.extract f.toNat t.toNat)], .bool true]) ∧ Below w.heap.size w w' := by
  have HV := hid (fun (v : World) => c_l6Patch S D f t v hf ht hD hS)
  simp only [hk] at HV
  have hP := of_decide_eq_true (show decide _ = true from hk)
  obtain ⟨F, rfl⟩ : ∃ F : Nat, f = F := ⟨f.toNat, by omega⟩
  obtain ⟨T, rfl⟩ : ∃ T : Nat, t = T := ⟨t.toNat, by omega⟩
  have HQ := hid (show Blk ((w.alloc (.cells #[.int .i64 (F : Int), .int .i64 (T : Int), .string D] 25)).alloc (.cells #[.int .i64 0, .int .i64 0, .string ByteArray.empty] 25)) (w.heap.size + 1) 25 #[.int .i64 0, .int .i64 0, .string ByteArray.empty] by have kQ := Blk.new (w.alloc (.cells #[.int .i64 (F : Int), .int .i64 (T : Int), .string D] 25)) 25 #[.int .i64 0, .int .i64 0, .string ByteArray.empty]; rw [World.size_alloc] at kQ; exact kQ)
  have HP := hid ((Blk.new w 25 #[.int .i64 (F : Int), .int .i64 (T : Int), .string D]).alloc (.cells #[.int .i64 0, .int .i64 0, .string ByteArray.empty] 25))
  obtain ⟨p0, p1, p2⟩ := HP.out.cells3
  obtain ⟨X, hX⟩ : ∃ X, X = S.extract F T := ⟨_, rfl⟩
  have hx : ∀ w, (Instr.slice 9 (.string S) (some (.int .i64 (F : Int))) (some (.int .i64 (T : Int))) none).run Try.prog w = .ok (.string X) w := fun w => by rw [slice_str Try.underlying9 S (F : Int) (T : Int) F T rfl rfl (by omega) (by omega), hX]
  have hw : IntKind.i64.wrap ((F : Int) + (D.size : Int)) = (F : Int) + (D.size : Int) := IntWalk.i64_in _ (by omega)
  have HX := hid (show S.extract (F : Int).toNat (T : Int).toNat = X by rw [hX]; rfl)
  rw [HX.out]
  obtain ⟨E, hE⟩ : ∃ E, E = (F : Int) + (D.size : Int) := ⟨_, rfl⟩
  rw [← hE]
  rw [← hE] at hw
  have HE := hid hE
  have HW2 := hid (show wrap64 ((F : Int) + (D.size : Int)) = E by rw [HE.out]; exact IntWalk.wrap64_in _ (by omega))
  clear hk hX hP
  go_enter Try.func32, Try.ntmps32
  go_wp2_with fail
  refine (HV.out _).mono ?_
  rintro e w1 ⟨rfl, hb1⟩
  have HR := hid (HQ.out.on hb1)
  have HP1 := hid (HP.out.on hb1)
  have hB1 : Below w.heap.size w w1 := by (repeat (first | with_reducible (first | assumption | exact Below.refl _ _ | refine bel_alloc ?_ _ | refine bel_drew ?_ | refine bel_drewN ?_ _ | refine bel_set ?_ (by first | omega | (simp; done) | (simp; omega)) _ | refine bel_trans ?_ (by assumption)) | assumption | refine bel_trans ?_ (by assumption)))
  obtain ⟨q0, q1, q2⟩ := HR.out.cells3
  have f0 := HR.out.frozen 0
  have f1 := HR.out.frozen 1
  have f2 := HR.out.frozen 2
  clear hb1 p0 p1 p2
  obtain ⟨p0, p1, p2⟩ := HP1.out.cells3
  have HS := hid (HR.out.put3 (.int .i64 (F : Int)) (.int .i64 E) (.string X))
  have hS : w1.cell? ⟨w.heap.size, 0, none⟩ = some (.int .i64 (F : Int)) ∧ w1.cell? ⟨w.heap.size, 1, none⟩ = some (.int .i64 (T : Int)) ∧ w1.cell? ⟨w.heap.size, 2, none⟩ = some (.string D) ∧ True := ⟨p0, p1, p2, trivial⟩
  have HPf := hid (fun (u0 u1 u2 : Value) => ((HP1.out.far 0 u0 (R := w.heap.size + 1) (by omega)).far 1 u1 (R := w.heap.size + 1) (by omega)).far 2 u2 (R := w.heap.size + 1) (by omega))
  go_wp2_with fail
  go_region
  have hw2 := HW2.out
  rw [hw2]
  have HS2 := hid (HS.out.drew)
  obtain ⟨z0, z1, z2⟩ := HS2.out.cells3
  have y0 := (HR.out.set_ 0 (.int .i64 (F : Int))).cell 0
  go_wp2
  exact bodyPost_ret (v := .tuple #[.agg #[.int .i64 (F : Int), .int .i64 E, .string X], .bool true]) (by simp [results, Try.results32, go_sem, z0, z1, z2, y0]) rfl ⟨rfl, bel_drew (bel_set (bel_set (bel_set hB1 (by simp) _) (by simp) _) (by simp) _)⟩
theorem c_PatchOf_no (a b : ByteArray) (w : World) (ha : a.size ≤ maxLen) (hb : b.size ≤ maxLen) (hk : ¬ (a.size ≤ 2000 ∧ b.size ≤ 2000)) : Calls Try.prog 26 #[.string a, .string b] w fun e w' => e = .returned (.tuple #[.agg #[.int .i64 0, .int .i64 0, .string ByteArray.empty], .bool false]) ∧ Below w.heap.size w w' := by
  unfold maxLen at ha hb
  by_cases h1 : (a.size : Int) ≤ 2000
  · have h2 : (2000 : Int) < b.size := by omega
    go_enter Try.func26, Try.ntmps26
    go_wp2
    exact bodyPost_ret (v := .tuple #[.agg #[.int .i64 0, .int .i64 0, .string (ByteArray.mk #[])], .bool false]) (by simp [results, Try.results26, go_sem]) rfl ⟨rfl, by (repeat (first | with_reducible (first | assumption | exact Below.refl _ _ | refine bel_alloc ?_ _ | refine bel_drew ?_ | refine bel_drewN ?_ _ | refine bel_set ?_ (by first | omega | (simp; done) | (simp; omega)) _ | refine bel_trans ?_ (by assumption)) | assumption | refine bel_trans ?_ (by assumption)))⟩
  · have h2 : (2000 : Int) < a.size := by omega
    go_enter Try.func26, Try.ntmps26
    go_wp2
    exact bodyPost_ret (v := .tuple #[.agg #[.int .i64 0, .int .i64 0, .string (ByteArray.mk #[])], .bool false]) (by simp [results, Try.results26, go_sem]) rfl ⟨rfl, by (repeat (first | with_reducible (first | assumption | exact Below.refl _ _ | refine bel_alloc ?_ _ | refine bel_drew ?_ | refine bel_drewN ?_ _ | refine bel_set ?_ (by first | omega | (simp; done) | (simp; omega)) _ | refine bel_trans ?_ (by assumption)) | assumption | refine bel_trans ?_ (by assumption)))⟩

def poE (a b : ByteArray) : Nat := sharedE (a.extract (sharedS a b) a.size) (b.extract (sharedS a b) b.size)
theorem c_PatchOf_yes (a b : ByteArray) (w : World) (h1 : a.size ≤ 2000) (h2 : b.size ≤ 2000) : Calls Try.prog 26 #[.string a, .string b] w fun e w' => e = .returned (.tuple #[.agg #[.int .i64 (sharedS a b : Nat), .int .i64 (a.size - poE a b : Nat), .string (b.extract (sharedS a b) (b.size - poE a b))], .bool true]) ∧ Below w.heap.size w w' := by
  obtain ⟨n, hn⟩ : ∃ n, n = sharedS a b := ⟨_, rfl⟩
  have hns := sharedS_le a b
  rw [← hn] at hns
  obtain ⟨X, hX⟩ : ∃ X, X = a.extract n a.size := ⟨_, rfl⟩
  obtain ⟨Y, hY⟩ : ∃ Y, Y = b.extract n b.size := ⟨_, rfl⟩
  have zX : X.size = a.size - n := by rw [hX, ByteArray.size_extract]; omega
  have zY : Y.size = b.size - n := by rw [hY, ByteArray.size_extract]; omega
  obtain ⟨m, hm⟩ : ∃ m, m = sharedE X Y := ⟨_, rfl⟩
  have hms := sharedE_le X Y
  rw [← hm] at hms
  have em : poE a b = m := by rw [poE, ← hn, ← hX, ← hY, hm]
  rw [em, ← hn]
  have HS := hid (fun (v : World) => c_SharedStart a b v (by unfold maxLen; omega) (by unfold maxLen; omega))
  have HE := hid (fun (v : World) => c_SharedEnd X Y v (by unfold maxLen; omega) (by unfold maxLen; omega))
  simp only [← hn] at HS
  simp only [← hm] at HE
  have hx : ∀ w, (Instr.slice 9 (.string a) (some (.int .i64 (n : Int))) none none).run Try.prog w = .ok (.string X) w := fun w => by rw [run_slice_string_l w 9 a Try.underlying9 .i64 (n : Int) (by omega) (by omega), hX]; rfl
  have hy : ∀ w, (Instr.slice 9 (.string b) (some (.int .i64 (n : Int))) none none).run Try.prog w = .ok (.string Y) w := fun w => by rw [run_slice_string_l w 9 b Try.underlying9 .i64 (n : Int) (by omega) (by omega), hY]; rfl
  obtain ⟨U, hU⟩ : ∃ U : Nat, U = a.size - m := ⟨_, rfl⟩
  obtain ⟨V, hV⟩ : ∃ V : Nat, V = b.size - m := ⟨_, rfl⟩
  obtain ⟨Z, hZ⟩ : ∃ Z, Z = b.extract n V := ⟨_, rfl⟩
  have eU : (a.size : Int) - (m : Int) = (U : Int) := by omega
  have eV : (b.size : Int) - (m : Int) = (V : Int) := by omega
  have hz : ∀ w, (Instr.slice 9 (.string b) (some (.int .i64 (n : Int))) (some (.int .i64 (V : Int))) none).run Try.prog w = .ok (.string Z) w := fun w => by rw [slice_str Try.underlying9 b (n : Int) (V : Int) n V rfl rfl (by omega) (by omega), hZ]
  rw [← hU, ← hV, ← hZ]
  have hwU : wrap64 ((a.size : Int) - (m : Int)) = (U : Int) := by rw [eU]; exact IntWalk.wrap64_in _ (by omega)
  have hwV : wrap64 ((b.size : Int) - (m : Int)) = (V : Int) := by rw [eV]; exact IntWalk.wrap64_in _ (by omega)
  have HQ := hid (Blk.new w 25 #[.int .i64 0, .int .i64 0, .string ByteArray.empty])
  clear hn hX hY hm em hU hV hZ
  go_enter Try.func26, Try.ntmps26
  go_wp2_with fail
  refine (HS.out _).mono ?_
  rintro e w1 ⟨rfl, hb1⟩
  go_wp2_with fail
  go_region_with (go_at_call 24; refine (HE.out _).mono ?_; rintro e w2 ⟨rfl, hb2⟩)
  have HR := hid (((HQ.out.on hb1).drew).on hb2)
  have hB : Below w.heap.size w w2 := by (repeat (first | with_reducible (first | assumption | exact Below.refl _ _ | refine bel_alloc ?_ _ | refine bel_drew ?_ | refine bel_drewN ?_ _ | refine bel_set ?_ (by first | omega | (simp; done) | (simp; omega)) _ | refine bel_trans ?_ (by assumption)) | assumption | refine bel_trans ?_ (by assumption)))
  clear hb1 hb2
  have HS := hid (HR.out.put3 (.int .i64 (n : Int)) (.int .i64 (U : Int)) (.string Z))
  obtain ⟨z0, z1, z2⟩ := HS.out.cells3
  have y0 := (HR.out.set_ 0 (.int .i64 (n : Int))).cell 0
  have y1 := ((HR.out.set_ 0 (.int .i64 (n : Int))).set_ 1 (.int .i64 (U : Int))).cell 1
  obtain ⟨q0, q1, q2⟩ := HR.out.cells3
  have f0 := HR.out.frozen 0
  have f1 := HR.out.frozen 1
  have f2 := HR.out.frozen 2
  go_wp2
  exact bodyPost_ret (v := .tuple #[.agg #[.int .i64 (n : Int), .int .i64 (U : Int), .string Z], .bool true]) (by simp [results, Try.results26, go_sem, z0, z1, z2, y0, y1]) rfl ⟨rfl, bel_set (bel_set (bel_set hB (by simp) _) (by simp) _) (by simp) _⟩

theorem c_sPatchOf_no (a b : ByteArray) (w : World) (ha : a.size ≤ maxLen) (hb : b.size ≤ maxLen) (hk : ¬ (a.size ≤ 2000 ∧ b.size ≤ 2000)) : Calls Try.prog 25 #[.string a, .string b] w fun e w' => e = .returned (.tuple #[.agg #[.int .i64 0, .int .i64 0, .string ByteArray.empty], .bool false]) ∧ Below w.heap.size w w' := by
  unfold maxLen at ha hb
  by_cases h1 : (a.size : Int) ≤ 2000
  · have h2 : (2000 : Int) < b.size := by omega
    go_enter Try.func25, Try.ntmps25
    go_wp2
    exact bodyPost_ret (v := .tuple #[.agg #[.int .i64 0, .int .i64 0, .string (ByteArray.mk #[])], .bool false]) (by simp [results, Try.results25, go_sem]) rfl ⟨rfl, by (repeat (first | with_reducible (first | assumption | exact Below.refl _ _ | refine bel_alloc ?_ _ | refine bel_drew ?_ | refine bel_drewN ?_ _ | refine bel_set ?_ (by first | omega | (simp; done) | (simp; omega)) _ | refine bel_trans ?_ (by assumption)) | assumption | refine bel_trans ?_ (by assumption)))⟩
  · have h2 : (2000 : Int) < a.size := by omega
    go_enter Try.func25, Try.ntmps25
    go_wp2
    exact bodyPost_ret (v := .tuple #[.agg #[.int .i64 0, .int .i64 0, .string (ByteArray.mk #[])], .bool false]) (by simp [results, Try.results25, go_sem]) rfl ⟨rfl, by (repeat (first | with_reducible (first | assumption | exact Below.refl _ _ | refine bel_alloc ?_ _ | refine bel_drew ?_ | refine bel_drewN ?_ _ | refine bel_set ?_ (by first | omega | (simp; done) | (simp; omega)) _ | refine bel_trans ?_ (by assumption)) | assumption | refine bel_trans ?_ (by assumption)))⟩

theorem c_sPatchOf_yes (a b : ByteArray) (w : World) (h1 : a.size ≤ 2000) (h2 : b.size ≤ 2000) : Calls Try.prog 25 #[.string a, .string b] w fun e w' => e = .returned (.tuple #[.agg #[.int .i64 (sharedS a b : Nat), .int .i64 (a.size - poE a b : Nat), .string (b.extract (sharedS a b) (b.size - poE a b))], .bool true]) ∧ Below w.heap.size w w' := by
  obtain ⟨n, hn⟩ : ∃ n, n = sharedS a b := ⟨_, rfl⟩
  have hns := sharedS_le a b
  rw [← hn] at hns
  obtain ⟨X, hX⟩ : ∃ X, X = a.extract n a.size := ⟨_, rfl⟩
  obtain ⟨Y, hY⟩ : ∃ Y, Y = b.extract n b.size := ⟨_, rfl⟩
  have zX : X.size = a.size - n := by rw [hX, ByteArray.size_extract]; omega
  have zY : Y.size = b.size - n := by rw [hY, ByteArray.size_extract]; omega
  obtain ⟨m, hm⟩ : ∃ m, m = sharedE X Y := ⟨_, rfl⟩
  have hms := sharedE_le X Y
  rw [← hm] at hms
  have em : poE a b = m := by rw [poE, ← hn, ← hX, ← hY, hm]
  rw [em, ← hn]
  have HS := hid (fun (v : World) => c_sSharedStart a b v (by unfold maxLen; omega) (by unfold maxLen; omega))
  have HE := hid (fun (v : World) => c_sSharedEnd X Y v (by unfold maxLen; omega) (by unfold maxLen; omega))
  simp only [← hn] at HS
  simp only [← hm] at HE
  have hx : ∀ w, (Instr.slice 9 (.string a) (some (.int .i64 (n : Int))) none none).run Try.prog w = .ok (.string X) w := fun w => by rw [run_slice_string_l w 9 a Try.underlying9 .i64 (n : Int) (by omega) (by omega), hX]; rfl
  have hy : ∀ w, (Instr.slice 9 (.string b) (some (.int .i64 (n : Int))) none none).run Try.prog w = .ok (.string Y) w := fun w => by rw [run_slice_string_l w 9 b Try.underlying9 .i64 (n : Int) (by omega) (by omega), hY]; rfl
  obtain ⟨U, hU⟩ : ∃ U : Nat, U = a.size - m := ⟨_, rfl⟩
  obtain ⟨V, hV⟩ : ∃ V : Nat, V = b.size - m := ⟨_, rfl⟩
  obtain ⟨Z, hZ⟩ : ∃ Z, Z = b.extract n V := ⟨_, rfl⟩
  have eU : (a.size : Int) - (m : Int) = (U : Int) := by omega
  have eV : (b.size : Int) - (m : Int) = (V : Int) := by omega
  have hz : ∀ w, (Instr.slice 9 (.string b) (some (.int .i64 (n : Int))) (some (.int .i64 (V : Int))) none).run Try.prog w = .ok (.string Z) w := fun w => by rw [slice_str Try.underlying9 b (n : Int) (V : Int) n V rfl rfl (by omega) (by omega), hZ]
  rw [← hU, ← hV, ← hZ]
  have hwU : wrap64 ((a.size : Int) - (m : Int)) = (U : Int) := by rw [eU]; exact IntWalk.wrap64_in _ (by omega)
  have hwV : wrap64 ((b.size : Int) - (m : Int)) = (V : Int) := by rw [eV]; exact IntWalk.wrap64_in _ (by omega)
  have HQ := hid (Blk.new w 25 #[.int .i64 0, .int .i64 0, .string ByteArray.empty])
  clear hn hX hY hm em hU hV hZ
  go_enter Try.func25, Try.ntmps25
  go_wp2_with fail
  refine (HS.out _).mono ?_
  rintro e w1 ⟨rfl, hb1⟩
  go_wp2_with fail
  go_region_with (go_at_call 23; refine (HE.out _).mono ?_; rintro e w2 ⟨rfl, hb2⟩)
  have HR := hid (((HQ.out.on hb1).drew).on hb2)
  have hB : Below w.heap.size w w2 := by (repeat (first | with_reducible (first | assumption | exact Below.refl _ _ | refine bel_alloc ?_ _ | refine bel_drew ?_ | refine bel_drewN ?_ _ | refine bel_set ?_ (by first | omega | (simp; done) | (simp; omega)) _ | refine bel_trans ?_ (by assumption)) | assumption | refine bel_trans ?_ (by assumption)))
  clear hb1 hb2
  have HS := hid (HR.out.put3 (.int .i64 (n : Int)) (.int .i64 (U : Int)) (.string Z))
  obtain ⟨z0, z1, z2⟩ := HS.out.cells3
  have y0 := (HR.out.set_ 0 (.int .i64 (n : Int))).cell 0
  have y1 := ((HR.out.set_ 0 (.int .i64 (n : Int))).set_ 1 (.int .i64 (U : Int))).cell 1
  obtain ⟨q0, q1, q2⟩ := HR.out.cells3
  have f0 := HR.out.frozen 0
  have f1 := HR.out.frozen 1
  have f2 := HR.out.frozen 2
  go_wp2
  exact bodyPost_ret (v := .tuple #[.agg #[.int .i64 (n : Int), .int .i64 (U : Int), .string Z], .bool true]) (by simp [results, Try.results25, go_sem, z0, z1, z2, y0, y1]) rfl ⟨rfl, bel_set (bel_set (bel_set hB (by simp) _) (by simp) _) (by simp) _⟩

theorem c_eqPatch (f t : Int) (D : ByteArray) (w : World) : Calls Try.prog 27 #[.agg #[.int .i64 f, .int .i64 t, .string D], .agg #[.int .i64 f, .int .i64 t, .string D]] w fun e w' => e = .returned (.bool true) ∧ Below w.heap.size w w' := by
  have HA := hid ((Blk.new w 25 #[.int .i64 f, .int .i64 t, .string D]).alloc (.cells #[.int .i64 f, .int .i64 t, .string D] 25))
  have HB := hid (show Blk ((w.alloc (.cells #[.int .i64 f, .int .i64 t, .string D] 25)).alloc (.cells #[.int .i64 f, .int .i64 t, .string D] 25)) (w.heap.size + 1) 25 #[.int .i64 f, .int .i64 t, .string D] by have kQ := Blk.new (w.alloc (.cells #[.int .i64 f, .int .i64 t, .string D] 25)) 25 #[.int .i64 f, .int .i64 t, .string D]; rw [World.size_alloc] at kQ; exact kQ)
  obtain ⟨p0, p1, p2⟩ := HA.out.cells3
  obtain ⟨q0, q1, q2⟩ := HB.out.cells3
  go_enter Try.func27, Try.ntmps27
  go_wp2
  go_ret
  exact ⟨rfl, by (repeat (first | with_reducible (first | assumption | exact Below.refl _ _ | refine bel_alloc ?_ _ | refine bel_drew ?_ | refine bel_drewN ?_ _ | refine bel_set ?_ (by first | omega | (simp; done) | (simp; omega)) _ | refine bel_trans ?_ (by assumption)) | assumption | refine bel_trans ?_ (by assumption)))⟩

theorem c_szPatch_no (f t : Int) (D : ByteArray) (w : World) (h : 1048576 < D.size) (hD : D.size ≤ maxLen) : Calls Try.prog 28 #[.agg #[.int .i64 f, .int .i64 t, .string D], .int .i64 1048576] w fun e w' => e = .returned (.int .i64 (-1)) ∧ Below w.heap.size w w' := by
  unfold maxLen at hD
  obtain ⟨p0, p1, p2⟩ := (Blk.new w 29 #[.int .i64 f, .int .i64 t, .string D]).cells3
  go_enter Try.func28, Try.ntmps28
  go_wp2
  go_ret
  exact ⟨rfl, by (repeat (first | with_reducible (first | assumption | exact Below.refl _ _ | refine bel_alloc ?_ _ | refine bel_drew ?_ | refine bel_drewN ?_ _ | refine bel_set ?_ (by first | omega | (simp; done) | (simp; omega)) _ | refine bel_trans ?_ (by assumption)) | assumption | refine bel_trans ?_ (by assumption)))⟩

theorem c_szPatch (f t : Int) (D : ByteArray) (w : World) (h : D.size ≤ 1048576) : Calls Try.prog 28 #[.agg #[.int .i64 f, .int .i64 t, .string D], .int .i64 1048576] w fun e w' => e = .returned (.int .i64 (1048576 - D.size)) ∧ Below w.heap.size w w' := by
  obtain ⟨p0, p1, p2⟩ := (Blk.new w 29 #[.int .i64 f, .int .i64 t, .string D]).cells3
  go_enter Try.func28, Try.ntmps28
  go_wp2
  go_ret
  exact ⟨rfl, by (repeat (first | with_reducible (first | assumption | exact Below.refl _ _ | refine bel_alloc ?_ _ | refine bel_drew ?_ | refine bel_drewN ?_ _ | refine bel_set ?_ (by first | omega | (simp; done) | (simp; omega)) _ | refine bel_trans ?_ (by assumption)) | assumption | refine bel_trans ?_ (by assumption)))⟩

theorem c_toPatch (f t : Int) (D : ByteArray) (w : World) : Calls Try.prog 30 #[.agg #[.int .i64 f, .int .i64 t, .string D]] w fun e w' => e = .returned (.agg #[.int .i64 f, .int .i64 t, .string D]) ∧ Below w.heap.size w w' := by
  obtain ⟨p0, p1, p2⟩ := (Blk.new w 29 #[.int .i64 f, .int .i64 t, .string D]).cells3
  go_enter Try.func30, Try.ntmps30
  go_wp2
  exact bodyPost_ret (v := .agg #[.int .i64 f, .int .i64 t, .string D]) (by simp [results, Try.results30, go_sem]) rfl ⟨rfl, by (repeat (first | with_reducible (first | assumption | exact Below.refl _ _ | refine bel_alloc ?_ _ | refine bel_drew ?_ | refine bel_drewN ?_ _ | refine bel_set ?_ (by first | omega | (simp; done) | (simp; omega)) _ | refine bel_trans ?_ (by assumption)) | assumption | refine bel_trans ?_ (by assumption)))⟩
end Go.Proofs.Ytfklkepodpcdgaa
