/- Contracts of ChangeByte, DropBytes, RepeatBytes in both programs, and their walks. No condition but that the numbers are int's. -/
import Derived.Test.YthjjlphepakmcaaBa
import Derived.Deep.QuietTactic
import Derived.BigQuiet
namespace Go.Proofs.Ythjjlphepakmcaa
open Go.ChangeShapes Go.WideShapes Go.ChangeAt Go.RowKit Go.Joins
set_option linter.unusedVariables false
set_option linter.unusedSimpArgs false

/-- a stream that may be damaged has n bytes from an index on -/
def spanOk (s : Nat) (a n : Int) : Bool := decide (s ≤ 8000) && inB a 0 s && inB n 0 (s - a)

theorem spanOk_iff {s : Nat} {a n : Int} : spanOk s a n = true ↔ s ≤ 8000 ∧ (0 ≤ a ∧ a ≤ s) ∧ (0 ≤ n ∧ n ≤ s - a) := by simp [spanOk, inB, and_assoc]

theorem spanOk_no {s : Nat} {a n : Int} : spanOk s a n = false ↔ ¬ (s ≤ 8000 ∧ (0 ≤ a ∧ a ≤ s) ∧ (0 ≤ n ∧ n ≤ s - a)) := by
  rw [← spanOk_iff]; simp

theorem c_l7Most (S : ByteArray) (w : World) (hS : S.size ≤ maxLen) : Calls Try.prog 27 #[.string S] w (Same (.bool (decide (S.size ≤ 8000))) w) := by
  unfold maxLen at hS
  have HE := hid (show decide ((S.size : Int) ≤ 8000) = decide (S.size ≤ 8000) by simp; omega)
  go_enter Try.func27, Try.ntmps27
  go_wp2
  go_ret
  exact ⟨ret_bool HE.out, rfl⟩

theorem c_hasSpan (S : ByteArray) (a n : Int) (w : World) (hS : S.size ≤ maxLen) (ha : -9223372036854775808 ≤ a ∧ a ≤ 9223372036854775807) (hn : -9223372036854775808 ≤ n ∧ n ≤ 9223372036854775807) : Calls Try.prog 29 #[.string S, .int .i64 a, .int .i64 n] w (Same (.bool (spanOk S.size a n)) w) := by
  unfold maxLen at hS
  by_cases h1 : (S.size : Int) ≤ 8000
  · by_cases h2 : 0 ≤ a
    · by_cases h3 : 0 ≤ n
      · by_cases h4 : a ≤ S.size
        · by_cases h5 : n ≤ (S.size : Int) - a
          all_goals
            go_enter Try.func29, Try.ntmps29
            go_wp2
            go_ret
            exact ⟨ret_bool (by rw [Bool.eq_iff_iff, spanOk_iff]; simp; omega), rfl⟩
        · go_enter Try.func29, Try.ntmps29
          go_wp2
          go_ret
          exact ⟨ret_bool (by rw [Bool.eq_iff_iff, spanOk_iff]; simp; omega), rfl⟩
      · go_enter Try.func29, Try.ntmps29
        go_wp2
        go_ret
        exact ⟨ret_bool (by rw [Bool.eq_iff_iff, spanOk_iff]; simp; omega), rfl⟩
    · go_enter Try.func29, Try.ntmps29
      go_wp2
      go_ret
      exact ⟨ret_bool (by rw [Bool.eq_iff_iff, spanOk_iff]; simp; omega), rfl⟩
  · go_enter Try.func29, Try.ntmps29
    go_wp2
    go_ret
    exact ⟨ret_bool (by rw [Bool.eq_iff_iff, spanOk_iff]; simp; omega), rfl⟩

theorem c_l7Span (S : ByteArray) (a n : Int) (w : World) (hS : S.size ≤ maxLen) (ha : -9223372036854775808 ≤ a ∧ a ≤ 9223372036854775807) (hn : -9223372036854775808 ≤ n ∧ n ≤ 9223372036854775807) : Calls Try.prog 30 #[.string S, .int .i64 a, .int .i64 n] w (Same (.bool (spanOk S.size a n)) w) := by
  have HM := hid (fun (v : World) => c_l7Most S v hS)
  unfold maxLen at hS
  have HS := hid (show spanOk S.size a n = (decide (S.size ≤ 8000) && inB a 0 S.size && inB n 0 (S.size - a)) from rfl)
  cases h1 : decide (S.size ≤ 8000) with
  | false =>
    simp only [h1] at HM HS
    go_enter Try.func30, Try.ntmps30
    go_wp2_with (first | (go_at_call 27; refine (HM.out _).mono ?_; rintro e w' ⟨rfl, rfl⟩) | (go_at_call 28; refine (c_l1In _ _ _ _).mono ?_; rintro e w' ⟨rfl, rfl⟩))
    go_ret
    exact ⟨ret_bool (by rw [HS.out]; simp), rfl⟩
  | true =>
    simp only [h1] at HM HS
    have h1' := of_decide_eq_true h1
    cases h2 : inB a 0 S.size with
    | false =>
      simp only [h2] at HS
      go_enter Try.func30, Try.ntmps30
      go_wp2_with (first | (go_at_call 27; refine (HM.out _).mono ?_; rintro e w' ⟨rfl, rfl⟩) | (go_at_call 28; refine (c_l1In _ _ _ _).mono ?_; rintro e w' ⟨rfl, rfl⟩))
      go_ret
      exact ⟨ret_bool (by rw [HS.out]; simp), rfl⟩
    | true =>
      simp only [h2] at HS
      have h3 := inB_iff.1 h2
      go_enter Try.func30, Try.ntmps30
      go_wp2_with (first | (go_at_call 27; refine (HM.out _).mono ?_; rintro e w' ⟨rfl, rfl⟩) | (go_at_call 28; refine (c_l1In _ _ _ _).mono ?_; rintro e w' ⟨rfl, rfl⟩))
      go_ret
      exact ⟨ret_bool (by rw [HS.out]; simp), rfl⟩

theorem c_DropBytes_no (S : ByteArray) (a n : Int) (w : World) (hS : S.size ≤ maxLen) (ha : -9223372036854775808 ≤ a ∧ a ≤ 9223372036854775807) (hn : -9223372036854775808 ≤ n ∧ n ≤ 9223372036854775807) (hk : spanOk S.size a n = false) : Calls Try.prog 12 #[.string S, .int .i64 a, .int .i64 n] w fun e w' => e = .returned (.tuple #[.string ByteArray.empty, .bool false]) ∧ Below w.heap.size w w' := by
  have HV := hid (fun (v : World) => c_hasSpan S a n v hS ha hn)
  simp only [hk] at HV
  unfold maxLen at hS
  clear hk
  go_enter Try.func12, Try.ntmps12
  go_wp2_with ((go_at_call 29; refine (HV.out _).mono ?_; rintro e w' ⟨rfl, rfl⟩))
  go_ret2
  exact ⟨rfl, by (repeat (first | with_reducible (first | assumption | exact Below.refl _ _ | refine bel_alloc ?_ _ | refine bel_drew ?_ | refine bel_drewN ?_ _ | refine bel_set ?_ (by first | omega | (simp; done) | (simp; omega)) _ | refine bel_trans ?_ (by assumption)) | assumption | refine bel_trans ?_ (by assumption)))⟩

theorem c_DropBytes_yes (S : ByteArray) (a n : Int) (w : World) (hS : S.size ≤ maxLen) (ha : -9223372036854775808 ≤ a ∧ a ≤ 9223372036854775807) (hn : -9223372036854775808 ≤ n ∧ n ≤ 9223372036854775807) (hk : spanOk S.size a n = true) : Calls Try.prog 12 #[.string S, .int .i64 a, .int .i64 n] w fun e w' => e = .returned (.tuple #[.string (S.extract 0 a.toNat ++ S.extract (a + n).toNat S.size), .bool true]) ∧ Below w.heap.size w w' := by
  have HV := hid (fun (v : World) => c_hasSpan S a n v hS ha hn)
  simp only [hk] at HV
  have hP := spanOk_iff.1 hk
  obtain ⟨F, rfl⟩ : ∃ F : Nat, a = F := ⟨a.toNat, by omega⟩
  obtain ⟨N, rfl⟩ : ∃ N : Nat, n = N := ⟨n.toNat, by omega⟩
  obtain ⟨T, hT⟩ : ∃ T : Nat, T = F + N := ⟨_, rfl⟩
  obtain ⟨X, hX⟩ : ∃ X, X = S.extract 0 F := ⟨_, rfl⟩
  obtain ⟨Y, hY⟩ : ∃ Y, Y = S.extract T S.size := ⟨_, rfl⟩
  have zX : X.size = F := by rw [hX, ByteArray.size_extract]; omega
  have zY : Y.size = S.size - T := by rw [hY, ByteArray.size_extract]; omega
  have hw : IntKind.i64.wrap ((F : Int) + (N : Int)) = (T : Int) := by rw [IntWalk.i64_in _ (by omega)]; omega
  have hx : ∀ w, (Instr.slice 9 (.string S) none (some (.int .i64 (F : Int))) none).run Try.prog w = .ok (.string X) w := fun w => by rw [run_slice_string_h w 9 S Try.underlying9 .i64 (F : Int) (by omega) (by omega), hX]; rfl
  have hy : ∀ w, (Instr.slice 9 (.string S) (some (.int .i64 (T : Int))) none none).run Try.prog w = .ok (.string Y) w := fun w => by rw [run_slice_string_l w 9 S Try.underlying9 .i64 (T : Int) (by omega) (by omega), hY]; rfl
  obtain ⟨R, hR⟩ : ∃ R, R = X ++ Y := ⟨_, rfl⟩
  have hr : ∀ W, (Op.stringOp .add X Y).run Try.prog W = .ok (.string R) W := fun W => by rw [run_string_add_sum W _ _ (by omega), hR]
  have HR := hid (show S.extract 0 (F : Int).toNat ++ S.extract ((F : Int) + (N : Int)).toNat S.size = R by rw [hR, hX, hY, show ((F : Int) + (N : Int)).toNat = T from by omega]; rfl)
  rw [HR.out]
  have hT2 := hid hT
  clear hk hX hY hR zX zY hT
  go_enter Try.func12, Try.ntmps12
  go_wp2_with ((go_at_call 29; refine (HV.out _).mono ?_; rintro e w' ⟨rfl, rfl⟩))
  go_quiet (fail)
  go_wp2
  go_ret2
  exact ⟨rfl, by (repeat (first | with_reducible (first | assumption | exact Below.refl _ _ | refine bel_alloc ?_ _ | refine bel_drew ?_ | refine bel_drewN ?_ _ | refine bel_set ?_ (by first | omega | (simp; done) | (simp; omega)) _ | refine bel_trans ?_ (by assumption)) | assumption | refine bel_trans ?_ (by assumption)))⟩

theorem c_sDropBytes_no (S : ByteArray) (a n : Int) (w : World) (hS : S.size ≤ maxLen) (ha : -9223372036854775808 ≤ a ∧ a ≤ 9223372036854775807) (hn : -9223372036854775808 ≤ n ∧ n ≤ 9223372036854775807) (hk : spanOk S.size a n = false) : Calls Try.prog 11 #[.string S, .int .i64 a, .int .i64 n] w fun e w' => e = .returned (.tuple #[.string ByteArray.empty, .bool false]) ∧ Below w.heap.size w w' := by
  have HV := hid (fun (v : World) => c_l7Span S a n v hS ha hn)
  simp only [hk] at HV
  unfold maxLen at hS
  clear hk
  go_enter Try.func11, Try.ntmps11
  go_wp2_with ((go_at_call 30; refine (HV.out _).mono ?_; rintro e w' ⟨rfl, rfl⟩))
  go_ret2
  exact ⟨rfl, by (repeat (first | with_reducible (first | assumption | exact Below.refl _ _ | refine bel_alloc ?_ _ | refine bel_drew ?_ | refine bel_drewN ?_ _ | refine bel_set ?_ (by first | omega | (simp; done) | (simp; omega)) _ | refine bel_trans ?_ (by assumption)) | assumption | refine bel_trans ?_ (by assumption)))⟩

theorem c_sDropBytes_yes (S : ByteArray) (a n : Int) (w : World) (hS : S.size ≤ maxLen) (ha : -9223372036854775808 ≤ a ∧ a ≤ 9223372036854775807) (hn : -9223372036854775808 ≤ n ∧ n ≤ 9223372036854775807) (hk : spanOk S.size a n = true) : Calls Try.prog 11 #[.string S, .int .i64 a, .int .i64 n] w fun e w' => e = .returned (.tuple #[.string (S.extract 0 a.toNat ++ S.extract (a + n).toNat S.size), .bool true]) ∧ Below w.heap.size w w' := by
  have HV := hid (fun (v : World) => c_l7Span S a n v hS ha hn)
  simp only [hk] at HV
  have hP := spanOk_iff.1 hk
  obtain ⟨F, rfl⟩ : ∃ F : Nat, a = F := ⟨a.toNat, by omega⟩
  obtain ⟨N, rfl⟩ : ∃ N : Nat, n = N := ⟨n.toNat, by omega⟩
  obtain ⟨T, hT⟩ : ∃ T : Nat, T = F + N := ⟨_, rfl⟩
  obtain ⟨X, hX⟩ : ∃ X, X = S.extract 0 F := ⟨_, rfl⟩
  obtain ⟨Y, hY⟩ : ∃ Y, Y = S.extract T S.size := ⟨_, rfl⟩
  have zX : X.size = F := by rw [hX, ByteArray.size_extract]; omega
  have zY : Y.size = S.size - T := by rw [hY, ByteArray.size_extract]; omega
  have hw : IntKind.i64.wrap ((F : Int) + (N : Int)) = (T : Int) := by rw [IntWalk.i64_in _ (by omega)]; omega
  have hx : ∀ w, (Instr.slice 9 (.string S) none (some (.int .i64 (F : Int))) none).run Try.prog w = .ok (.string X) w := fun w => by rw [run_slice_string_h w 9 S Try.underlying9 .i64 (F : Int) (by omega) (by omega), hX]; rfl
  have hy : ∀ w, (Instr.slice 9 (.string S) (some (.int .i64 (T : Int))) none none).run Try.prog w = .ok (.string Y) w := fun w => by rw [run_slice_string_l w 9 S Try.underlying9 .i64 (T : Int) (by omega) (by omega), hY]; rfl
  obtain ⟨R, hR⟩ : ∃ R, R = X ++ Y := ⟨_, rfl⟩
  have hr : ∀ W, (Op.stringOp .add X Y).run Try.prog W = .ok (.string R) W := fun W => by rw [run_string_add_sum W _ _ (by omega), hR]
  have HR := hid (show S.extract 0 (F : Int).toNat ++ S.extract ((F : Int) + (N : Int)).toNat S.size = R by rw [hR, hX, hY, show ((F : Int) + (N : Int)).toNat = T from by omega]; rfl)
  rw [HR.out]
  have hT2 := hid hT
  clear hk hX hY hR zX zY hT
  go_enter Try.func11, Try.ntmps11
  go_wp2_with ((go_at_call 30; refine (HV.out _).mono ?_; rintro e w' ⟨rfl, rfl⟩))
  go_quiet (fail)
  go_wp2
  go_ret2
  exact ⟨rfl, by (repeat (first | with_reducible (first | assumption | exact Below.refl _ _ | refine bel_alloc ?_ _ | refine bel_drew ?_ | refine bel_drewN ?_ _ | refine bel_set ?_ (by first | omega | (simp; done) | (simp; omega)) _ | refine bel_trans ?_ (by assumption)) | assumption | refine bel_trans ?_ (by assumption)))⟩

theorem c_RepeatBytes_no (S : ByteArray) (a n : Int) (w : World) (hS : S.size ≤ maxLen) (ha : -9223372036854775808 ≤ a ∧ a ≤ 9223372036854775807) (hn : -9223372036854775808 ≤ n ∧ n ≤ 9223372036854775807) (hk : spanOk S.size a n = false) : Calls Try.prog 14 #[.string S, .int .i64 a, .int .i64 n] w fun e w' => e = .returned (.tuple #[.string ByteArray.empty, .bool false]) ∧ Below w.heap.size w w' := by
  have HV := hid (fun (v : World) => c_hasSpan S a n v hS ha hn)
  simp only [hk] at HV
  unfold maxLen at hS
  clear hk
  go_enter Try.func14, Try.ntmps14
  go_wp2_with ((go_at_call 29; refine (HV.out _).mono ?_; rintro e w' ⟨rfl, rfl⟩))
  go_ret2
  exact ⟨rfl, by (repeat (first | with_reducible (first | assumption | exact Below.refl _ _ | refine bel_alloc ?_ _ | refine bel_drew ?_ | refine bel_drewN ?_ _ | refine bel_set ?_ (by first | omega | (simp; done) | (simp; omega)) _ | refine bel_trans ?_ (by assumption)) | assumption | refine bel_trans ?_ (by assumption)))⟩

theorem c_RepeatBytes_long (S : ByteArray) (a n : Int) (w : World) (hS : S.size ≤ maxLen) (ha : -9223372036854775808 ≤ a ∧ a ≤ 9223372036854775807) (hn : -9223372036854775808 ≤ n ∧ n ≤ 9223372036854775807) (hk : spanOk S.size a n = true) (hl : 8000 < S.size + n) : Calls Try.prog 14 #[.string S, .int .i64 a, .int .i64 n] w fun e w' => e = .returned (.tuple #[.string ByteArray.empty, .bool false]) ∧ Below w.heap.size w w' := by
  have HV := hid (fun (v : World) => c_hasSpan S a n v hS ha hn)
  simp only [hk] at HV
  have hb := spanOk_iff.1 hk
  have hd : decide ((8000 : Int) < (S.size : Int) + n) = true := decide_eq_true hl
  clear hk
  go_enter Try.func14, Try.ntmps14
  go_wp2_with ((go_at_call 29; refine (HV.out _).mono ?_; rintro e w' ⟨rfl, rfl⟩))
  go_ret2
  exact ⟨rfl, by (repeat (first | with_reducible (first | assumption | exact Below.refl _ _ | refine bel_alloc ?_ _ | refine bel_drew ?_ | refine bel_drewN ?_ _ | refine bel_set ?_ (by first | omega | (simp; done) | (simp; omega)) _ | refine bel_trans ?_ (by assumption)) | assumption | refine bel_trans ?_ (by assumption)))⟩

theorem c_RepeatBytes_yes (S : ByteArray) (a n : Int) (w : World) (hS : S.size ≤ maxLen) (ha : -9223372036854775808 ≤ a ∧ a ≤ 9223372036854775807) (hn : -9223372036854775808 ≤ n ∧ n ≤ 9223372036854775807) (hk : spanOk S.size a n = true) (hl : S.size + n ≤ 8000) : Calls Try.prog 14 #[.string S, .int .i64 a, .int .i64 n] w fun e w' => e = .returned (.tuple #[.string (S.extract 0 (a + n).toNat ++ S.extract a.toNat S.size), .bool true]) ∧ Below w.heap.size w w' := by
  have HV := hid (fun (v : World) => c_hasSpan S a n v hS ha hn)
  simp only [hk] at HV
  have hP := spanOk_iff.1 hk
  obtain ⟨F, rfl⟩ : ∃ F : Nat, a = F := ⟨a.toNat, by omega⟩
  obtain ⟨N, rfl⟩ : ∃ N : Nat, n = N := ⟨n.toNat, by omega⟩
  obtain ⟨T, hT⟩ : ∃ T : Nat, T = F + N := ⟨_, rfl⟩
  obtain ⟨X, hX⟩ : ∃ X, X = S.extract 0 T := ⟨_, rfl⟩
  obtain ⟨Y, hY⟩ : ∃ Y, Y = S.extract F S.size := ⟨_, rfl⟩
  have zX : X.size = T := by rw [hX, ByteArray.size_extract]; omega
  have zY : Y.size = S.size - F := by rw [hY, ByteArray.size_extract]; omega
  have hw : IntKind.i64.wrap ((F : Int) + (N : Int)) = (T : Int) := by rw [IntWalk.i64_in _ (by omega)]; omega
  have hx : ∀ w, (Instr.slice 9 (.string S) none (some (.int .i64 (T : Int))) none).run Try.prog w = .ok (.string X) w := fun w => by rw [run_slice_string_h w 9 S Try.underlying9 .i64 (T : Int) (by omega) (by omega), hX]; rfl
  have hy : ∀ w, (Instr.slice 9 (.string S) (some (.int .i64 (F : Int))) none none).run Try.prog w = .ok (.string Y) w := fun w => by rw [run_slice_string_l w 9 S Try.underlying9 .i64 (F : Int) (by omega) (by omega), hY]; rfl
  obtain ⟨R, hR⟩ : ∃ R, R = X ++ Y := ⟨_, rfl⟩
  have hr : ∀ W, (Op.stringOp .add X Y).run Try.prog W = .ok (.string R) W := fun W => by rw [run_string_add_sum W _ _ (by omega), hR]
  have HR := hid (show S.extract 0 ((F : Int) + (N : Int)).toNat ++ S.extract (F : Int).toNat S.size = R by rw [hR, hX, hY, show ((F : Int) + (N : Int)).toNat = T from by omega]; rfl)
  rw [HR.out]
  have hd : decide ((8000 : Int) < (S.size : Int) + (N : Int)) = false := decide_eq_false (by omega)
  have hT2 := hid hT
  clear hk hX hY hR zX zY hT
  go_enter Try.func14, Try.ntmps14
  go_wp2_with ((go_at_call 29; refine (HV.out _).mono ?_; rintro e w' ⟨rfl, rfl⟩))
  go_quiet (fail)
  go_wp2
  go_ret2
  exact ⟨rfl, by (repeat (first | with_reducible (first | assumption | exact Below.refl _ _ | refine bel_alloc ?_ _ | refine bel_drew ?_ | refine bel_drewN ?_ _ | refine bel_set ?_ (by first | omega | (simp; done) | (simp; omega)) _ | refine bel_trans ?_ (by assumption)) | assumption | refine bel_trans ?_ (by assumption)))⟩

theorem c_sRepeatBytes_no (S : ByteArray) (a n : Int) (w : World) (hS : S.size ≤ maxLen) (ha : -9223372036854775808 ≤ a ∧ a ≤ 9223372036854775807) (hn : -9223372036854775808 ≤ n ∧ n ≤ 9223372036854775807) (hk : spanOk S.size a n = false) : Calls Try.prog 13 #[.string S, .int .i64 a, .int .i64 n] w fun e w' => e = .returned (.tuple #[.string ByteArray.empty, .bool false]) ∧ Below w.heap.size w w' := by
  have HV := hid (fun (v : World) => c_l7Span S a n v hS ha hn)
  simp only [hk] at HV
  unfold maxLen at hS
  clear hk
  go_enter Try.func13, Try.ntmps13
  go_wp2_with ((go_at_call 30; refine (HV.out _).mono ?_; rintro e w' ⟨rfl, rfl⟩))
  go_ret2
  exact ⟨rfl, by (repeat (first | with_reducible (first | assumption | exact Below.refl _ _ | refine bel_alloc ?_ _ | refine bel_drew ?_ | refine bel_drewN ?_ _ | refine bel_set ?_ (by first | omega | (simp; done) | (simp; omega)) _ | refine bel_trans ?_ (by assumption)) | assumption | refine bel_trans ?_ (by assumption)))⟩

theorem c_sRepeatBytes_long (S : ByteArray) (a n : Int) (w : World) (hS : S.size ≤ maxLen) (ha : -9223372036854775808 ≤ a ∧ a ≤ 9223372036854775807) (hn : -9223372036854775808 ≤ n ∧ n ≤ 9223372036854775807) (hk : spanOk S.size a n = true) (hl : 8000 < S.size + n) : Calls Try.prog 13 #[.string S, .int .i64 a, .int .i64 n] w fun e w' => e = .returned (.tuple #[.string ByteArray.empty, .bool false]) ∧ Below w.heap.size w w' := by
  have HV := hid (fun (v : World) => c_l7Span S a n v hS ha hn)
  simp only [hk] at HV
  have hb := spanOk_iff.1 hk
  have hd : decide ((8000 : Int) < (S.size : Int) + n) = true := decide_eq_true hl
  clear hk
  go_enter Try.func13, Try.ntmps13
  go_wp2_with ((go_at_call 30; refine (HV.out _).mono ?_; rintro e w' ⟨rfl, rfl⟩))
  go_ret2
  exact ⟨rfl, by (repeat (first | with_reducible (first | assumption | exact Below.refl _ _ | refine bel_alloc ?_ _ | refine bel_drew ?_ | refine bel_drewN ?_ _ | refine bel_set ?_ (by first | omega | (simp; done) | (simp; omega)) _ | refine bel_trans ?_ (by assumption)) | assumption | refine bel_trans ?_ (by assumption)))⟩

theorem c_sRepeatBytes_yes (S : ByteArray) (a n : Int) (w : World) (hS : S.size ≤ maxLen) (ha : -9223372036854775808 ≤ a ∧ a ≤ 9223372036854775807) (hn : -9223372036854775808 ≤ n ∧ n ≤ 9223372036854775807) (hk : spanOk S.size a n = true) (hl : S.size + n ≤ 8000) : Calls Try.prog 13 #[.string S, .int .i64 a, .int .i64 n] w fun e w' => e = .returned (.tuple #[.string (S.extract 0 (a + n).toNat ++ S.extract a.toNat S.size), .bool true]) ∧ Below w.heap.size w w' := by
  have HV := hid (fun (v : World) => c_l7Span S a n v hS ha hn)
  simp only [hk] at HV
  have hP := spanOk_iff.1 hk
  obtain ⟨F, rfl⟩ : ∃ F : Nat, a = F := ⟨a.toNat, by omega⟩
  obtain ⟨N, rfl⟩ : ∃ N : Nat, n = N := ⟨n.toNat, by omega⟩
  obtain ⟨T, hT⟩ : ∃ T : Nat, T = F + N := ⟨_, rfl⟩
  obtain ⟨X, hX⟩ : ∃ X, X = S.extract 0 T := ⟨_, rfl⟩
  obtain ⟨Y, hY⟩ : ∃ Y, Y = S.extract F S.size := ⟨_, rfl⟩
  have zX : X.size = T := by rw [hX, ByteArray.size_extract]; omega
  have zY : Y.size = S.size - F := by rw [hY, ByteArray.size_extract]; omega
  have hw : IntKind.i64.wrap ((F : Int) + (N : Int)) = (T : Int) := by rw [IntWalk.i64_in _ (by omega)]; omega
  have hx : ∀ w, (Instr.slice 9 (.string S) none (some (.int .i64 (T : Int))) none).run Try.prog w = .ok (.string X) w := fun w => by rw [run_slice_string_h w 9 S Try.underlying9 .i64 (T : Int) (by omega) (by omega), hX]; rfl
  have hy : ∀ w, (Instr.slice 9 (.string S) (some (.int .i64 (F : Int))) none none).run Try.prog w = .ok (.string Y) w := fun w => by rw [run_slice_string_l w 9 S Try.underlying9 .i64 (F : Int) (by omega) (by omega), hY]; rfl
  obtain ⟨R, hR⟩ : ∃ R, R = X ++ Y := ⟨_, rfl⟩
  have hr : ∀ W, (Op.stringOp .add X Y).run Try.prog W = .ok (.string R) W := fun W => by rw [run_string_add_sum W _ _ (by omega), hR]
  have HR := hid (show S.extract 0 ((F : Int) + (N : Int)).toNat ++ S.extract (F : Int).toNat S.size = R by rw [hR, hX, hY, show ((F : Int) + (N : Int)).toNat = T from by omega]; rfl)
  rw [HR.out]
  have hd : decide ((8000 : Int) < (S.size : Int) + (N : Int)) = false := decide_eq_false (by omega)
  have hT2 := hid hT
  clear hk hX hY hR zX zY hT
  go_enter Try.func13, Try.ntmps13
  go_wp2_with ((go_at_call 30; refine (HV.out _).mono ?_; rintro e w' ⟨rfl, rfl⟩))
  go_quiet (fail)
  go_wp2
  go_ret2
  exact ⟨rfl, by (repeat (first | with_reducible (first | assumption | exact Below.refl _ _ | refine bel_alloc ?_ _ | refine bel_drew ?_ | refine bel_drewN ?_ _ | refine bel_set ?_ (by first | omega | (simp; done) | (simp; omega)) _ | refine bel_trans ?_ (by assumption)) | assumption | refine bel_trans ?_ (by assumption)))⟩

/-- the stream with another byte at an index -/
def changed (S : ByteArray) (a v : Int) : ByteArray := str (S.data.toList.take a.toNat ++ [UInt8.ofNat v.toNat] ++ S.data.toList.drop (a.toNat + 1))
def chOk (s : Nat) (a v : Int) : Bool := decide (s ≤ 8000) && inB a 0 (s - 1) && inB v 0 255

theorem chOk_iff {s : Nat} {a v : Int} : chOk s a v = true ↔ s ≤ 8000 ∧ (0 ≤ a ∧ a ≤ (s : Int) - 1) ∧ (0 ≤ v ∧ v ≤ 255) := by simp [chOk, inB, and_assoc]

theorem c_ChangeByte_no (S : ByteArray) (a v : Int) (w : World) (hS : S.size ≤ maxLen) (ha : -9223372036854775808 ≤ a ∧ a ≤ 9223372036854775807) (hv : -9223372036854775808 ≤ v ∧ v ≤ 9223372036854775807) (hk : chOk S.size a v = false) : Calls Try.prog 10 #[.string S, .int .i64 a, .int .i64 v] w fun e w' => e = .returned (.tuple #[.string ByteArray.empty, .bool false]) ∧ Below w.heap.size w w' := by
  have HV := hid (fun (v : World) => c_hasSpan S a 1 v hS ha (by omega))
  have hk2 : ¬ (S.size ≤ 8000 ∧ (0 ≤ a ∧ a ≤ (S.size : Int) - 1) ∧ (0 ≤ v ∧ v ≤ 255)) := by rw [← chOk_iff, hk]; simp
  cases h1 : spanOk S.size a 1 with
  | false =>
    simp only [h1] at HV
    clear hk hk2 h1
    go_enter Try.func10, Try.ntmps10
    go_wp2_with ((go_at_call 29; refine (HV.out _).mono ?_; rintro e w' ⟨rfl, rfl⟩))
    go_ret2
    exact ⟨rfl, by (repeat (first | with_reducible (first | assumption | exact Below.refl _ _ | refine bel_alloc ?_ _ | refine bel_drew ?_ | refine bel_drewN ?_ _ | refine bel_set ?_ (by first | omega | (simp; done) | (simp; omega)) _ | refine bel_trans ?_ (by assumption)) | assumption | refine bel_trans ?_ (by assumption)))⟩
  | true =>
    simp only [h1] at HV
    have h2 := spanOk_iff.1 h1
    by_cases h3 : v < 0
    · clear hk hk2 h1
      go_enter Try.func10, Try.ntmps10
      go_wp2_with ((go_at_call 29; refine (HV.out _).mono ?_; rintro e w' ⟨rfl, rfl⟩))
      go_ret2
      exact ⟨rfl, by (repeat (first | with_reducible (first | assumption | exact Below.refl _ _ | refine bel_alloc ?_ _ | refine bel_drew ?_ | refine bel_drewN ?_ _ | refine bel_set ?_ (by first | omega | (simp; done) | (simp; omega)) _ | refine bel_trans ?_ (by assumption)) | assumption | refine bel_trans ?_ (by assumption)))⟩
    · have h4 : 255 < v := by omega
      clear hk hk2 h1
      go_enter Try.func10, Try.ntmps10
      go_wp2_with ((go_at_call 29; refine (HV.out _).mono ?_; rintro e w' ⟨rfl, rfl⟩))
      go_ret2
      exact ⟨rfl, by (repeat (first | with_reducible (first | assumption | exact Below.refl _ _ | refine bel_alloc ?_ _ | refine bel_drew ?_ | refine bel_drewN ?_ _ | refine bel_set ?_ (by first | omega | (simp; done) | (simp; omega)) _ | refine bel_trans ?_ (by assumption)) | assumption | refine bel_trans ?_ (by assumption)))⟩

theorem c_sChangeByte_no (S : ByteArray) (a v : Int) (w : World) (hS : S.size ≤ maxLen) (ha : -9223372036854775808 ≤ a ∧ a ≤ 9223372036854775807) (hv : -9223372036854775808 ≤ v ∧ v ≤ 9223372036854775807) (hk : chOk S.size a v = false) : Calls Try.prog 9 #[.string S, .int .i64 a, .int .i64 v] w fun e w' => e = .returned (.tuple #[.string ByteArray.empty, .bool false]) ∧ Below w.heap.size w w' := by
  have HM := hid (fun (v : World) => c_l7Most S v hS)
  unfold maxLen at hS
  cases h1 : decide (S.size ≤ 8000) with
  | false =>
    simp only [h1] at HM
    clear hk h1
    go_enter Try.func9, Try.ntmps9
    go_wp2_with (first | (go_at_call 27; refine (HM.out _).mono ?_; rintro e w' ⟨rfl, rfl⟩) | (go_at_call 28; refine (c_l1In _ _ _ _).mono ?_; rintro e w' ⟨rfl, rfl⟩))
    go_ret2
    exact ⟨rfl, by (repeat (first | with_reducible (first | assumption | exact Below.refl _ _ | refine bel_alloc ?_ _ | refine bel_drew ?_ | refine bel_drewN ?_ _ | refine bel_set ?_ (by first | omega | (simp; done) | (simp; omega)) _ | refine bel_trans ?_ (by assumption)) | assumption | refine bel_trans ?_ (by assumption)))⟩
  | true =>
    simp only [h1] at HM
    cases h2 : inB a 0 ((S.size : Int) - 1) with
    | false =>
      clear hk h1
      go_enter Try.func9, Try.ntmps9
      go_wp2_with (first | (go_at_call 27; refine (HM.out _).mono ?_; rintro e w' ⟨rfl, rfl⟩) | (go_at_call 28; refine (c_l1In _ _ _ _).mono ?_; rintro e w' ⟨rfl, rfl⟩))
      go_ret2
      exact ⟨rfl, by (repeat (first | with_reducible (first | assumption | exact Below.refl _ _ | refine bel_alloc ?_ _ | refine bel_drew ?_ | refine bel_drewN ?_ _ | refine bel_set ?_ (by first | omega | (simp; done) | (simp; omega)) _ | refine bel_trans ?_ (by assumption)) | assumption | refine bel_trans ?_ (by assumption)))⟩
    | true =>
      have h3 : inB v 0 255 = false := by simpa [chOk, h1, h2] using hk
      clear hk h1
      go_enter Try.func9, Try.ntmps9
      go_wp2_with (first | (go_at_call 27; refine (HM.out _).mono ?_; rintro e w' ⟨rfl, rfl⟩) | (go_at_call 28; refine (c_l1In _ _ _ _).mono ?_; rintro e w' ⟨rfl, rfl⟩))
      go_ret2
      exact ⟨rfl, by (repeat (first | with_reducible (first | assumption | exact Below.refl _ _ | refine bel_alloc ?_ _ | refine bel_drew ?_ | refine bel_drewN ?_ _ | refine bel_set ?_ (by first | omega | (simp; done) | (simp; omega)) _ | refine bel_trans ?_ (by assumption)) | assumption | refine bel_trans ?_ (by assumption)))⟩

theorem u8_in (v : Int) (h : 0 ≤ v ∧ v ≤ 255) : IntKind.u8.wrap v = ((UInt8.ofNat v.toNat).toNat : Int) := by
  have e : IntKind.u8.wrap v = v := by simp [IntKind.wrap, IntKind.signed, IntKind.bits]; omega
  rw [e, UInt8.toNat_ofNat']
  omega

theorem c_sChangeByte_yes (S : ByteArray) (a v : Int) (w : World) (hS : S.size ≤ maxLen) (hk : chOk S.size a v = true) : Calls Try.prog 9 #[.string S, .int .i64 a, .int .i64 v] w fun e w' => e = .returned (.tuple #[.string (changed S a v), .bool true]) ∧ Below w.heap.size w w' := by
  have HM := hid (fun (v : World) => c_l7Most S v hS)
  obtain ⟨h1, h2, h3⟩ := chOk_iff.1 hk
  simp only [decide_eq_true h1] at HM
  have i2 : inB a 0 ((S.size : Int) - 1) = true := inB_iff.2 h2
  have i3 : inB v 0 255 = true := inB_iff.2 h3
  obtain ⟨F, rfl⟩ : ∃ F : Nat, a = F := ⟨a.toNat, by omega⟩
  obtain ⟨X, hX⟩ : ∃ X, X = S.extract 0 F := ⟨_, rfl⟩
  obtain ⟨Y, hY⟩ : ∃ Y, Y = S.extract (F + 1) S.size := ⟨_, rfl⟩
  obtain ⟨C, hC⟩ : ∃ C, C = str [UInt8.ofNat v.toNat] := ⟨_, rfl⟩
  obtain ⟨V, hV⟩ : ∃ V, V = IntKind.u8.wrap v := ⟨_, rfl⟩
  obtain ⟨F1, hF1⟩ : ∃ F1 : Int, F1 = (F : Int) + 1 := ⟨_, rfl⟩
  have zX : X.size = F := by rw [hX, ByteArray.size_extract]; omega
  have zC : C.size = 1 := by rw [hC, str_size]; rfl
  have zY : Y.size = S.size - (F + 1) := by rw [hY, ByteArray.size_extract]; omega
  have hx : ∀ w, (Instr.slice 9 (.string S) none (some (.int .i64 (F : Int))) none).run Try.prog w = .ok (.string X) w := fun w => by rw [run_slice_string_h w 9 S Try.underlying9 .i64 (F : Int) (by omega) (by omega), hX]; rfl
  have hy : ∀ w, (Instr.slice 9 (.string S) (some (.int .i64 F1)) none none).run Try.prog w = .ok (.string Y) w := fun w => by rw [hF1, run_slice_string_l w 9 S Try.underlying9 .i64 ((F : Int) + 1) (by omega) (by omega), hY]; rfl
  have hw : IntKind.i64.wrap ((F : Int) + 1) = F1 := by rw [IntWalk.i64_in _ (by omega), hF1]
  have hc : ∀ W : World, (convert 42 9 (.slice (some ⟨W.heap.size, 0, none⟩) 1 1)).run Try.prog (W.alloc (.cells #[.int .u8 V] 5)) = .ok (.string C) (W.alloc (.cells #[.int .u8 V] 5)) := fun W => by
    rw [hC]
    exact run_one Try.underlying42 Try.underlying5 Try.underlying9 (by rw [hV]; exact u8_in v h3)
  have hc2 : ∀ W : World, (convert 42 9 (.slice (some ⟨W.heap.size, 0, none⟩) 1 1)).run Try.prog (W.alloc (.cells #[.int .u8 V] 5)).drew = .ok (.string C) (W.alloc (.cells #[.int .u8 V] 5)).drew := fun W => hc W.drew
  obtain ⟨Z, hZ⟩ : ∃ Z, Z = X ++ C := ⟨_, rfl⟩
  have zZ : Z.size = X.size + C.size := by rw [hZ, ByteArray.size_append]
  obtain ⟨R, hR⟩ : ∃ R, R = Z ++ Y := ⟨_, rfl⟩
  have hz : ∀ W, (Op.stringOp .add X C).run Try.prog W = .ok (.string Z) W := fun W => by rw [run_string_add_sum W _ _ (by omega), hZ]
  have hr : ∀ W, (Op.stringOp .add Z Y).run Try.prog W = .ok (.string R) W := fun W => by rw [run_string_add_sum W _ _ (by omega), hR]
  have HR := hid (show changed S (F : Int) v = R by
    rw [hR, hZ, hX, hY, hC, changed]
    apply ByteArray.ext
    apply Array.toList_inj.1
    simp only [ByteArray.data_append, Array.toList_append, ByteArray.data_extract, Array.toList_extract, str_list, Int.toNat_natCast, List.extract, List.drop_zero, Nat.sub_zero]
    congr 1
    rw [List.take_of_length_le (by simp)])
  rw [HR.out]
  have hV2 := hV.symm
  clear hk hX hY hC hZ hR zX zY zZ zC hV HR hF1 h2
  unfold maxLen at hS
  go_enter Try.func9, Try.ntmps9
  go_wp2_with (first | (go_at_call 27; refine (HM.out _).mono ?_; rintro e w' ⟨rfl, rfl⟩) | (go_at_call 28; refine (c_l1In _ _ _ _).mono ?_; rintro e w' ⟨rfl, rfl⟩))
  go_region
  all_goals
    go_wp2
    go_ret2
    exact ⟨rfl, by (repeat (first | with_reducible (first | assumption | exact Below.refl _ _ | refine bel_alloc ?_ _ | refine bel_drew ?_ | refine bel_drewN ?_ _ | refine bel_set ?_ (by first | omega | (simp; done) | (simp; omega)) _ | refine bel_trans ?_ (by assumption)) | assumption | refine bel_trans ?_ (by assumption)))⟩

theorem bytesRow_at {S : ByteArray} {c n : Nat} (h : n < S.size) : (bytesRow S c)[n]? = some (.int .u8 ((S[n]).toNat : Int)) := by
  unfold bytesRow
  rw [Array.getElem?_append_left (by simpa using h), Array.getElem?_map, Array.getElem?_eq_getElem (by simpa using h)]
  rfl

theorem heap_set_new {w : World} {g i : Nat} {cs : Array Value} {t : TypeId} {fr : Nat × Nat} {u : Value} (h : w.heap[g]? = some (.cells cs t fr)) : (w.setCell ⟨g, i, none⟩ u).heap[g]? = some (.cells (cs.setIfInBounds i u) t fr) := by
  simp [World.setCell, Array.getElem?_modify, h]

theorem put_list (l : List UInt8) (F : Nat) (c : UInt8) (h : F < l.length) : l.take F ++ [c] ++ l.drop (F + 1) = l.set F c := by
  rw [List.set_eq_take_append_cons_drop, if_pos h]; simp

set_option maxRecDepth 100000 in
theorem c_ChangeByte_yes (S : ByteArray) (a v : Int) (w : World) (hS : S.size ≤ maxLen) (hk : chOk S.size a v = true) : Calls Try.prog 10 #[.string S, .int .i64 a, .int .i64 v] w fun e w' => e = .returned (.tuple #[.string (changed S a v), .bool true]) ∧ Below w.heap.size w w' := by
  have h0 := chOk_iff.1 hk
  have HV := hid (fun (v : World) => c_hasSpan S a 1 v hS (by omega) (by omega))
  have hsp : spanOk S.size a 1 = true := spanOk_iff.2 (by omega)
  simp only [hsp] at HV
  obtain ⟨h1, h2, h3⟩ := h0
  obtain ⟨F, rfl⟩ : ∃ F : Nat, a = F := ⟨a.toNat, by omega⟩
  have kc := run_bytes_of_string (P := Try.prog) w 9 42 5 S Try.underlying9 Try.underlying42 Try.underlying5
  obtain ⟨C, hC⟩ : ∃ C, C = grownCap w S.size 0 5 := ⟨_, rfl⟩
  obtain ⟨RW, hRW⟩ : ∃ RW, RW = bytesRow S C := ⟨_, rfl⟩
  rw [← hC, ← hRW] at kc
  have hFl : F < S.size := by omega
  have HRW := hid hRW
  have hrl : S.size ≤ RW.size := by rw [hRW]; simp [bytesRow]
  have hB : (w.alloc (.cells RW 5 (RW.size, RW.size + 1))).heap[w.heap.size]? = some (.cells RW 5 (RW.size, RW.size + 1)) := heap_alloc_new w _
  have hcell : (w.alloc (.cells RW 5 (RW.size, RW.size + 1))).cell? ⟨w.heap.size, F, none⟩ = some (.int .u8 ((S[F]).toNat : Int)) := by
    rw [cell_of_row _ _ F RW 5 _ hB, hRW]
    exact bytesRow_at hFl
  have hfro : (w.alloc (.cells RW 5 (RW.size, RW.size + 1))).frozen? ⟨w.heap.size, F, none⟩ = false := by
    simp only [World.frozen?, hB]
    simp
    omega
  have hHeap2 := heap_set_new (i := F) (u := .int .u8 (IntKind.u8.wrap v)) hB
  have hL : (S.data.toList.set F (UInt8.ofNat v.toNat)).length = S.size := by simp
  have hback : (convert 42 9 (.slice (some ⟨w.heap.size, 0, none⟩) S.size C)).run Try.prog ((w.alloc (.cells RW 5 (RW.size, RW.size + 1))).setCell ⟨w.heap.size, F, none⟩ (.int .u8 (IntKind.u8.wrap v))).drew = .ok (.string (changed S (F : Int) v)) ((w.alloc (.cells RW 5 (RW.size, RW.size + 1))).setCell ⟨w.heap.size, F, none⟩ (.int .u8 (IntKind.u8.wrap v))).drew := by
    rw [changed, Int.toNat_natCast, put_list _ _ _ (by simpa using hFl), ← hL]
    refine run_convert_bytes_back (l := S.data.toList.set F (UInt8.ofNat v.toNat)) _ 42 9 5 ⟨w.heap.size, 0, none⟩ C Try.underlying42 Try.underlying5 Try.underlying9 ?_
    intro j hj
    have hj2 := hj
    rw [hL] at hj2
    have e0 : ((⟨w.heap.size, 0, none⟩ : Addr).add j) = ⟨w.heap.size, j, none⟩ := by unfold Addr.add; split <;> simp_all
    rw [e0]
    have e1 := cell_of_row _ w.heap.size j _ _ _ hHeap2
    refine (show World.cell? _ _ = _ from e1).trans ?_
    rw [Array.getElem?_setIfInBounds, List.getElem_set]
    by_cases hjF : F = j
    · rw [if_pos hjF, if_pos hjF, if_pos (by omega), u8_in v h3]
    · rw [if_neg hjF, if_neg hjF, hRW, bytesRow_at hj2]
      rfl
  have HB := hid hB
  clear hC hRW hB hHeap2 hL
  obtain ⟨V, hV⟩ : ∃ V, V = IntKind.u8.wrap v := ⟨_, rfl⟩
  have hV2 := hV.symm
  have hV3 := hid hV
  rw [← hV] at hback
  clear hk hsp hV
  unfold maxLen at hS
  go_enter Try.func10, Try.ntmps10
  go_wp2_with fail
  refine (HV.out _).mono ?_
  rintro e w1 ⟨rfl, rfl⟩
  go_wp2_with fail
  go_ret2
  exact ⟨rfl, by (repeat (first | with_reducible (first | assumption | exact Below.refl _ _ | refine bel_alloc ?_ _ | refine bel_drew ?_ | refine bel_drewN ?_ _ | refine bel_set ?_ (by first | omega | (simp; done) | (simp; omega)) _ | refine bel_trans ?_ (by assumption)) | assumption | refine bel_trans ?_ (by assumption)))⟩

theorem walk_FnExactChangeByte (S : ByteArray) (a v : Int) (w : World) (h_S : S.size ≤ maxLen) (ha : -9223372036854775808 ≤ a ∧ a ≤ 9223372036854775807) (hv : -9223372036854775808 ≤ v ∧ v ≤ 9223372036854775807) :
    Calls Try.prog 3 #[.string S, .int .i64 a, .int .i64 v] w fun e w' => e = .returned (.bool true) ∧ Below w.heap.size w w' := by
  obtain ⟨R, ok, HS, HI⟩ : ∃ (R : ByteArray) (ok : Bool), (∀ q : World, Calls Try.prog 9 #[.string S, .int .i64 a, .int .i64 v] q fun e w' => e = .returned (.tuple #[.string R, .bool ok]) ∧ Below q.heap.size q w') ∧ (∀ q : World, Calls Try.prog 10 #[.string S, .int .i64 a, .int .i64 v] q fun e w' => e = .returned (.tuple #[.string R, .bool ok]) ∧ Below q.heap.size q w') := by
    cases hk : chOk S.size a v with
    | true => exact ⟨_, _, fun q => c_sChangeByte_yes S a v q h_S hk, fun q => c_ChangeByte_yes S a v q h_S hk⟩
    | false => exact ⟨_, _, fun q => c_sChangeByte_no S a v q h_S ha hv hk, fun q => c_ChangeByte_no S a v q h_S ha hv hk⟩
  have HS := hid HS
  have HI := hid HI
  unfold maxLen at h_S
  by_cases b1 : (1048576 : Int) < S.size
  · go_enter Try.func3, Try.ntmps3
    go_wp2
    go_ret
    exact ⟨rfl, by (repeat (first | with_reducible (first | assumption | exact Below.refl _ _ | refine bel_alloc ?_ _ | refine bel_drew ?_ | refine bel_drewN ?_ _ | refine bel_set ?_ (by first | omega | (simp; done) | (simp; omega)) _ | refine bel_trans ?_ (by assumption)) | assumption | refine bel_trans ?_ (by assumption)))⟩
  go_enter Try.func3, Try.ntmps3
  go_wp2_with fail
  refine (HS.out _).mono ?_
  rintro e w1 ⟨rfl, hb1⟩
  go_wp2_with fail
  refine (HI.out _).mono ?_
  rintro e w2 ⟨rfl, hb2⟩
  go_wp2
  go_ret
  exact ⟨rfl, by (repeat (first | with_reducible (first | assumption | exact Below.refl _ _ | refine bel_alloc ?_ _ | refine bel_drew ?_ | refine bel_drewN ?_ _ | refine bel_set ?_ (by first | omega | (simp; done) | (simp; omega)) _ | refine bel_trans ?_ (by assumption)) | assumption | refine bel_trans ?_ (by assumption)))⟩

theorem walk_FnExactDropBytes (S : ByteArray) (a n : Int) (w : World) (h_S : S.size ≤ maxLen) (ha : -9223372036854775808 ≤ a ∧ a ≤ 9223372036854775807) (hn : -9223372036854775808 ≤ n ∧ n ≤ 9223372036854775807) :
    Calls Try.prog 4 #[.string S, .int .i64 a, .int .i64 n] w fun e w' => e = .returned (.bool true) ∧ Below w.heap.size w w' := by
  obtain ⟨R, ok, HS, HI⟩ : ∃ (R : ByteArray) (ok : Bool), (∀ q : World, Calls Try.prog 11 #[.string S, .int .i64 a, .int .i64 n] q fun e w' => e = .returned (.tuple #[.string R, .bool ok]) ∧ Below q.heap.size q w') ∧ (∀ q : World, Calls Try.prog 12 #[.string S, .int .i64 a, .int .i64 n] q fun e w' => e = .returned (.tuple #[.string R, .bool ok]) ∧ Below q.heap.size q w') := by
    cases hk : spanOk S.size a n with
    | true => exact ⟨_, _, fun q => c_sDropBytes_yes S a n q h_S ha hn hk, fun q => c_DropBytes_yes S a n q h_S ha hn hk⟩
    | false => exact ⟨_, _, fun q => c_sDropBytes_no S a n q h_S ha hn hk, fun q => c_DropBytes_no S a n q h_S ha hn hk⟩
  have HS := hid HS
  have HI := hid HI
  unfold maxLen at h_S
  by_cases b1 : (1048576 : Int) < S.size
  · go_enter Try.func4, Try.ntmps4
    go_wp2
    go_ret
    exact ⟨rfl, by (repeat (first | with_reducible (first | assumption | exact Below.refl _ _ | refine bel_alloc ?_ _ | refine bel_drew ?_ | refine bel_drewN ?_ _ | refine bel_set ?_ (by first | omega | (simp; done) | (simp; omega)) _ | refine bel_trans ?_ (by assumption)) | assumption | refine bel_trans ?_ (by assumption)))⟩
  go_enter Try.func4, Try.ntmps4
  go_wp2_with fail
  refine (HS.out _).mono ?_
  rintro e w1 ⟨rfl, hb1⟩
  go_wp2_with fail
  refine (HI.out _).mono ?_
  rintro e w2 ⟨rfl, hb2⟩
  go_wp2
  go_ret
  exact ⟨rfl, by (repeat (first | with_reducible (first | assumption | exact Below.refl _ _ | refine bel_alloc ?_ _ | refine bel_drew ?_ | refine bel_drewN ?_ _ | refine bel_set ?_ (by first | omega | (simp; done) | (simp; omega)) _ | refine bel_trans ?_ (by assumption)) | assumption | refine bel_trans ?_ (by assumption)))⟩

theorem walk_FnExactRepeatBytes (S : ByteArray) (a n : Int) (w : World) (h_S : S.size ≤ maxLen) (ha : -9223372036854775808 ≤ a ∧ a ≤ 9223372036854775807) (hn : -9223372036854775808 ≤ n ∧ n ≤ 9223372036854775807) :
    Calls Try.prog 5 #[.string S, .int .i64 a, .int .i64 n] w fun e w' => e = .returned (.bool true) ∧ Below w.heap.size w w' := by
  obtain ⟨R, ok, HS, HI⟩ : ∃ (R : ByteArray) (ok : Bool), (∀ q : World, Calls Try.prog 13 #[.string S, .int .i64 a, .int .i64 n] q fun e w' => e = .returned (.tuple #[.string R, .bool ok]) ∧ Below q.heap.size q w') ∧ (∀ q : World, Calls Try.prog 14 #[.string S, .int .i64 a, .int .i64 n] q fun e w' => e = .returned (.tuple #[.string R, .bool ok]) ∧ Below q.heap.size q w') := by
    cases hk : spanOk S.size a n with
    | true =>
      by_cases hl : (S.size : Int) + n ≤ 8000
      · exact ⟨_, _, fun q => c_sRepeatBytes_yes S a n q h_S ha hn hk hl, fun q => c_RepeatBytes_yes S a n q h_S ha hn hk hl⟩
      · exact ⟨_, _, fun q => c_sRepeatBytes_long S a n q h_S ha hn hk (by omega), fun q => c_RepeatBytes_long S a n q h_S ha hn hk (by omega)⟩
    | false => exact ⟨_, _, fun q => c_sRepeatBytes_no S a n q h_S ha hn hk, fun q => c_RepeatBytes_no S a n q h_S ha hn hk⟩
  have HS := hid HS
  have HI := hid HI
  unfold maxLen at h_S
  by_cases b1 : (1048576 : Int) < S.size
  · go_enter Try.func5, Try.ntmps5
    go_wp2
    go_ret
    exact ⟨rfl, by (repeat (first | with_reducible (first | assumption | exact Below.refl _ _ | refine bel_alloc ?_ _ | refine bel_drew ?_ | refine bel_drewN ?_ _ | refine bel_set ?_ (by first | omega | (simp; done) | (simp; omega)) _ | refine bel_trans ?_ (by assumption)) | assumption | refine bel_trans ?_ (by assumption)))⟩
  go_enter Try.func5, Try.ntmps5
  go_wp2_with fail
  refine (HS.out _).mono ?_
  rintro e w1 ⟨rfl, hb1⟩
  go_wp2_with fail
  refine (HI.out _).mono ?_
  rintro e w2 ⟨rfl, hb2⟩
  go_wp2
  go_ret
  exact ⟨rfl, by (repeat (first | with_reducible (first | assumption | exact Below.refl _ _ | refine bel_alloc ?_ _ | refine bel_drew ?_ | refine bel_drewN ?_ _ | refine bel_set ?_ (by first | omega | (simp; done) | (simp; omega)) _ | refine bel_trans ?_ (by assumption)) | assumption | refine bel_trans ?_ (by assumption)))⟩
end Go.Proofs.Ythjjlphepakmcaa
