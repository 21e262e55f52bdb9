/- LogRecord in both programs, and its law's walk. -/
import Derived.Test.YthhgamnkidkanaaDoorKf
import Derived.Test.YthhgamnkidkanaaDoorSc
import Derived.Test.YthhgamnkidkanaaDoorYt
namespace Go.Proofs.YthhgamnkidkanaaDoor
open Go.ChangeShapes Go.WideShapes Go.ChangeAt Go.RowKit Go.Joins
set_option linter.unusedVariables false
set_option linter.unusedSimpArgs false

/-- a record of a text -/
def recT (T : ByteArray) : ByteArray := str (two T.size) ++ T ++ str (two (M.ck T.data.toList))
theorem two_sz (n : Nat) : (str (two n)).size = 2 := by rw [str_size]; rfl
theorem opT_size (k : Int) (nm : ByteArray) (f t z : Int) (d : ByteArray) : (opT k nm f t z d).size ≤ 100000 := by
  unfold opT
  split
  case isTrue hok =>
    obtain ⟨hk, ⟨n1, n2⟩, hz, hf2, ht2, d1⟩ := opB_facts hok
    have zF : (str (dec f)).size ≤ 10 := by rw [str_size]; exact (dec_len f hf2.1 (by omega)).2
    have zT : (str (dec t)).size ≤ 10 := by rw [str_size]; exact (dec_len t ht2.1 (by omega)).2
    have zZ : (str (dec z)).size ≤ 10 := by rw [str_size]; exact (dec_len z hz.1 (by omega)).2
    have zH : (dashI (str (M.fmtHex d.data.toList))).size ≤ 4000 := dashI_size (by rw [str_size]; exact hexI_len d1) (by omega)
    have e1 : (⟨#[32]⟩ : ByteArray).size = 1 := rfl
    have w0 : (⟨#[112, 117, 116, 32]⟩ : ByteArray).size = 4 := rfl
    have w1 : (⟨#[97, 112, 112, 101, 110, 100, 32]⟩ : ByteArray).size = 7 := rfl
    have w2 : (⟨#[114, 101, 112, 108, 97, 99, 101, 32]⟩ : ByteArray).size = 8 := rfl
    have w3 : (⟨#[109, 101, 114, 103, 101, 32]⟩ : ByteArray).size = 6 := rfl
    have w4 : (⟨#[100, 101, 108, 101, 116, 101, 32]⟩ : ByteArray).size = 7 := rfl
    unfold opTx endT
    repeat' split
    all_goals
      simp only [ByteArray.size_append]
      omega
  case isFalse => show 0 ≤ 100000; omega

set_option maxHeartbeats 4000000 in
theorem c_recordOf (T : ByteArray) (w : World) (hT : T.size ≤ 100000) : Calls Tryd.prog 23 #[.string T] w fun e w' => e = .returned (.string (recT T)) ∧ Below w.heap.size w w' := by
  have H1 := hid (fun v => c_twoBytes T.size v (by omega))
  have H2 := hid (fun v => c_SumOf T v (by unfold maxLen; omega))
  have hck := M.ck_le T.data.toList
  have H3 := hid (fun v => c_twoBytes (M.ck T.data.toList) v (by omega))
  have HR : recT T = str (two T.size) ++ T ++ str (two (M.ck T.data.toList)) := rfl
  rw [HR]
  have z1 := two_sz T.size
  have z2 := two_sz (M.ck T.data.toList)
  obtain ⟨A1, hA1⟩ : ∃ A1, A1 = str (two T.size) := ⟨_, rfl⟩
  obtain ⟨N, hN⟩ : ∃ N, N = M.ck T.data.toList := ⟨_, rfl⟩
  rw [← hN] at H2 H3 z2 ⊢
  obtain ⟨B1, hB1⟩ : ∃ B1, B1 = str (two N) := ⟨_, rfl⟩
  rw [← hA1] at H1 z1 ⊢
  rw [← hB1] at H3 z2 ⊢
  have a0 : ∀ W, (Op.stringOp .add A1 T).run Tryd.prog W = .ok (.string (A1 ++ T)) W := fun W => run_string_add W _ _ (by omega) (by omega)
  have a1 : ∀ W, (Op.stringOp .add (A1 ++ T) B1).run Tryd.prog W = .ok (.string (A1 ++ T ++ B1)) W := fun W => run_string_add W _ _ (by rw [ByteArray.size_append]; omega) (by omega)
  clear hA1 hB1 hN HR hck
  go_enter Tryd.func23, Tryd.ntmps23
  go_wp2_with fail
  refine (H1.out _).mono ?_
  rintro e w1 ⟨rfl, hb1⟩
  go_wp2_with fail
  refine (H2.out _).mono ?_
  rintro e w2 ⟨rfl, rfl⟩
  go_wp2_with fail
  refine (H3.out _).mono ?_
  rintro e w3 ⟨rfl, hb3⟩
  go_wp2_with fail
  go_ret
  exact ⟨rfl, hb1.trans (hb3.mono hb1.size)⟩

set_option maxHeartbeats 4000000 in
theorem c_l8Record (T : ByteArray) (w : World) (hT : T.size ≤ 100000) : Calls Tryd.prog 21 #[.string T] w fun e w' => e = .returned (.string (recT T)) ∧ Below w.heap.size w w' := by
  have H1 := hid (fun v => c_l4Two T.size v (by omega))
  have H2 := hid (fun v => c_sSumOf T v (by unfold maxLen; omega))
  have hck := M.ck_le T.data.toList
  have H3 := hid (fun v => c_l4Two (M.ck T.data.toList) v (by omega))
  have HR : recT T = str (two T.size) ++ T ++ str (two (M.ck T.data.toList)) := rfl
  rw [HR]
  have z1 := two_sz T.size
  have z2 := two_sz (M.ck T.data.toList)
  obtain ⟨A1, hA1⟩ : ∃ A1, A1 = str (two T.size) := ⟨_, rfl⟩
  obtain ⟨N, hN⟩ : ∃ N, N = M.ck T.data.toList := ⟨_, rfl⟩
  rw [← hN] at H2 H3 z2 ⊢
  obtain ⟨B1, hB1⟩ : ∃ B1, B1 = str (two N) := ⟨_, rfl⟩
  rw [← hA1] at H1 z1 ⊢
  rw [← hB1] at H3 z2 ⊢
  have a0 : ∀ W, (Op.stringOp .add A1 T).run Tryd.prog W = .ok (.string (A1 ++ T)) W := fun W => run_string_add W _ _ (by omega) (by omega)
  have a1 : ∀ W, (Op.stringOp .add (A1 ++ T) B1).run Tryd.prog W = .ok (.string (A1 ++ T ++ B1)) W := fun W => run_string_add W _ _ (by rw [ByteArray.size_append]; omega) (by omega)
  clear hA1 hB1 hN HR hck
  go_enter Tryd.func21, Tryd.ntmps21
  go_wp2_with fail
  refine (H1.out _).mono ?_
  rintro e w1 ⟨rfl, hb1⟩
  go_wp2_with fail
  refine (H2.out _).mono ?_
  rintro e w2 ⟨rfl, rfl⟩
  go_wp2_with fail
  refine (H3.out _).mono ?_
  rintro e w3 ⟨rfl, hb3⟩
  go_wp2_with fail
  go_ret
  exact ⟨rfl, hb1.trans (hb3.mono hb1.size)⟩
end Go.Proofs.YthhgamnkidkanaaDoor
