/- LogRecord in both programs, and its law's walk. -/
import Derived.Test.YtaiemogcboidhaaGreatDoorKf
import Derived.Test.YtaiemogcboidhaaGreatDoorUb
namespace Go.Proofs.YtaiemogcboidhaaGreatDoor
open Go.ChangeShapes Go.WideShapes Go.ChangeAt Go.RowKit Go.Joins
set_option linter.unusedVariables false
set_option linter.unusedSimpArgs false

/-- a record of a text -/
def recT (T : ByteArray) : ByteArray := str (two T.size) ++ T ++ str (two (M.ck T.data.toList))
theorem two_sz (n : Nat) : (str (two n)).size = 2 := by rw [str_size]; rfl
theorem opT_size (k : Int) (nm : ByteArray) (f t z : Int) (d : ByteArray) : (opT k nm f t z d).size ≤ 100000 := by
  unfold opT
  split
  case isTrue hok =>
    obtain ⟨hk, ⟨n1, n2⟩, hz, hf2, ht2, d1⟩ := opB_facts hok
    have zF : (str (dec f)).size ≤ 10 := by rw [str_size]; exact (dec_len f hf2.1 (by omega)).2
    have zT : (str (dec t)).size ≤ 10 := by rw [str_size]; exact (dec_len t ht2.1 (by omega)).2
    have zZ : (str (dec z)).size ≤ 10 := by rw [str_size]; exact (dec_len z hz.1 (by omega)).2
    have zH : (dashI (str (M.fmtHex d.data.toList))).size ≤ 4000 := dashI_size (by rw [str_size]; exact hexI_len d1) (by omega)
    have e1 : (⟨#[32]⟩ : ByteArray).size = 1 := rfl
    have w0 : (⟨#[112, 117, 116, 32]⟩ : ByteArray).size = 4 := rfl
    have w1 : (⟨#[97, 112, 112, 101, 110, 100, 32]⟩ : ByteArray).size = 7 := rfl
    have w2 : (⟨#[114, 101, 112, 108, 97, 99, 101, 32]⟩ : ByteArray).size = 8 := rfl
    have w3 : (⟨#[109, 101, 114, 103, 101, 32]⟩ : ByteArray).size = 6 := rfl
    have w4 : (⟨#[100, 101, 108, 101, 116, 101, 32]⟩ : ByteArray).size = 7 := rfl
    unfold opTx endT
    repeat' split
    all_goals
      simp only [ByteArray.size_append]
      omega
  case isFalse => show 0 ≤ 100000; omega

set_option maxHeartbeats 4000000 in
theorem c_recordOf (T : ByteArray) (w : World) (hT : T.size ≤ 100000) : Calls Tryz.prog 40 #[.string T] w fun e w' => e = .returned (.string (recT T)) ∧ Below w.heap.size w w' := by
  have H1 := hid (fun v => c_twoBytes T.size v (by omega))
  have H2 := hid (fun v => c_SumOf T v (by unfold maxLen; omega))
  have hck := M.ck_le T.data.toList
  have H3 := hid (fun v => c_twoBytes (M.ck T.data.toList) v (by omega))
  have HR : recT T = str (two T.size) ++ T ++ str (two (M.ck T.data.toList)) := rfl
  rw [HR]
  have z1 := two_sz T.size
  have z2 := two_sz (M.ck T.data.toList)
  obtain ⟨A1, hA1⟩ : ∃ A1, A1 = str (two T.size) := ⟨_, rfl⟩
  obtain ⟨N, hN⟩ : ∃ N, N = M.ck T.data.toList := ⟨_, rfl⟩
  rw [← hN] at H2 H3 z2 ⊢
  obtain ⟨B1, hB1⟩ : ∃ B1, B1 = str (two N) := ⟨_, rfl⟩
  rw [← hA1] at H1 z1 ⊢
  rw [← hB1] at H3 z2 ⊢
  have a0 : ∀ W, (Op.stringOp .add A1 T).run Tryz.prog W = .ok (.string (A1 ++ T)) W := fun W => run_string_add W _ _ (by omega) (by omega)
  have a1 : ∀ W, (Op.stringOp .add (A1 ++ T) B1).run Tryz.prog W = .ok (.string (A1 ++ T ++ B1)) W := fun W => run_string_add W _ _ (by rw [ByteArray.size_append]; omega) (by omega)
  clear hA1 hB1 hN HR hck
  go_enter Tryz.func40, Tryz.ntmps40
  go_wp2_with fail
  refine (H1.out _).mono ?_
  rintro e w1 ⟨rfl, hb1⟩
  go_wp2_with fail
  refine (H2.out _).mono ?_
  rintro e w2 ⟨rfl, rfl⟩
  go_wp2_with fail
  refine (H3.out _).mono ?_
  rintro e w3 ⟨rfl, hb3⟩
  go_wp2_with fail
  go_ret
  exact ⟨rfl, hb1.trans (hb3.mono hb1.size)⟩

set_option maxHeartbeats 4000000 in
theorem c_l8Record (T : ByteArray) (w : World) (hT : T.size ≤ 100000) : Calls Tryz.prog 41 #[.string T] w fun e w' => e = .returned (.string (recT T)) ∧ Below w.heap.size w w' := by
  have H1 := hid (fun v => c_l4Two T.size v (by omega))
  have H2 := hid (fun v => c_sSumOf T v (by unfold maxLen; omega))
  have hck := M.ck_le T.data.toList
  have H3 := hid (fun v => c_l4Two (M.ck T.data.toList) v (by omega))
  have HR : recT T = str (two T.size) ++ T ++ str (two (M.ck T.data.toList)) := rfl
  rw [HR]
  have z1 := two_sz T.size
  have z2 := two_sz (M.ck T.data.toList)
  obtain ⟨A1, hA1⟩ : ∃ A1, A1 = str (two T.size) := ⟨_, rfl⟩
  obtain ⟨N, hN⟩ : ∃ N, N = M.ck T.data.toList := ⟨_, rfl⟩
  rw [← hN] at H2 H3 z2 ⊢
  obtain ⟨B1, hB1⟩ : ∃ B1, B1 = str (two N) := ⟨_, rfl⟩
  rw [← hA1] at H1 z1 ⊢
  rw [← hB1] at H3 z2 ⊢
  have a0 : ∀ W, (Op.stringOp .add A1 T).run Tryz.prog W = .ok (.string (A1 ++ T)) W := fun W => run_string_add W _ _ (by omega) (by omega)
  have a1 : ∀ W, (Op.stringOp .add (A1 ++ T) B1).run Tryz.prog W = .ok (.string (A1 ++ T ++ B1)) W := fun W => run_string_add W _ _ (by rw [ByteArray.size_append]; omega) (by omega)
  clear hA1 hB1 hN HR hck
  go_enter Tryz.func41, Tryz.ntmps41
  go_wp2_with fail
  refine (H1.out _).mono ?_
  rintro e w1 ⟨rfl, hb1⟩
  go_wp2_with fail
  refine (H2.out _).mono ?_
  rintro e w2 ⟨rfl, rfl⟩
  go_wp2_with fail
  refine (H3.out _).mono ?_
  rintro e w3 ⟨rfl, hb3⟩
  go_wp2_with fail
  go_ret
  exact ⟨rfl, hb1.trans (hb3.mono hb1.size)⟩

set_option maxHeartbeats 4000000 in
theorem c_sLogRecord (k : Int) (nm : ByteArray) (f t z : Int) (d : ByteArray) (w : World) (hn : nm.size ≤ 1048576) (hd : d.size ≤ 1048576) : Calls Tryz.prog 14 #[.agg #[.int .i64 k, .string nm, .int .i64 f, .int .i64 t, .int .i64 z, .string d]] w fun e w' => e = .returned (.tuple #[.string (if opB k nm f t z d = true then recT (opT k nm f t z d) else ByteArray.empty), .bool (opB k nm f t z d)]) ∧ Below w.heap.size w w' := by
  have HV := hid (fun (v : World) (hb : Below w.heap.size w v) => c_sOpValid k nm f t z d v hn hd)
  have HT := hid (fun (v : World) (hb : Below w.heap.size w v) => c_sFormatOp k nm f t z d v hn hd)
  have HR := hid (fun (v : World) => c_l8Record (opT k nm f t z d) v (opT_size k nm f t z d))
  have kS := Blk.new w 24 #[.int .i64 k, .string nm, .int .i64 f, .int .i64 t, .int .i64 z, .string d]
  have hB0 : Below w.heap.size w (w.alloc (.cells #[.int .i64 k, .string nm, .int .i64 f, .int .i64 t, .int .i64 z, .string d] 24)) := by exact obB
  obtain ⟨y0, y1, y2, y3, y4, y5⟩ := kS.cells6
  obtain ⟨X, hX⟩ : ∃ X, X = opT k nm f t z d := ⟨_, rfl⟩
  obtain ⟨Y, hY⟩ : ∃ Y, Y = recT (opT k nm f t z d) := ⟨_, rfl⟩
  rw [← hY] at HR ⊢
  rw [← hX] at HT HR
  by_cases hok : opB k nm f t z d = true
  · rw [hok] at HV ⊢
    rw [if_pos rfl]
    clear hX hY hok
    have KS := hid kS
    go_enter Tryz.func14, Tryz.ntmps14
    go_wp2_with fail
    refine (HV.out _ hB0).mono ?_
    rintro e w1 ⟨rfl, hb1⟩
    have hB1 := hB0.trans (hb1.mono hB0.size)
    have k1 := KS.out.on hb1
    clear y0 y1 y2 y3 y4 y5 hb1 kS
    obtain ⟨y0, y1, y2, y3, y4, y5⟩ := k1.cells6
    go_wp2_with fail
    refine (HT.out _ hB1).mono ?_
    rintro e w2 ⟨rfl, hb2⟩
    have hB2 := hB1.trans (hb2.mono hB1.size)
    go_wp2_with fail
    refine (HR.out _).mono ?_
    rintro e w3 ⟨rfl, hb3⟩
    have hB3 := hB2.trans (hb3.mono hB2.size)
    go_wp2_with fail
    go_ret2
    exact ⟨rfl, hB3⟩
  · rw [Bool.eq_false_iff.2 hok] at HV ⊢
    rw [if_neg (by decide)]
    clear hX hY hok kS
    go_enter Tryz.func14, Tryz.ntmps14
    go_wp2_with fail
    refine (HV.out _ hB0).mono ?_
    rintro e w1 ⟨rfl, hb1⟩
    go_wp2_with fail
    go_ret2
    exact ⟨rfl, hB0.trans (hb1.mono hB0.size)⟩

set_option maxHeartbeats 4000000 in
theorem c_LogRecord (k : Int) (nm : ByteArray) (f t z : Int) (d : ByteArray) (w : World) (hn : nm.size ≤ 1048576) (hd : d.size ≤ 1048576) (hf : -9223372036854775808 ≤ f ∧ f ≤ 9223372036854775807) (ht : -9223372036854775808 ≤ t ∧ t ≤ 9223372036854775807) (hLy : Lay w) (hFm : Frm w) (hT : Tab w) : Calls Tryz.prog 13 #[.agg #[.int .i64 k, .string nm, .int .i64 f, .int .i64 t, .int .i64 z, .string d]] w fun e w' => e = .returned (.tuple #[.string (if opB k nm f t z d = true then recT (opT k nm f t z d) else ByteArray.empty), .bool (opB k nm f t z d)]) ∧ Below w.heap.size w w' := by
  have HV := hid (fun (v : World) (hb : Below w.heap.size w v) => c_OpValid k nm f t z d v hn hd hf ht (hLy.on hb) (hFm.on hb))
  have HT := hid (fun (v : World) (hb : Below w.heap.size w v) => c_FormatOp k nm f t z d v hn hd hf ht (hLy.on hb) (hFm.on hb) (hT.on hb))
  have HR := hid (fun (v : World) => c_recordOf (opT k nm f t z d) v (opT_size k nm f t z d))
  have kS := Blk.new w 24 #[.int .i64 k, .string nm, .int .i64 f, .int .i64 t, .int .i64 z, .string d]
  have hB0 : Below w.heap.size w (w.alloc (.cells #[.int .i64 k, .string nm, .int .i64 f, .int .i64 t, .int .i64 z, .string d] 24)) := by exact obB
  obtain ⟨y0, y1, y2, y3, y4, y5⟩ := kS.cells6
  obtain ⟨X, hX⟩ : ∃ X, X = opT k nm f t z d := ⟨_, rfl⟩
  obtain ⟨Y, hY⟩ : ∃ Y, Y = recT (opT k nm f t z d) := ⟨_, rfl⟩
  rw [← hY] at HR ⊢
  rw [← hX] at HT HR
  by_cases hok : opB k nm f t z d = true
  · rw [hok] at HV ⊢
    rw [if_pos rfl]
    clear hX hY hok hLy hFm hT
    have KS := hid kS
    go_enter Tryz.func13, Tryz.ntmps13
    go_wp2_with fail
    refine (HV.out _ hB0).mono ?_
    rintro e w1 ⟨rfl, hb1⟩
    have hB1 := hB0.trans (hb1.mono hB0.size)
    have k1 := KS.out.on hb1
    clear y0 y1 y2 y3 y4 y5 hb1 kS
    obtain ⟨y0, y1, y2, y3, y4, y5⟩ := k1.cells6
    go_wp2_with fail
    refine (HT.out _ hB1).mono ?_
    rintro e w2 ⟨rfl, hb2⟩
    have hB2 := hB1.trans (hb2.mono hB1.size)
    go_wp2_with fail
    refine (HR.out _).mono ?_
    rintro e w3 ⟨rfl, hb3⟩
    have hB3 := hB2.trans (hb3.mono hB2.size)
    go_wp2_with fail
    go_ret2
    exact ⟨rfl, hB3⟩
  · rw [Bool.eq_false_iff.2 hok] at HV ⊢
    rw [if_neg (by decide)]
    clear hX hY hok kS hLy hFm hT
    go_enter Tryz.func13, Tryz.ntmps13
    go_wp2_with fail
    refine (HV.out _ hB0).mono ?_
    rintro e w1 ⟨rfl, hb1⟩
    go_wp2_with fail
    go_ret2
    exact ⟨rfl, hB0.trans (hb1.mono hB0.size)⟩
end Go.Proofs.YtaiemogcboidhaaGreatDoor
