/- The walk of the law on records. -/
import Derived.Test.YtaiemogcboidhaaGreatDoorNd
import Derived.Test.YtaiemogcboidhaaGreatDoorLq
namespace Go.Proofs.YtaiemogcboidhaaGreatDoor
open Go.ChangeShapes Go.WideShapes Go.ChangeAt Go.RowKit Go.Joins
set_option linter.unusedVariables false
set_option linter.unusedSimpArgs false

theorem c_soManyE (s : ByteArray) (m : Int) (w : World) (hs : s.size = 1) (h0 : 0 ≤ m) (h1 : m ≤ 49) : Calls Tryz.prog 15 #[.string s, .int .i64 m] w fun e w' => ∃ T : ByteArray, e = .returned (.string T) ∧ T.size ≤ 49 ∧ Below w.heap.size w w' := by
  go_enter Tryz.func15, Tryz.ntmps15
  go_wp2_with fail
  go_loopw [5, 6] (fun t i wr => ∃ (k : Nat) (T : ByteArray), (k : Int) ≤ m ∧ i = .int .i64 k ∧ t = .string T ∧ T.size ≤ k ∧ Below w.heap.size w wr) (fun _ i _ => (m - intOf i).toNat)
  case atStart => exact ⟨0, ByteArray.empty, by omega, rfl, rfl, by simp, by exact obB⟩
  case round =>
    obtain ⟨k, T, hk, rfl, rfl, hT, hbl⟩ := hrel
    have hT2 : T.size ≤ 49 := by omega
    by_cases hlt : (k : Int) < m
    · go_wp2
      go_roundw
      case rel => exact ⟨k + 1, T ++ s, by omega, by go_num, rfl, by rw [ByteArray.size_append]; omega, by exact obB⟩
      case measure => simp [intOf]; omega
    · go_wp2
      go_ret
      exact ⟨T, rfl, hT2, by exact obB⟩

theorem rec_list (T : ByteArray) : (recT T).data.toList = two T.size ++ T.data.toList ++ two (M.ck T.data.toList) := by
  rw [recT, ByteArray.data_append, ByteArray.data_append, Array.toList_append, Array.toList_append, str_list, str_list]
theorem two_num (n : Nat) (h : n ≤ 65535) : n = ((str (two n)).data.toList.getD 0 0).toNat * 256 + ((str (two n)).data.toList.getD 1 0).toNat := by
  rw [str_list]
  show n = (UInt8.ofNat (n / 256)).toNat * 256 + (UInt8.ofNat n).toNat
  rw [UInt8.toNat_ofNat', UInt8.toNat_ofNat']
  omega
theorem bytes_of {a b : ByteArray} (h : a.data.toList = b.data.toList) : a = b := ByteArray.ext (Array.toList_inj.1 h)
theorem recT_size (T : ByteArray) : (recT T).size = T.size + 4 := by
  rw [recT, ByteArray.size_append, ByteArray.size_append, two_sz, two_sz]; omega
theorem rec_mid (X T Y : ByteArray) : (X ++ recT T ++ Y).extract X.size (X.size + 2) = str (two T.size) ∧ (X ++ recT T ++ Y).extract (X.size + 2) (X.size + 2 + T.size) = T ∧ (X ++ recT T ++ Y).extract X.size (X.size + 4 + T.size) = recT T := by
  have hl : (X ++ recT T ++ Y).data.toList = X.data.toList ++ (two T.size ++ T.data.toList ++ two (M.ck T.data.toList) ++ Y.data.toList) := by
    rw [ByteArray.data_append, ByteArray.data_append, Array.toList_append, Array.toList_append, rec_list]; simp
  have hx : X.data.toList.length = X.size := len_toList X
  have ht : T.data.toList.length = T.size := len_toList T
  have h2 : ∀ n, (two n).length = 2 := fun n => rfl
  refine ⟨bytes_of ?_, bytes_of ?_, bytes_of ?_⟩
  · rw [ext_list, hl, str_list, List.drop_left' hx, show X.size + 2 - X.size = 2 from by omega, List.append_assoc, List.append_assoc, List.take_left' (h2 _)]
  · rw [ext_list, hl, show X.size + 2 = (X.data.toList ++ two T.size).length from by rw [List.length_append, h2, hx], show X.data.toList ++ (two T.size ++ T.data.toList ++ two (M.ck T.data.toList) ++ Y.data.toList) = (X.data.toList ++ two T.size) ++ (T.data.toList ++ (two (M.ck T.data.toList) ++ Y.data.toList)) from by simp, List.drop_left, Nat.add_sub_cancel_left, List.take_left' ht]
  · rw [ext_list, hl, rec_list, List.drop_left' hx, List.take_left' (by rw [List.length_append, List.length_append, h2, h2, ht]; omega)]
theorem rec_cut (T : ByteArray) : ((recT T).extract 0 ((recT T).size - 1)).extract 0 2 = str (two T.size) := by
  have h2 : ∀ n, (two n).length = 2 := fun n => rfl
  refine bytes_of ?_
  rw [ext_list, ext_list, rec_list, recT_size, str_list, List.drop_zero, List.drop_zero, List.take_take, List.append_assoc, show min (2 - 0) (T.size + 4 - 1 - 0) = 2 from by omega, List.take_left' (h2 _)]

theorem opT_small (k : Int) (nm : ByteArray) (f t z : Int) (d : ByteArray) : (opT k nm f t z d).size ≤ 20000 := by
  unfold opT
  split
  case isTrue hok =>
    obtain ⟨hk, ⟨n1, n2⟩, hz, hf2, ht2, d1⟩ := opB_facts hok
    have zF : (str (dec f)).size ≤ 10 := by rw [str_size]; exact (dec_len f hf2.1 (by omega)).2
    have zT : (str (dec t)).size ≤ 10 := by rw [str_size]; exact (dec_len t ht2.1 (by omega)).2
    have zZ : (str (dec z)).size ≤ 10 := by rw [str_size]; exact (dec_len z hz.1 (by omega)).2
    have zH : (dashI (str (M.fmtHex d.data.toList))).size ≤ 4000 := dashI_size (by rw [str_size]; exact hexI_len d1) (by omega)
    have e1 : (⟨#[32]⟩ : ByteArray).size = 1 := rfl
    have w0 : (⟨#[112, 117, 116, 32]⟩ : ByteArray).size = 4 := rfl
    have w1 : (⟨#[97, 112, 112, 101, 110, 100, 32]⟩ : ByteArray).size = 7 := rfl
    have w2 : (⟨#[114, 101, 112, 108, 97, 99, 101, 32]⟩ : ByteArray).size = 8 := rfl
    have w3 : (⟨#[109, 101, 114, 103, 101, 32]⟩ : ByteArray).size = 6 := rfl
    have w4 : (⟨#[100, 101, 108, 101, 116, 101, 32]⟩ : ByteArray).size = 7 := rfl
    unfold opTx endT
    repeat' split
    all_goals
      simp only [ByteArray.size_append]
      omega
  case isFalse => show 0 ≤ 20000; omega

set_option maxRecDepth 100000 in
set_option maxHeartbeats 4000000 in
theorem walk_FnRecord (A0 : Option Addr) (n0 cap0 : Nat) (A1 : Option Addr) (n1 cap1 : Nat) (w : World) (hc : CodeAt w w.heap.size A0 n0 cap0) (hd : CodeAt w w.heap.size A1 n1 cap1) (hE : ErrAt w) (mm : Int) (hm : w.cell? ⟨2, 0, none⟩ = some (.int .i64 mm)) (hLy : Lay w) (hFm : Frm w) (hTab : Tab w) :
    Calls Tryz.prog 4 #[.slice A0 n0 cap0, .slice A1 n1 cap1] w fun e w' => e = .returned (.bool true) ∧ Below w.heap.size w w' := by
  have hbig := big_code2 hc
  have hbig1 := big_code2 hd
  by_cases big : 1048576 < n0
  · go_enter Tryz.func4, Tryz.ntmps4
    go_wp2_with fail
    go_ret
    exact ⟨rfl, by exact obB⟩
  by_cases big1 : 1048576 < n1
  · go_enter Tryz.func4, Tryz.ntmps4
    go_wp2_with fail
    go_ret
    exact ⟨rfl, by exact obB⟩
  have HPO := hid (fun (T : ByteArray) (hT : T.size ≤ 1048576) (v : World) (hb : Below w.heap.size w v) => c_ParseOp T v hT (hE.kept hb) mm (cell_kept hm hb) (hTab.on hb) (hLy.on hb) (hFm.on hb))
  have HFO := hid (fun (k : Int) (nm : ByteArray) (f t z : Int) (d : ByteArray) (v : World) (hb : Below w.heap.size w v) (hn : nm.size ≤ 1048576) (hd : d.size ≤ 1048576) (hf : -9223372036854775808 ≤ f ∧ f ≤ 9223372036854775807) (ht : -9223372036854775808 ≤ t ∧ t ≤ 9223372036854775807) => c_FormatOp k nm f t z d v hn hd hf ht (hLy.on hb) (hFm.on hb) (hTab.on hb))
  have HVO := hid (fun (k : Int) (nm : ByteArray) (f t z : Int) (d : ByteArray) (v : World) (hb : Below w.heap.size w v) (hn : nm.size ≤ 1048576) (hd : d.size ≤ 1048576) (hf : -9223372036854775808 ≤ f ∧ f ≤ 9223372036854775807) (ht : -9223372036854775808 ≤ t ∧ t ≤ 9223372036854775807) => c_OpValid k nm f t z d v hn hd hf ht (hLy.on hb) (hFm.on hb))
  have HLO := hid (fun (k : Int) (nm : ByteArray) (f t z : Int) (d : ByteArray) (v : World) (hb : Below w.heap.size w v) (hn : nm.size ≤ 1048576) (hd : d.size ≤ 1048576) (hf : -9223372036854775808 ≤ f ∧ f ≤ 9223372036854775807) (ht : -9223372036854775808 ≤ t ∧ t ≤ 9223372036854775807) => c_LogRecord k nm f t z d v hn hd hf ht (hLy.on hb) (hFm.on hb) (hTab.on hb))
  clear hd hE hm hLy hFm hTab
  go_enter Tryz.func4, Tryz.ntmps4
  go_wp2_with fail
  refine (c_DrawLogRecord _ _ _ _ _ (Nat.le_refl _) hc).mono ?_
  rintro e w1 ⟨k, nm, f, t, z, d, rfl, ⟨hk, hn, hf, ht, hz, hdz⟩, b1⟩
  obtain ⟨T, hT⟩ : ∃ T, T = opT k nm f t z d := ⟨_, rfl⟩
  obtain ⟨G, hG⟩ : ∃ G, G = opB k nm f t z d := ⟨_, rfl⟩
  have H0 := hid (fun (v : World) (hb : Below w.heap.size w v) => HFO.out k nm f t z d v hb (by omega) (by omega) hf ht)
  have H1 := hid (fun (v : World) (hb : Below w.heap.size w v) => HLO.out k nm f t z d v hb (by omega) (by omega) hf ht)
  have H2 := hid (fun (v : World) => c_sLogRecord k nm f t z d v (by omega) (by omega))
  have H3 := hid (fun (v : World) (hb : Below w.heap.size w v) => HVO.out k nm f t z d v hb (by omega) (by omega) hf ht)
  rw [← hT] at H0 H1 H2
  rw [← hG] at H1 H2 H3
  have HT := hid hT
  have HG := hid hG
  have hTs : opB k nm f t z d = true → T.size ≤ 20000 := fun h => by rw [hT]; exact opT_small k nm f t z d
  rw [← hG] at hTs
  clear hT hG hk hf ht hz hn hdz
  go_wp2_with fail
  obtain ⟨N, hN⟩ : ∃ N, N = w1.heap.size := ⟨_, rfl⟩
  obtain ⟨W1, hW1⟩ : ∃ W1, W1 = w1.alloc (.cells #[.int .i64 k, .string nm, .int .i64 f, .int .i64 t, .int .i64 z, .string d] 24) := ⟨_, rfl⟩
  rw [← hW1, ← hN]
  have k1 : Blk W1 N 24 #[.int .i64 k, .string nm, .int .i64 f, .int .i64 t, .int .i64 z, .string d] := by rw [hW1, hN]; exact Blk.new w1 _ _
  have c1 : Below w.heap.size w W1 := by rw [hW1]; exact bel_alloc b1 _
  clear hW1 hN b1 hc
  cases G with
  | false =>
    simp only [Bool.false_eq_true, if_false] at H1 H2
    clear hTs
    refine (H1.out _ c1).mono ?_
    rintro e W2 ⟨rfl, hb2⟩
    have k2 := k1.on hb2
    have c2 := bel_trans c1 hb2
    obtain ⟨x0, x1, x2, x3, x4, x5⟩ := k2.cells6
    clear hb2 c1 k1
    go_wp2_with fail
    refine (H2.out _).mono ?_
    rintro e W3 ⟨rfl, hb3⟩
    have k3 := k2.on hb3
    have c3 := bel_trans c2 hb3
    clear hb3 c2 k2 x0 x1 x2 x3 x4 x5
    obtain ⟨x0, x1, x2, x3, x4, x5⟩ := k3.cells6
    go_wp2_with fail
    refine (H3.out _ c3).mono ?_
    rintro e W4 ⟨rfl, hb4⟩
    have k4 := k3.on hb4
    have c4 := bel_trans c3 hb4
    clear hb4 c3 k3 x0 x1 x2 x3 x4 x5
    obtain ⟨x0, x1, x2, x3, x4, x5⟩ := k4.cells6
    go_wp2_with fail
    refine (H3.out _ c4).mono ?_
    rintro e W5 ⟨rfl, hb5⟩
    go_wp2
    go_ret
    exact ⟨rfl, by exact obB⟩
  | true =>
    simp only [if_true] at H1 H2
    have hTz := hTs rfl
    obtain ⟨Q, hQ⟩ : ∃ Q, Q = recT T := ⟨_, rfl⟩
    have hQz : Q.size = T.size + 4 := by rw [hQ]; exact recT_size T
    rw [← hQ] at H1 H2
    have HQ := hid hQ
    have HQZ := hid hQz
    have hQ1 : 4 ≤ Q.size ∧ Q.size ≤ 20004 := by omega
    have hq4 : ((Q.size : Int) == (T.size : Int) + 4) = true := eq_yes (by omega)
    have HP := hid (fun (v : World) (hb : Below w.heap.size w v) => (HPO.out T (by omega) v hb).mono fun e _ h => (⟨pop_one h.1 (.inl ⟨k, nm, f, t, z, d, HG.out.symm, by rw [HT.out, opT, if_pos HG.out.symm], rfl⟩), h.2⟩ : e = opV k nm f t z d true ∧ _))
    have HRR := hid (fun (X : ByteArray) (hX : X.size ≤ 49) (v : World) (hb : Below w.heap.size w v) => (c_RR3 (X ++ Q ++ X) X.size v (by rw [ByteArray.size_append, ByteArray.size_append]; omega) (str (two T.size)) (by rw [HQ.out]; exact (rec_mid X T X).1.symm) T.size (two_num T.size (by omega)) (by rw [ByteArray.size_append, ByteArray.size_append]; omega) T (by rw [HQ.out]; exact (rec_mid X T X).2.1.symm) Q (by rw [HQ.out]; exact (rec_mid X T X).2.2.symm) k nm f t z d true (hid (fun v2 hb2 => HP.out v2 (hb.trans (hb2.mono hb.size))))).mono fun e _ h => (⟨h.1.trans (if_pos ⟨rfl, HQ.out.symm⟩), h.2⟩ : e = opR k nm f t z d ((X.size : Int) + 4 + T.size) true ∧ _))
    obtain ⟨Q2, hQ2⟩ : ∃ Q2, Q2 = Q.extract 0 (Q.size - 1) := ⟨_, rfl⟩
    have HRS := hid (fun (v : World) => c_RR2 Q2 0 v (by rw [hQ2, ByteArray.size_extract]; omega) (by rw [hQ2, ByteArray.size_extract]; omega) (str (two T.size)) (by rw [hQ2, HQ.out]; exact (rec_cut T).symm) T.size (two_num T.size (by omega)) (by rw [hQ2, ByteArray.size_extract]; omega))
    have a1 : ∀ W, (Instr.slice 9 (.string Q) none (some (.int .i64 ((Q.size : Int) - 1))) none).run Tryz.prog W = .ok (.string Q2) W := by
      intro W; rw [run_slice_string_to_if W _ _ _ _ Tryz.underlying9, if_pos (by omega), hQ2]; congr 3; omega
    unfold opR at HRR HRS
    clear hTs hQ hQz hQ2
    refine (H1.out _ c1).mono ?_
    rintro e W2 ⟨rfl, hb2⟩
    have k2 := k1.on hb2
    have c2 := bel_trans c1 hb2
    obtain ⟨x0, x1, x2, x3, x4, x5⟩ := k2.cells6
    clear hb2 c1 k1
    go_wp2_with fail
    refine (H2.out _).mono ?_
    rintro e W3 ⟨rfl, hb3⟩
    have k3 := k2.on hb3
    have c3 := bel_trans c2 hb3
    clear hb3 c2 k2 x0 x1 x2 x3 x4 x5
    obtain ⟨x0, x1, x2, x3, x4, x5⟩ := k3.cells6
    go_wp2_with fail
    refine (H3.out _ c3).mono ?_
    rintro e W4 ⟨rfl, hb4⟩
    have k4 := k3.on hb4
    have c4 := bel_trans c3 hb4
    clear hb4 c3 k3 x0 x1 x2 x3 x4 x5
    go_wp2_with fail
    refine (c_soManyE _ _ _ rfl (by omega) (by omega)).mono ?_
    rintro e W5 ⟨X, rfl, hX, hb5⟩
    have k5 := k4.on hb5
    have c5 := bel_trans c4 hb5
    clear hb5 c4 k4
    have hx4 : ((X.size : Int) + 4 + T.size == (X.size : Int) + Q.size) = true := eq_yes (by have := HQZ.out; omega)
    have a2 : ∀ W, (Op.stringOp .add X Q).run Tryz.prog W = .ok (.string (X ++ Q)) W := fun W => run_string_add W _ _ (by omega) (by omega)
    have a3 : ∀ W, (Op.stringOp .add (X ++ Q) X).run Tryz.prog W = .ok (.string (X ++ Q ++ X)) W := fun W => run_string_add W _ _ (by rw [ByteArray.size_append]; omega) (by omega)
    go_wp2_with fail
    refine (HRR.out X (by omega) _ c5).mono ?_
    rintro e W6 ⟨rfl, hb6⟩
    have k6 := k5.on hb6
    have c6 := bel_trans c5 hb6
    clear hb6 c5 k5
    go_wp2_with fail
    obtain ⟨P, hP⟩ : ∃ P, P = W6.heap.size := ⟨_, rfl⟩
    obtain ⟨W7, hW7⟩ : ∃ W7, W7 = W6.alloc (.cells #[.int .i64 k, .string nm, .int .i64 f, .int .i64 t, .int .i64 z, .string d] 24) := ⟨_, rfl⟩
    rw [← hW7, ← hP]
    have k7 : Blk W7 N 24 #[.int .i64 k, .string nm, .int .i64 f, .int .i64 t, .int .i64 z, .string d] := by rw [hW7]; exact k6.alloc _
    have u7 : Blk W7 P 24 #[.int .i64 k, .string nm, .int .i64 f, .int .i64 t, .int .i64 z, .string d] := by rw [hW7, hP]; exact Blk.new W6 _ _
    have c7 : Below w.heap.size w W7 := by rw [hW7]; exact bel_alloc c6 _
    clear hW7 hP c6 k6
    refine (HRS.out _).mono ?_
    rintro e W8 ⟨rfl, hb8⟩
    have k8 := k7.on hb8
    have u8 := u7.on hb8
    have c8 := bel_trans c7 hb8
    obtain ⟨x0, x1, x2, x3, x4, x5⟩ := k8.cells6
    obtain ⟨y0, y1, y2, y3, y4, y5⟩ := u8.cells6
    have hlt := k8.lt
    have hlu := u8.lt
    have hne1 : ¬ W8.heap.size = P := by omega
    have hne2 : ¬ P = W8.heap.size := by omega
    have hne3 : ¬ W8.heap.size = N := by omega
    have hne4 : ¬ N = W8.heap.size := by omega
    clear hb8 c7 k7 u7 k8 u8
    go_wp2_with fail
    refine (H0.out _ (by exact obB)).mono ?_
    rintro e W9 ⟨rfl, hb9⟩
    go_wp2
    go_ret
    exact ⟨rfl, by exact obB⟩
end Go.Proofs.YtaiemogcboidhaaGreatDoor
