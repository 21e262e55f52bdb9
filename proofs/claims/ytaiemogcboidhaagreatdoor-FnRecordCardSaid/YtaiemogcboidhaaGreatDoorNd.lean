/- The walk of the law on an operation's text. -/
import Derived.Test.YtaiemogcboidhaaGreatDoorNc
import Derived.Test.YtaiemogcboidhaaGreatDoorLp
namespace Go.Proofs.YtaiemogcboidhaaGreatDoor
open Go.ChangeShapes Go.WideShapes Go.ChangeAt Go.RowKit Go.Joins
set_option linter.unusedVariables false
set_option linter.unusedSimpArgs false

theorem big_code2 {A' : Option Addr} {n cap L : Nat} {w : World} (hc : CodeAt w L A' n cap) : (n : Int) ≤ 9223372036854775807 := by
  have h1 := hc.1
  have h2 := hc.2.1
  unfold maxLen at h2; omega
theorem not_nil {s : ByteArray} (h : 1 ≤ s.size) : s.toList.isEmpty = false := by
  rw [ByteArray.toList_eq]
  cases hl : s.data.toList with
  | nil =>
    have e : s.data.toList.length = 0 := by rw [hl]; rfl
    have := len_toList s
    omega
  | cons _ _ => rfl
theorem opTx_pos (k : Int) (nm : ByteArray) (f t z : Int) (d : ByteArray) : 1 ≤ (opTx k nm f t z d).size := by
  unfold opTx
  split
  · simp only [ByteArray.size_append]; have : (⟨#[112, 117, 116, 32]⟩ : ByteArray).size = 4 := rfl; omega
  · split
    · simp only [ByteArray.size_append]; have : (⟨#[97, 112, 112, 101, 110, 100, 32]⟩ : ByteArray).size = 7 := rfl; omega
    · split
      · simp only [ByteArray.size_append]; have : (⟨#[114, 101, 112, 108, 97, 99, 101, 32]⟩ : ByteArray).size = 8 := rfl; omega
      · split
        · simp only [ByteArray.size_append]; have : (⟨#[109, 101, 114, 103, 101, 32]⟩ : ByteArray).size = 6 := rfl; omega
        · simp only [ByteArray.size_append]; have : (⟨#[100, 101, 108, 101, 116, 101, 32]⟩ : ByteArray).size = 7 := rfl; omega
theorem pop_ex2 (T : ByteArray) : ∃ k nm f t z d b, (∀ e, POp T e → e = opV k nm f t z d b) ∧ (b = true → opB k nm f t z d = true ∧ opT k nm f t z d = T) := by
  by_cases hx : ∃ k nm f t z d, opB k nm f t z d = true ∧ opTx k nm f t z d = T
  · obtain ⟨k, nm, f, t, z, d, hv, hT⟩ := hx
    exact ⟨k, nm, f, t, z, d, true, fun e h => pop_one h (.inl ⟨k, nm, f, t, z, d, hv, hT, rfl⟩), fun _ => ⟨hv, by rw [opT, if_pos hv]; exact hT⟩⟩
  · exact ⟨0, ⟨#[]⟩, 0, 0, 0, ⟨#[]⟩, false, fun e h => pop_one h (.inr ⟨fun k nm f t z d hv hT => hx ⟨k, nm, f, t, z, d, hv, hT⟩, rfl⟩), fun h => by cases h⟩

set_option maxRecDepth 100000 in
set_option maxHeartbeats 4000000 in
theorem walk_FnOpText (A0 : Option Addr) (n0 cap0 : Nat) (A1 : Option Addr) (n1 cap1 : Nat) (w : World) (hc : CodeAt w w.heap.size A0 n0 cap0) (hd : CodeAt w w.heap.size A1 n1 cap1) (hE : ErrAt w) (mm : Int) (hm : w.cell? ⟨2, 0, none⟩ = some (.int .i64 mm)) (hLy : Lay w) (hFm : Frm w) (hTab : Tab w) :
    Calls Tryz.prog 3 #[.slice A0 n0 cap0, .slice A1 n1 cap1] w fun e w' => e = .returned (.bool true) ∧ Below w.heap.size w w' := by
  have hbig := big_code2 hc
  have hbig1 := big_code2 hd
  by_cases big : 1048576 < n0
  · go_enter Tryz.func3, Tryz.ntmps3
    go_wp2_with fail
    go_ret
    exact ⟨rfl, by exact obB⟩
  by_cases big1 : 1048576 < n1
  · go_enter Tryz.func3, Tryz.ntmps3
    go_wp2_with fail
    go_ret
    exact ⟨rfl, by exact obB⟩
  have HD := hid hd
  have HPO := hid (fun (T : ByteArray) (hT : T.size ≤ 1048576) (v : World) (hb : Below w.heap.size w v) => c_ParseOp T v hT (hE.kept hb) mm (cell_kept hm hb) (hTab.on hb) (hLy.on hb) (hFm.on hb))
  have HFO := hid (fun (k : Int) (nm : ByteArray) (f t z : Int) (d : ByteArray) (v : World) (hb : Below w.heap.size w v) (hn : nm.size ≤ 1048576) (hd : d.size ≤ 1048576) (hf : -9223372036854775808 ≤ f ∧ f ≤ 9223372036854775807) (ht : -9223372036854775808 ≤ t ∧ t ≤ 9223372036854775807) => c_FormatOp k nm f t z d v hn hd hf ht (hLy.on hb) (hFm.on hb) (hTab.on hb))
  have HVO := hid (fun (k : Int) (nm : ByteArray) (f t z : Int) (d : ByteArray) (v : World) (hb : Below w.heap.size w v) (hn : nm.size ≤ 1048576) (hd : d.size ≤ 1048576) (hf : -9223372036854775808 ≤ f ∧ f ≤ 9223372036854775807) (ht : -9223372036854775808 ≤ t ∧ t ≤ 9223372036854775807) => c_OpValid k nm f t z d v hn hd hf ht (hLy.on hb) (hFm.on hb))
  clear hd hE hm hLy hFm hTab
  go_enter Tryz.func3, Tryz.ntmps3
  go_wp2_with fail
  refine (c_DrawFormatOp _ _ _ _ _ (Nat.le_refl _) hc).mono ?_
  rintro e w1 ⟨k, nm, f, t, z, d, rfl, ⟨hk, hn, hf, ht, hz, hdz⟩, b1⟩
  obtain ⟨T, hT⟩ : ∃ T, T = opT k nm f t z d := ⟨_, rfl⟩
  obtain ⟨G, hG⟩ : ∃ G, G = opB k nm f t z d := ⟨_, rfl⟩
  have H1 := hid (fun (v : World) (hb : Below w.heap.size w v) => HFO.out k nm f t z d v hb (by omega) (by omega) hf ht)
  have H2 := hid (fun (v : World) => c_sFormatOp k nm f t z d v (by omega) (by omega))
  have H3 := hid (fun (v : World) (hb : Below w.heap.size w v) => HVO.out k nm f t z d v hb (by omega) (by omega) hf ht)
  rw [← hT] at H1 H2
  rw [← hG] at H3
  have HT := hid hT
  have HG := hid hG
  have hTs : T.size ≤ 100000 := by rw [hT]; exact opT_size k nm f t z d
  clear hT hG hk hf ht hz
  go_wp2_with fail
  obtain ⟨N, hN⟩ : ∃ N, N = w1.heap.size := ⟨_, rfl⟩
  obtain ⟨W1, hW1⟩ : ∃ W1, W1 = w1.alloc (.cells #[.int .i64 k, .string nm, .int .i64 f, .int .i64 t, .int .i64 z, .string d] 24) := ⟨_, rfl⟩
  rw [← hW1, ← hN]
  have k1 : Blk W1 N 24 #[.int .i64 k, .string nm, .int .i64 f, .int .i64 t, .int .i64 z, .string d] := by rw [hW1, hN]; exact Blk.new w1 _ _
  have c1 : Below w.heap.size w W1 := by rw [hW1]; exact bel_alloc b1 _
  clear hW1 hN b1 hc
  refine (H1.out _ c1).mono ?_
  rintro e W2 ⟨rfl, hb2⟩
  have k2 := k1.on hb2
  have c2 := bel_trans c1 hb2
  obtain ⟨x0, x1, x2, x3, x4, x5⟩ := k2.cells6
  clear hb2 c1 k1
  go_wp2_with fail
  refine (H2.out _).mono ?_
  rintro e W3 ⟨rfl, hb3⟩
  have k3 := k2.on hb3
  have c3 := bel_trans c2 hb3
  clear hb3 c2 k2 x0 x1 x2 x3 x4 x5
  obtain ⟨x0, x1, x2, x3, x4, x5⟩ := k3.cells6
  cases G with
  | true =>
    have hTe : T.toList.isEmpty = false := by rw [HT.out, opT, if_pos HG.out.symm]; exact not_nil (opTx_pos k nm f t z d)
    have HP := hid (fun (v : World) (hb : Below w.heap.size w v) => (HPO.out T (by omega) v hb).mono fun e _ h => (⟨pop_one h.1 (.inl ⟨k, nm, f, t, z, d, HG.out.symm, by rw [HT.out, opT, if_pos HG.out.symm], rfl⟩), h.2⟩ : e = opV k nm f t z d true ∧ _))
    unfold opV at HP
    go_wp2_with fail
    refine (H3.out _ c3).mono ?_
    rintro e W4 ⟨rfl, hb4⟩
    have k4 := k3.on hb4
    have c4 := bel_trans c3 hb4
    clear hb4 c3 k3 x0 x1 x2 x3 x4 x5
    obtain ⟨x0, x1, x2, x3, x4, x5⟩ := k4.cells6
    go_wp2_with fail
    refine (HP.out _ c4).mono ?_
    rintro e W5 ⟨rfl, hb5⟩
    have k5 := k4.on hb5
    have c5 := bel_trans c4 hb5
    clear x0 x1 x2 x3 x4 x5
    obtain ⟨x0, x1, x2, x3, x4, x5⟩ := k5.cells6
    have hlt0 := k5.lt
    have hne3 : ¬ W5.heap.size = N := by omega
    have hne4 : ¬ N = W5.heap.size := by omega
    clear hb5 c4 k4
    go_wp2_with fail
    obtain ⟨WZ, hWZ⟩ : ∃ WZ, WZ = W5.alloc (.cells #[.int .i64 k, .string nm, .int .i64 f, .int .i64 t, .int .i64 z, .string d] 24) := ⟨_, rfl⟩
    rw [← hWZ]
    have cz : Below w.heap.size w WZ := by rw [hWZ]; exact bel_alloc c5 _
    clear hWZ c5 k5 x0 x1 x2 x3 x4 x5 hlt0 hne3 hne4
    have hd2 : CodeAt WZ w.heap.size A1 n1 cap1 := HD.out.keep (fun k hk => cz.block k hk)
    refine (c_DrawParseOp _ _ _ _ w.heap.size cz.size hd2).mono ?_
    rintro e V1 ⟨s, rfl, hs, hv1⟩
    have d1 := bel_trans cz hv1
    clear hd2 hv1 cz
    obtain ⟨k2, n2, f2, t2, z2, d2, b, hone, hbt⟩ := pop_ex2 s
    have G1 := hid (fun (v : World) => (c_sParseOp s v (by omega)).mono fun _ _ h => (⟨hone _ h.1, h.2⟩ : _ ∧ _))
    have G2 := hid (fun (v : World) (hb : Below w.heap.size w v) => (HPO.out s (by omega) v hb).mono fun _ _ h => (⟨hone _ h.1, h.2⟩ : _ ∧ _))
    unfold opV at G1 G2
    have HB := hid hbt
    clear hone hbt
    go_wp2_with fail
    refine (G2.out _ d1).mono ?_
    rintro e V2 ⟨rfl, hv2⟩
    have d2_ := bel_trans d1 hv2
    clear hv2 d1
    go_wp2_with fail
    obtain ⟨P, hP⟩ : ∃ P, P = V2.heap.size := ⟨_, rfl⟩
    obtain ⟨V3, hV3⟩ : ∃ V3, V3 = V2.alloc (.cells #[.int .i64 k2, .string n2, .int .i64 f2, .int .i64 t2, .int .i64 z2, .string d2] 24) := ⟨_, rfl⟩
    rw [← hV3, ← hP]
    have u3 : Blk V3 P 24 #[.int .i64 k2, .string n2, .int .i64 f2, .int .i64 t2, .int .i64 z2, .string d2] := by rw [hV3, hP]; exact Blk.new V2 _ _
    have d3 : Below w.heap.size w V3 := by rw [hV3]; exact bel_alloc d2_ _
    clear hV3 hP d2_
    refine (G1.out _).mono ?_
    rintro e V4 ⟨rfl, hv4⟩
    have u4 := u3.on hv4
    have d4 := bel_trans d3 hv4
    obtain ⟨y0, y1, y2, y3, y4, y5⟩ := u4.cells6
    have hlt := u4.lt
    have hne1 : ¬ V4.heap.size = P := by omega
    have hne2 : ¬ P = V4.heap.size := by omega
    clear hv4 d3 u3
    cases b with
    | false =>
      go_wp2
      go_ret
      exact ⟨by simp_all, by exact obB⟩
    | true =>
      obtain ⟨hB2, hT2⟩ := HB.out rfl
      obtain ⟨-, q1, q2, q3, q4, q5⟩ := opB_facts hB2
      have G3 := hid (fun (v : World) (hb : Below w.heap.size w v) => HFO.out k2 n2 f2 t2 z2 d2 v hb (by omega) (by omega) (by omega) (by omega))
      rw [hT2] at G3
      clear hB2 hT2 q1 q2 q3 q4 q5
      go_wp2_with fail
      refine (G3.out _ (by exact obB)).mono ?_
      rintro e V6 ⟨rfl, hv6⟩
      go_wp2
      go_ret
      exact ⟨by simp_all, by exact obB⟩
  | false =>
    have hTe0 : T = ⟨#[]⟩ := by rw [HT.out, opT, if_neg (by rw [← HG.out]; simp)]; rfl
    have hTe : T.toList.isEmpty = true := by rw [hTe0, ByteArray.toList_eq]; rfl
    clear hTe0
    go_wp2_with fail
    refine (H3.out _ c3).mono ?_
    rintro e WZ ⟨rfl, hb4⟩
    have cz := bel_trans c3 hb4
    clear hb4 c3 k3 x0 x1 x2 x3 x4 x5
    go_wp2_with fail
    have hd2 : CodeAt WZ w.heap.size A1 n1 cap1 := HD.out.keep (fun k hk => cz.block k hk)
    refine (c_DrawParseOp _ _ _ _ w.heap.size cz.size hd2).mono ?_
    rintro e V1 ⟨s, rfl, hs, hv1⟩
    have d1 := bel_trans cz hv1
    clear hd2 hv1 cz
    obtain ⟨k2, n2, f2, t2, z2, d2, b, hone, hbt⟩ := pop_ex2 s
    have G1 := hid (fun (v : World) => (c_sParseOp s v (by omega)).mono fun _ _ h => (⟨hone _ h.1, h.2⟩ : _ ∧ _))
    have G2 := hid (fun (v : World) (hb : Below w.heap.size w v) => (HPO.out s (by omega) v hb).mono fun _ _ h => (⟨hone _ h.1, h.2⟩ : _ ∧ _))
    unfold opV at G1 G2
    have HB := hid hbt
    clear hone hbt
    go_wp2_with fail
    refine (G2.out _ d1).mono ?_
    rintro e V2 ⟨rfl, hv2⟩
    have d2_ := bel_trans d1 hv2
    clear hv2 d1
    go_wp2_with fail
    obtain ⟨P, hP⟩ : ∃ P, P = V2.heap.size := ⟨_, rfl⟩
    obtain ⟨V3, hV3⟩ : ∃ V3, V3 = V2.alloc (.cells #[.int .i64 k2, .string n2, .int .i64 f2, .int .i64 t2, .int .i64 z2, .string d2] 24) := ⟨_, rfl⟩
    rw [← hV3, ← hP]
    have u3 : Blk V3 P 24 #[.int .i64 k2, .string n2, .int .i64 f2, .int .i64 t2, .int .i64 z2, .string d2] := by rw [hV3, hP]; exact Blk.new V2 _ _
    have d3 : Below w.heap.size w V3 := by rw [hV3]; exact bel_alloc d2_ _
    clear hV3 hP d2_
    refine (G1.out _).mono ?_
    rintro e V4 ⟨rfl, hv4⟩
    have u4 := u3.on hv4
    have d4 := bel_trans d3 hv4
    obtain ⟨y0, y1, y2, y3, y4, y5⟩ := u4.cells6
    have hlt := u4.lt
    have hne1 : ¬ V4.heap.size = P := by omega
    have hne2 : ¬ P = V4.heap.size := by omega
    clear hv4 d3 u3
    cases b with
    | false =>
      go_wp2
      go_ret
      exact ⟨by simp_all, by exact obB⟩
    | true =>
      obtain ⟨hB2, hT2⟩ := HB.out rfl
      obtain ⟨-, q1, q2, q3, q4, q5⟩ := opB_facts hB2
      have G3 := hid (fun (v : World) (hb : Below w.heap.size w v) => HFO.out k2 n2 f2 t2 z2 d2 v hb (by omega) (by omega) (by omega) (by omega))
      rw [hT2] at G3
      clear hB2 hT2 q1 q2 q3 q4 q5
      go_wp2_with fail
      refine (G3.out _ (by exact obB)).mono ?_
      rintro e V6 ⟨rfl, hv6⟩
      go_wp2
      go_ret
      exact ⟨by simp_all, by exact obB⟩

end Go.Proofs.YtaiemogcboidhaaGreatDoor
