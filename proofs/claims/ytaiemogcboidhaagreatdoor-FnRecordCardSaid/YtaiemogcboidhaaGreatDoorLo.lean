/- ParseOp in the model. -/
import Derived.Test.YtaiemogcboidhaaGreatDoorLj
namespace Go.Proofs.YtaiemogcboidhaaGreatDoor
open Go.ChangeShapes Go.WideShapes Go.ChangeAt Go.RowKit Go.Joins
set_option linter.unusedVariables false
set_option linter.unusedSimpArgs false

theorem c_l8Kind_0 (w : World) : Calls Tryz.prog 36 #[.string ⟨#[112, 117, 116]⟩] w (Same (.tuple #[.int .i64 0, .int .i64 4]) w) := by
  go_enter Tryz.func36, Tryz.ntmps36
  go_wp2
  go_ret2
  exact ⟨rfl, rfl⟩

theorem c_l8Kind_1 (w : World) : Calls Tryz.prog 36 #[.string ⟨#[97, 112, 112, 101, 110, 100]⟩] w (Same (.tuple #[.int .i64 1, .int .i64 4]) w) := by
  go_enter Tryz.func36, Tryz.ntmps36
  go_wp2
  go_ret2
  exact ⟨rfl, rfl⟩

theorem c_l8Kind_2 (w : World) : Calls Tryz.prog 36 #[.string ⟨#[114, 101, 112, 108, 97, 99, 101]⟩] w (Same (.tuple #[.int .i64 2, .int .i64 6]) w) := by
  go_enter Tryz.func36, Tryz.ntmps36
  go_wp2
  go_ret2
  exact ⟨rfl, rfl⟩

theorem c_l8Kind_3 (w : World) : Calls Tryz.prog 36 #[.string ⟨#[109, 101, 114, 103, 101]⟩] w (Same (.tuple #[.int .i64 3, .int .i64 3]) w) := by
  go_enter Tryz.func36, Tryz.ntmps36
  go_wp2
  go_ret2
  exact ⟨rfl, rfl⟩

theorem c_l8Kind_4 (w : World) : Calls Tryz.prog 36 #[.string ⟨#[100, 101, 108, 101, 116, 101]⟩] w (Same (.tuple #[.int .i64 4, .int .i64 2]) w) := by
  go_enter Tryz.func36, Tryz.ntmps36
  go_wp2
  go_ret2
  exact ⟨rfl, rfl⟩

theorem c_l8Kind_no (x : ByteArray) (w : World) (h : ∀ k, 0 ≤ k → k < 5 → x ≠ wdOf k) : Calls Tryz.prog 36 #[.string x] w (Same (.tuple #[.int .i64 (-1), .int .i64 0]) w) := by
  have n0 : (x.toList == [112, 117, 116]) = false := by
    have e := bytes_neI (h 0 (by omega) (by omega))
    rw [show (wdOf 0).toList = [112, 117, 116] from ByteArray.toList_eq _] at e
    exact e
  have m0 : ¬ x.toList = [112, 117, 116] := by simpa using n0
  have n1 : (x.toList == [97, 112, 112, 101, 110, 100]) = false := by
    have e := bytes_neI (h 1 (by omega) (by omega))
    rw [show (wdOf 1).toList = [97, 112, 112, 101, 110, 100] from ByteArray.toList_eq _] at e
    exact e
  have m1 : ¬ x.toList = [97, 112, 112, 101, 110, 100] := by simpa using n1
  have n2 : (x.toList == [114, 101, 112, 108, 97, 99, 101]) = false := by
    have e := bytes_neI (h 2 (by omega) (by omega))
    rw [show (wdOf 2).toList = [114, 101, 112, 108, 97, 99, 101] from ByteArray.toList_eq _] at e
    exact e
  have m2 : ¬ x.toList = [114, 101, 112, 108, 97, 99, 101] := by simpa using n2
  have n3 : (x.toList == [109, 101, 114, 103, 101]) = false := by
    have e := bytes_neI (h 3 (by omega) (by omega))
    rw [show (wdOf 3).toList = [109, 101, 114, 103, 101] from ByteArray.toList_eq _] at e
    exact e
  have m3 : ¬ x.toList = [109, 101, 114, 103, 101] := by simpa using n3
  have n4 : (x.toList == [100, 101, 108, 101, 116, 101]) = false := by
    have e := bytes_neI (h 4 (by omega) (by omega))
    rw [show (wdOf 4).toList = [100, 101, 108, 101, 116, 101] from ByteArray.toList_eq _] at e
    exact e
  have m4 : ¬ x.toList = [100, 101, 108, 101, 116, 101] := by simpa using n4
  clear h
  go_enter Tryz.func36, Tryz.ntmps36
  go_wp2
  go_ret2
  exact ⟨rfl, rfl⟩

theorem len_2 {l : List ByteArray} (h : l.length = 2) : ∃ x0 x1, l = [x0, x1] := by
  match l, h with
  | [x0, x1], _ => exact ⟨x0, x1, rfl⟩

theorem len_3 {l : List ByteArray} (h : l.length = 3) : ∃ x0 x1 x2, l = [x0, x1, x2] := by
  match l, h with
  | [x0, x1, x2], _ => exact ⟨x0, x1, x2, rfl⟩

theorem len_4 {l : List ByteArray} (h : l.length = 4) : ∃ x0 x1 x2 x3, l = [x0, x1, x2, x3] := by
  match l, h with
  | [x0, x1, x2, x3], _ => exact ⟨x0, x1, x2, x3, rfl⟩

theorem len_6 {l : List ByteArray} (h : l.length = 6) : ∃ x0 x1 x2 x3 x4 x5, l = [x0, x1, x2, x3, x4, x5] := by
  match l, h with
  | [x0, x1, x2, x3, x4, x5], _ => exact ⟨x0, x1, x2, x3, x4, x5, rfl⟩

theorem cut_pos {T : ByteArray} {l : List ByteArray} (h : l.map (·.data.toList) = cutL 32 T.data.toList) : 0 < l.length := by
  have e := congrArg List.length h
  rw [List.length_map] at e
  have h2 : 0 < (cutL 32 T.data.toList).length := by
    cases T.data.toList with
    | nil => simp [cutL]
    | cons b r =>
      rw [cutL]
      split
      · simp
      · split <;> simp
  omega
theorem gx_zero {l : List ByteArray} (h : 0 < l.length) : gx l 0 = l[0] := by
  cases l with
  | nil => simp at h
  | cons a r => rfl

set_option maxHeartbeats 8000000 in
set_option maxRecDepth 100000 in
theorem c_sParseOp_0 (T : ByteArray) (w : World) (ht : T.size ≤ 1048576) (l : List ByteArray) (hl : l.map (·.data.toList) = cutL 32 T.data.toList) (hw : gx l 0 = wdOf 0) :
    Calls Tryz.prog 11 #[.string T] w fun e w' => POp T e ∧ Below w.heap.size w w' := by
  go_enter Tryz.func11, Tryz.ntmps11
  go_wp2_with fail
  obtain ⟨N, hN⟩ : ∃ N, N = w.heap.size := ⟨_, rfl⟩
  have hNw : w.heap.size ≤ N := by omega
  obtain ⟨W1, hW1⟩ : ∃ W1, W1 = w.alloc (.cells #[.int .i64 0, .string ⟨#[]⟩, .int .i64 0, .int .i64 0, .int .i64 0, .string ⟨#[]⟩] 24) := ⟨_, rfl⟩
  rw [← hN, ← hW1]
  have k1 : Blk W1 N 24 #[.int .i64 0, .string ⟨#[]⟩, .int .i64 0, .int .i64 0, .int .i64 0, .string ⟨#[]⟩] := by rw [hW1, hN]; exact Blk.new w _ _
  have c1 : Below w.heap.size w W1 := by rw [hW1]; exact bel_alloc (Below.refl _ _) _
  clear hN hW1
  refine (c_l9Cut 32 T W1 ht).mono ?_
  rintro e W2 ⟨l2, AA, cap, hmap, hll, rfl, hown, hb2⟩
  obtain rfl : l2 = l := bytes_back (hmap.trans hl.symm)
  have kN2 : Blk W2 N 24 #[.int .i64 0, .string ⟨#[]⟩, .int .i64 0, .int .i64 0, .int .i64 0, .string ⟨#[]⟩] := k1.on hb2
  have c2 := bel_trans c1 hb2
  have hat := own_strs_at hown
  have HP := hid (opl_cutL hmap)
  have hsz : ∀ x ∈ l2, x.size ≤ 1048576 := fun x hx => Nat.le_trans (cut_sizes hmap x hx) ht
  clear k1 c1 hb2 hown hl
  have HK := hid (fun (v : World) => c_l8Kind_0 v)
  by_cases h3 : l2.length = 4
  · obtain ⟨x0, x1, x2, x3, rfl⟩ := len_4 h3
    have HNT := hid (cut_one hmap (by simp))
    have hx0 : x0 = ⟨#[112, 117, 116]⟩ := hw
    subst hx0
    have s1 : x1.size ≤ 1048576 := hsz x1 (by simp)
    have s2 : x2.size ≤ 1048576 := hsz x2 (by simp)
    have s3 : x3.size ≤ 1048576 := hsz x3 (by simp)
    obtain ⟨b, off, hA0, hb0, y0⟩ := txt_at hat 0 (by simp)
    obtain ⟨b1, off1, hA1, _, y1⟩ := txt_at hat 1 (by simp)
    obtain ⟨b2, off2, hA2, _, y2⟩ := txt_at hat 2 (by simp)
    obtain ⟨b3, off3, hA3, _, y3⟩ := txt_at hat 3 (by simp)
    subst hA0
    obtain ⟨rfl, rfl⟩ : b = b1 ∧ off = off1 := by simpa using hA1
    obtain ⟨rfl, rfl⟩ : b = b2 ∧ off = off2 := by simpa using hA2
    obtain ⟨rfl, rfl⟩ : b = b3 ∧ off = off3 := by simpa using hA3
    have hcap := hat.1
    simp only [List.length_cons, List.length_nil, Nat.zero_add, Nat.add_zero, Nat.reduceAdd, List.getElem_cons_zero, List.getElem_cons_succ] at hcap y0 y1 y2 y3 ⊢
    have hWD := hid hw
    clear hsz hmap hat hA1 hA2 hA3 h3 hll hw
    go_wp2_with fail
    refine (HK.out W2).mono ?_
    rintro e W9 ⟨rfl, rfl⟩
    have u2 : (W2.alloc (.cells #[.int .i64 0, .string x1, .int .i64 0, .int .i64 0, .int .i64 0, .string ⟨#[]⟩] 24)).cell? ⟨b, off + 2, none⟩ = some (.string x2) := cell_kept y2 (bel_alloc (Below.refl _ _) _)
    go_wp2_with fail
    obtain ⟨P, hP⟩ : ∃ P, P = W2.heap.size := ⟨_, rfl⟩
    obtain ⟨V0, hV0⟩ : ∃ V0, V0 = W2.alloc (.cells #[.int .i64 0, .string x1, .int .i64 0, .int .i64 0, .int .i64 0, .string ⟨#[]⟩] 24) := ⟨_, rfl⟩
    rw [← hP, ← hV0]
    have hNP : N < P := by rw [hP]; exact kN2.lt
    have hbP : b < P := by rw [hP]; exact hb0
    have kP0 : Blk V0 P 24 #[.int .i64 0, .string x1, .int .i64 0, .int .i64 0, .int .i64 0, .string ⟨#[]⟩] := by rw [hV0, hP]; exact Blk.new W2 _ _
    have kN0 : Blk V0 N 24 #[.int .i64 0, .string ⟨#[]⟩, .int .i64 0, .int .i64 0, .int .i64 0, .string ⟨#[]⟩] := by rw [hV0]; exact kN2.alloc _
    have c0 : Below w.heap.size w V0 := by rw [hV0]; exact bel_alloc c2 _
    have a0_2 : V0.cell? ⟨b, off + 2, none⟩ = some (.string x2) := by rw [hV0]; exact cell_kept y2 (bel_alloc (Below.refl _ _) _)
    have a0_3 : V0.cell? ⟨b, off + 3, none⟩ = some (.string x3) := by rw [hV0]; exact cell_kept y3 (bel_alloc (Below.refl _ _) _)
    clear hV0 hP kN2 c2 y0 y1 y2 y3 u2
    refine (c_l9Num x2 V0 s2).mono ?_
    rintro e V1 ⟨⟨z, bz, rfl, hzb, hzn⟩, hbx⟩
    have Hz := hid (show NumOf x2 z from fun k0 a0 a1 h0 => hzn k0 a0 a1 h0)
    clear hzn hzb
    have kP1 := kP0.on hbx
    have kN1 := kN0.on hbx
    have c1 := bel_trans c0 hbx
    have a1_3 := cell_kept a0_3 hbx
    clear hbx kP0 kN0 c0 a0_2 a0_3
    obtain ⟨p0, p1, p2, p3, p4, p5⟩ := kP1.cells6
    have gp4 := kP1.frozen 4
    have u3 : (V1.setCell ⟨P, 4, none⟩ (.int .i64 z)).cell? ⟨b, off + 3, none⟩ = some (.string x3) := (World.cell?_setCell_far _ _ _ _ (by simp; omega)).trans a1_3
    go_wp2_with fail
    obtain ⟨V2, hV2⟩ : ∃ V2, V2 = V1.setCell ⟨P, 4, none⟩ (.int .i64 z) := ⟨_, rfl⟩
    rw [← hV2]
    have kP2 : Blk V2 P 24 #[.int .i64 0, .string x1, .int .i64 0, .int .i64 0, .int .i64 z, .string ⟨#[]⟩] := by rw [hV2]; exact kP1.set_ 4 _
    have kN2 : Blk V2 N 24 #[.int .i64 0, .string ⟨#[]⟩, .int .i64 0, .int .i64 0, .int .i64 0, .string ⟨#[]⟩] := by rw [hV2]; exact kN1.set_farI _ _ (by omega)
    have c2 : Below w.heap.size w V2 := by rw [hV2]; exact bel_set c1 (by show w.heap.size ≤ P; omega) _
    have a2_3 : V2.cell? ⟨b, off + 3, none⟩ = some (.string x3) := by rw [hV2]; exact (World.cell?_setCell_far _ _ _ _ (by simp; omega)).trans a1_3
    clear hV2 kP1 kN1 c1 p0 p1 p2 p3 p4 p5 gp4 a1_3 u3
    refine (c_l3None x3 V2).mono ?_
    rintro e W9 ⟨rfl, rfl⟩
    go_wp2_with fail
    refine (c_sreadHex x3 V2 s3).mono ?_
    rintro e V3 ⟨⟨d, bd, rfl, hd⟩, hbx⟩
    have hdz := hd.1
    have Hd := hid hd
    clear hd
    have kP3 := kP2.on hbx
    have kN3 := kN2.on hbx
    have c3 := bel_trans c2 hbx
    clear hbx kP2 kN2 c2 a2_3
    obtain ⟨p0, p1, p2, p3, p4, p5⟩ := kP3.cells6
    have gp5 := kP3.frozen 5
    have HFm := hid (fun (v : World) => c_sFormatOp 0 x1 (0 : Int) (0 : Int) z d v s1 (by omega))
    obtain ⟨V, hV⟩ : ∃ V, V = opT 0 x1 (0 : Int) (0 : Int) z d := ⟨_, rfl⟩
    rw [← hV] at HFm
    have HV := hid hV
    clear hV
    go_wp2_with fail
    obtain ⟨V4, hV4⟩ : ∃ V4, V4 = V3.setCell ⟨P, 5, none⟩ (.string d) := ⟨_, rfl⟩
    rw [← hV4]
    have kP4 : Blk V4 P 24 #[.int .i64 0, .string x1, .int .i64 0, .int .i64 0, .int .i64 z, .string d] := by rw [hV4]; exact kP3.set_ 5 _
    have kN4 : Blk V4 N 24 #[.int .i64 0, .string ⟨#[]⟩, .int .i64 0, .int .i64 0, .int .i64 0, .string ⟨#[]⟩] := by rw [hV4]; exact kN3.set_farI _ _ (by omega)
    have c4 : Below w.heap.size w V4 := by rw [hV4]; exact bel_set c3 (by show w.heap.size ≤ P; omega) _
    clear hV4 kP3 kN3 c3 p0 p1 p2 p3 p4 p5 gp5 
    refine (HFm.out V4).mono ?_
    rintro e Va ⟨rfl, hba⟩
    have kPa := kP4.on hba
    have kNa := kN4.on hba
    have ca := bel_trans c4 hba
    obtain ⟨p0, p1, p2, p3, p4, p5⟩ := kPa.cells6
    clear kP4 kN4 c4 hba
    by_cases he : V = T
    · have hv1 : (V.toList == T.toList) = true := by rw [he]; simp
      obtain ⟨q0, q1, q2, q3, q4, q5⟩ := kNa.cells6
      have g0 := kNa.frozen 0
      have g1 := kNa.frozen 1
      have g2 := kNa.frozen 2
      have g3 := kNa.frozen 3
      have g4 := kNa.frozen 4
      have g5 := kNa.frozen 5
      have HRS := hid (show POp T (opV 0 x1 (0 : Int) (0 : Int) z d true) from pop_yes HNT.out (HV.out.symm.trans he))
      clear he
      have K9 := kNa.put6o (.int .i64 0) (.string x1) (.int .i64 0) (.int .i64 0) (.int .i64 z) (.string d)
      obtain ⟨j0, j1, j2, j3, j4, j5⟩ := K9.cells6
      have HB9 := hid (bel_put6 ca hNw (.int .i64 0) (.string x1) (.int .i64 0) (.int .i64 0) (.int .i64 z) (.string d))
      clear K9
      go_wp2
      (try simp only [Exit.inBlock, Exit.then])
      exact bodyPost_ret (v := .tuple #[.agg #[.int .i64 0, .string x1, .int .i64 0, .int .i64 0, .int .i64 z, .string d], .bool true]) (by simp [results, Tryz.results11, go_sem, j0, j1, j2, j3, j4, j5]) rfl ⟨HRS.out, HB9.out⟩
    · have hv1 : (V.toList == T.toList) = false := bytes_neI he
      obtain ⟨q0, q1, q2, q3, q4, q5⟩ := kNa.cells6
      have g0 := kNa.frozen 0
      have g1 := kNa.frozen 1
      have g2 := kNa.frozen 2
      have g3 := kNa.frozen 3
      have g4 := kNa.frozen 4
      have g5 := kNa.frozen 5
      have HRS := hid (pop_no (k := 0) (by omega) HP.out hWD.out (show OpRd 0 _ x1 (0 : Int) (0 : Int) z d from ⟨rfl, ⟨rfl, rfl⟩, Hz.out, Hd.out⟩) (fun h => he (HV.out.trans h)))
      clear he
      have K9 := kNa.put6o (.int .i64 0) (.string ⟨#[]⟩) (.int .i64 0) (.int .i64 0) (.int .i64 0) (.string ⟨#[]⟩)
      obtain ⟨j0, j1, j2, j3, j4, j5⟩ := K9.cells6
      have HB9 := hid (bel_put6 ca hNw (.int .i64 0) (.string ⟨#[]⟩) (.int .i64 0) (.int .i64 0) (.int .i64 0) (.string ⟨#[]⟩))
      clear K9
      go_wp2
      (try simp only [Exit.inBlock, Exit.then])
      exact bodyPost_ret (v := .tuple #[.agg #[.int .i64 0, .string ⟨#[]⟩, .int .i64 0, .int .i64 0, .int .i64 0, .string ⟨#[]⟩], .bool false]) (by simp [results, Tryz.results11, go_sem, j0, j1, j2, j3, j4, j5]) rfl ⟨HRS.out, HB9.out⟩
  · obtain ⟨b, off, hA0, hb0, y0⟩ := txt_at hat 0 (cut_pos hmap)
    subst hA0
    have hx0 : l2[0]'(cut_pos hmap) = ⟨#[112, 117, 116]⟩ := by rw [← gx_zero (cut_pos hmap)]; exact hw
    have h0l : (0 : Int) < (l2.length : Int) := by have := cut_pos hmap; omega
    rw [hx0] at y0
    have hcap := hat.1
    simp only [Nat.add_zero] at y0
    have h3i : (l2.length : Int) < 4 ∨ 4 < (l2.length : Int) := by omega
    have h3b : ((l2.length : Int) != 4) = true := ne_yes h3i
    have HPL := hid (pop_len (k := 0) (by omega) HP.out hw (by simpa using h3))
    clear h3 h3i hx0 hsz hmap hat hll hw
    go_wp2_with fail
    refine (HK.out W2).mono ?_
    rintro e W9 ⟨rfl, rfl⟩
    obtain ⟨q0, q1, q2, q3, q4, q5⟩ := kN2.cells6
    have g0 := kN2.frozen 0
    have g1 := kN2.frozen 1
    have g2 := kN2.frozen 2
    have g3 := kN2.frozen 3
    have g4 := kN2.frozen 4
    have g5 := kN2.frozen 5
    have HRS := hid (HPL.out)
    have K9 := kN2.put6o (.int .i64 0) (.string ⟨#[]⟩) (.int .i64 0) (.int .i64 0) (.int .i64 0) (.string ⟨#[]⟩)
    obtain ⟨j0, j1, j2, j3, j4, j5⟩ := K9.cells6
    have HB9 := hid (bel_put6 c2 hNw (.int .i64 0) (.string ⟨#[]⟩) (.int .i64 0) (.int .i64 0) (.int .i64 0) (.string ⟨#[]⟩))
    clear K9
    go_wp2
    (try simp only [Exit.inBlock, Exit.then])
    exact bodyPost_ret (v := .tuple #[.agg #[.int .i64 0, .string ⟨#[]⟩, .int .i64 0, .int .i64 0, .int .i64 0, .string ⟨#[]⟩], .bool false]) (by simp [results, Tryz.results11, go_sem, j0, j1, j2, j3, j4, j5]) rfl ⟨HRS.out, HB9.out⟩

set_option maxHeartbeats 8000000 in
set_option maxRecDepth 100000 in
theorem c_sParseOp_1 (T : ByteArray) (w : World) (ht : T.size ≤ 1048576) (l : List ByteArray) (hl : l.map (·.data.toList) = cutL 32 T.data.toList) (hw : gx l 0 = wdOf 1) :
    Calls Tryz.prog 11 #[.string T] w fun e w' => POp T e ∧ Below w.heap.size w w' := by
  go_enter Tryz.func11, Tryz.ntmps11
  go_wp2_with fail
  obtain ⟨N, hN⟩ : ∃ N, N = w.heap.size := ⟨_, rfl⟩
  have hNw : w.heap.size ≤ N := by omega
  obtain ⟨W1, hW1⟩ : ∃ W1, W1 = w.alloc (.cells #[.int .i64 0, .string ⟨#[]⟩, .int .i64 0, .int .i64 0, .int .i64 0, .string ⟨#[]⟩] 24) := ⟨_, rfl⟩
  rw [← hN, ← hW1]
  have k1 : Blk W1 N 24 #[.int .i64 0, .string ⟨#[]⟩, .int .i64 0, .int .i64 0, .int .i64 0, .string ⟨#[]⟩] := by rw [hW1, hN]; exact Blk.new w _ _
  have c1 : Below w.heap.size w W1 := by rw [hW1]; exact bel_alloc (Below.refl _ _) _
  clear hN hW1
  refine (c_l9Cut 32 T W1 ht).mono ?_
  rintro e W2 ⟨l2, AA, cap, hmap, hll, rfl, hown, hb2⟩
  obtain rfl : l2 = l := bytes_back (hmap.trans hl.symm)
  have kN2 : Blk W2 N 24 #[.int .i64 0, .string ⟨#[]⟩, .int .i64 0, .int .i64 0, .int .i64 0, .string ⟨#[]⟩] := k1.on hb2
  have c2 := bel_trans c1 hb2
  have hat := own_strs_at hown
  have HP := hid (opl_cutL hmap)
  have hsz : ∀ x ∈ l2, x.size ≤ 1048576 := fun x hx => Nat.le_trans (cut_sizes hmap x hx) ht
  clear k1 c1 hb2 hown hl
  have HK := hid (fun (v : World) => c_l8Kind_1 v)
  by_cases h3 : l2.length = 4
  · obtain ⟨x0, x1, x2, x3, rfl⟩ := len_4 h3
    have HNT := hid (cut_one hmap (by simp))
    have hx0 : x0 = ⟨#[97, 112, 112, 101, 110, 100]⟩ := hw
    subst hx0
    have s1 : x1.size ≤ 1048576 := hsz x1 (by simp)
    have s2 : x2.size ≤ 1048576 := hsz x2 (by simp)
    have s3 : x3.size ≤ 1048576 := hsz x3 (by simp)
    obtain ⟨b, off, hA0, hb0, y0⟩ := txt_at hat 0 (by simp)
    obtain ⟨b1, off1, hA1, _, y1⟩ := txt_at hat 1 (by simp)
    obtain ⟨b2, off2, hA2, _, y2⟩ := txt_at hat 2 (by simp)
    obtain ⟨b3, off3, hA3, _, y3⟩ := txt_at hat 3 (by simp)
    subst hA0
    obtain ⟨rfl, rfl⟩ : b = b1 ∧ off = off1 := by simpa using hA1
    obtain ⟨rfl, rfl⟩ : b = b2 ∧ off = off2 := by simpa using hA2
    obtain ⟨rfl, rfl⟩ : b = b3 ∧ off = off3 := by simpa using hA3
    have hcap := hat.1
    simp only [List.length_cons, List.length_nil, Nat.zero_add, Nat.add_zero, Nat.reduceAdd, List.getElem_cons_zero, List.getElem_cons_succ] at hcap y0 y1 y2 y3 ⊢
    have hWD := hid hw
    clear hsz hmap hat hA1 hA2 hA3 h3 hll hw
    go_wp2_with fail
    refine (HK.out W2).mono ?_
    rintro e W9 ⟨rfl, rfl⟩
    have u2 : (W2.alloc (.cells #[.int .i64 1, .string x1, .int .i64 0, .int .i64 0, .int .i64 0, .string ⟨#[]⟩] 24)).cell? ⟨b, off + 2, none⟩ = some (.string x2) := cell_kept y2 (bel_alloc (Below.refl _ _) _)
    go_wp2_with fail
    obtain ⟨P, hP⟩ : ∃ P, P = W2.heap.size := ⟨_, rfl⟩
    obtain ⟨V0, hV0⟩ : ∃ V0, V0 = W2.alloc (.cells #[.int .i64 1, .string x1, .int .i64 0, .int .i64 0, .int .i64 0, .string ⟨#[]⟩] 24) := ⟨_, rfl⟩
    rw [← hP, ← hV0]
    have hNP : N < P := by rw [hP]; exact kN2.lt
    have hbP : b < P := by rw [hP]; exact hb0
    have kP0 : Blk V0 P 24 #[.int .i64 1, .string x1, .int .i64 0, .int .i64 0, .int .i64 0, .string ⟨#[]⟩] := by rw [hV0, hP]; exact Blk.new W2 _ _
    have kN0 : Blk V0 N 24 #[.int .i64 0, .string ⟨#[]⟩, .int .i64 0, .int .i64 0, .int .i64 0, .string ⟨#[]⟩] := by rw [hV0]; exact kN2.alloc _
    have c0 : Below w.heap.size w V0 := by rw [hV0]; exact bel_alloc c2 _
    have a0_2 : V0.cell? ⟨b, off + 2, none⟩ = some (.string x2) := by rw [hV0]; exact cell_kept y2 (bel_alloc (Below.refl _ _) _)
    have a0_3 : V0.cell? ⟨b, off + 3, none⟩ = some (.string x3) := by rw [hV0]; exact cell_kept y3 (bel_alloc (Below.refl _ _) _)
    clear hV0 hP kN2 c2 y0 y1 y2 y3 u2
    refine (c_l9Num x2 V0 s2).mono ?_
    rintro e V1 ⟨⟨z, bz, rfl, hzb, hzn⟩, hbx⟩
    have Hz := hid (show NumOf x2 z from fun k0 a0 a1 h0 => hzn k0 a0 a1 h0)
    clear hzn hzb
    have kP1 := kP0.on hbx
    have kN1 := kN0.on hbx
    have c1 := bel_trans c0 hbx
    have a1_3 := cell_kept a0_3 hbx
    clear hbx kP0 kN0 c0 a0_2 a0_3
    obtain ⟨p0, p1, p2, p3, p4, p5⟩ := kP1.cells6
    have gp4 := kP1.frozen 4
    have u3 : (V1.setCell ⟨P, 4, none⟩ (.int .i64 z)).cell? ⟨b, off + 3, none⟩ = some (.string x3) := (World.cell?_setCell_far _ _ _ _ (by simp; omega)).trans a1_3
    go_wp2_with fail
    obtain ⟨V2, hV2⟩ : ∃ V2, V2 = V1.setCell ⟨P, 4, none⟩ (.int .i64 z) := ⟨_, rfl⟩
    rw [← hV2]
    have kP2 : Blk V2 P 24 #[.int .i64 1, .string x1, .int .i64 0, .int .i64 0, .int .i64 z, .string ⟨#[]⟩] := by rw [hV2]; exact kP1.set_ 4 _
    have kN2 : Blk V2 N 24 #[.int .i64 0, .string ⟨#[]⟩, .int .i64 0, .int .i64 0, .int .i64 0, .string ⟨#[]⟩] := by rw [hV2]; exact kN1.set_farI _ _ (by omega)
    have c2 : Below w.heap.size w V2 := by rw [hV2]; exact bel_set c1 (by show w.heap.size ≤ P; omega) _
    have a2_3 : V2.cell? ⟨b, off + 3, none⟩ = some (.string x3) := by rw [hV2]; exact (World.cell?_setCell_far _ _ _ _ (by simp; omega)).trans a1_3
    clear hV2 kP1 kN1 c1 p0 p1 p2 p3 p4 p5 gp4 a1_3 u3
    refine (c_l3None x3 V2).mono ?_
    rintro e W9 ⟨rfl, rfl⟩
    go_wp2_with fail
    refine (c_sreadHex x3 V2 s3).mono ?_
    rintro e V3 ⟨⟨d, bd, rfl, hd⟩, hbx⟩
    have hdz := hd.1
    have Hd := hid hd
    clear hd
    have kP3 := kP2.on hbx
    have kN3 := kN2.on hbx
    have c3 := bel_trans c2 hbx
    clear hbx kP2 kN2 c2 a2_3
    obtain ⟨p0, p1, p2, p3, p4, p5⟩ := kP3.cells6
    have gp5 := kP3.frozen 5
    have HFm := hid (fun (v : World) => c_sFormatOp 1 x1 (0 : Int) (0 : Int) z d v s1 (by omega))
    obtain ⟨V, hV⟩ : ∃ V, V = opT 1 x1 (0 : Int) (0 : Int) z d := ⟨_, rfl⟩
    rw [← hV] at HFm
    have HV := hid hV
    clear hV
    go_wp2_with fail
    obtain ⟨V4, hV4⟩ : ∃ V4, V4 = V3.setCell ⟨P, 5, none⟩ (.string d) := ⟨_, rfl⟩
    rw [← hV4]
    have kP4 : Blk V4 P 24 #[.int .i64 1, .string x1, .int .i64 0, .int .i64 0, .int .i64 z, .string d] := by rw [hV4]; exact kP3.set_ 5 _
    have kN4 : Blk V4 N 24 #[.int .i64 0, .string ⟨#[]⟩, .int .i64 0, .int .i64 0, .int .i64 0, .string ⟨#[]⟩] := by rw [hV4]; exact kN3.set_farI _ _ (by omega)
    have c4 : Below w.heap.size w V4 := by rw [hV4]; exact bel_set c3 (by show w.heap.size ≤ P; omega) _
    clear hV4 kP3 kN3 c3 p0 p1 p2 p3 p4 p5 gp5 
    refine (HFm.out V4).mono ?_
    rintro e Va ⟨rfl, hba⟩
    have kPa := kP4.on hba
    have kNa := kN4.on hba
    have ca := bel_trans c4 hba
    obtain ⟨p0, p1, p2, p3, p4, p5⟩ := kPa.cells6
    clear kP4 kN4 c4 hba
    by_cases he : V = T
    · have hv1 : (V.toList == T.toList) = true := by rw [he]; simp
      obtain ⟨q0, q1, q2, q3, q4, q5⟩ := kNa.cells6
      have g0 := kNa.frozen 0
      have g1 := kNa.frozen 1
      have g2 := kNa.frozen 2
      have g3 := kNa.frozen 3
      have g4 := kNa.frozen 4
      have g5 := kNa.frozen 5
      have HRS := hid (show POp T (opV 1 x1 (0 : Int) (0 : Int) z d true) from pop_yes HNT.out (HV.out.symm.trans he))
      clear he
      have K9 := kNa.put6o (.int .i64 1) (.string x1) (.int .i64 0) (.int .i64 0) (.int .i64 z) (.string d)
      obtain ⟨j0, j1, j2, j3, j4, j5⟩ := K9.cells6
      have HB9 := hid (bel_put6 ca hNw (.int .i64 1) (.string x1) (.int .i64 0) (.int .i64 0) (.int .i64 z) (.string d))
      clear K9
      go_wp2
      (try simp only [Exit.inBlock, Exit.then])
      exact bodyPost_ret (v := .tuple #[.agg #[.int .i64 1, .string x1, .int .i64 0, .int .i64 0, .int .i64 z, .string d], .bool true]) (by simp [results, Tryz.results11, go_sem, j0, j1, j2, j3, j4, j5]) rfl ⟨HRS.out, HB9.out⟩
    · have hv1 : (V.toList == T.toList) = false := bytes_neI he
      obtain ⟨q0, q1, q2, q3, q4, q5⟩ := kNa.cells6
      have g0 := kNa.frozen 0
      have g1 := kNa.frozen 1
      have g2 := kNa.frozen 2
      have g3 := kNa.frozen 3
      have g4 := kNa.frozen 4
      have g5 := kNa.frozen 5
      have HRS := hid (pop_no (k := 1) (by omega) HP.out hWD.out (show OpRd 1 _ x1 (0 : Int) (0 : Int) z d from ⟨rfl, ⟨rfl, rfl⟩, Hz.out, Hd.out⟩) (fun h => he (HV.out.trans h)))
      clear he
      have K9 := kNa.put6o (.int .i64 0) (.string ⟨#[]⟩) (.int .i64 0) (.int .i64 0) (.int .i64 0) (.string ⟨#[]⟩)
      obtain ⟨j0, j1, j2, j3, j4, j5⟩ := K9.cells6
      have HB9 := hid (bel_put6 ca hNw (.int .i64 0) (.string ⟨#[]⟩) (.int .i64 0) (.int .i64 0) (.int .i64 0) (.string ⟨#[]⟩))
      clear K9
      go_wp2
      (try simp only [Exit.inBlock, Exit.then])
      exact bodyPost_ret (v := .tuple #[.agg #[.int .i64 0, .string ⟨#[]⟩, .int .i64 0, .int .i64 0, .int .i64 0, .string ⟨#[]⟩], .bool false]) (by simp [results, Tryz.results11, go_sem, j0, j1, j2, j3, j4, j5]) rfl ⟨HRS.out, HB9.out⟩
  · obtain ⟨b, off, hA0, hb0, y0⟩ := txt_at hat 0 (cut_pos hmap)
    subst hA0
    have hx0 : l2[0]'(cut_pos hmap) = ⟨#[97, 112, 112, 101, 110, 100]⟩ := by rw [← gx_zero (cut_pos hmap)]; exact hw
    have h0l : (0 : Int) < (l2.length : Int) := by have := cut_pos hmap; omega
    rw [hx0] at y0
    have hcap := hat.1
    simp only [Nat.add_zero] at y0
    have h3i : (l2.length : Int) < 4 ∨ 4 < (l2.length : Int) := by omega
    have h3b : ((l2.length : Int) != 4) = true := ne_yes h3i
    have HPL := hid (pop_len (k := 1) (by omega) HP.out hw (by simpa using h3))
    clear h3 h3i hx0 hsz hmap hat hll hw
    go_wp2_with fail
    refine (HK.out W2).mono ?_
    rintro e W9 ⟨rfl, rfl⟩
    obtain ⟨q0, q1, q2, q3, q4, q5⟩ := kN2.cells6
    have g0 := kN2.frozen 0
    have g1 := kN2.frozen 1
    have g2 := kN2.frozen 2
    have g3 := kN2.frozen 3
    have g4 := kN2.frozen 4
    have g5 := kN2.frozen 5
    have HRS := hid (HPL.out)
    have K9 := kN2.put6o (.int .i64 0) (.string ⟨#[]⟩) (.int .i64 0) (.int .i64 0) (.int .i64 0) (.string ⟨#[]⟩)
    obtain ⟨j0, j1, j2, j3, j4, j5⟩ := K9.cells6
    have HB9 := hid (bel_put6 c2 hNw (.int .i64 0) (.string ⟨#[]⟩) (.int .i64 0) (.int .i64 0) (.int .i64 0) (.string ⟨#[]⟩))
    clear K9
    go_wp2
    (try simp only [Exit.inBlock, Exit.then])
    exact bodyPost_ret (v := .tuple #[.agg #[.int .i64 0, .string ⟨#[]⟩, .int .i64 0, .int .i64 0, .int .i64 0, .string ⟨#[]⟩], .bool false]) (by simp [results, Tryz.results11, go_sem, j0, j1, j2, j3, j4, j5]) rfl ⟨HRS.out, HB9.out⟩

set_option maxHeartbeats 8000000 in
set_option maxRecDepth 100000 in
theorem c_sParseOp_2 (T : ByteArray) (w : World) (ht : T.size ≤ 1048576) (l : List ByteArray) (hl : l.map (·.data.toList) = cutL 32 T.data.toList) (hw : gx l 0 = wdOf 2) :
    Calls Tryz.prog 11 #[.string T] w fun e w' => POp T e ∧ Below w.heap.size w w' := by
  go_enter Tryz.func11, Tryz.ntmps11
  go_wp2_with fail
  obtain ⟨N, hN⟩ : ∃ N, N = w.heap.size := ⟨_, rfl⟩
  have hNw : w.heap.size ≤ N := by omega
  obtain ⟨W1, hW1⟩ : ∃ W1, W1 = w.alloc (.cells #[.int .i64 0, .string ⟨#[]⟩, .int .i64 0, .int .i64 0, .int .i64 0, .string ⟨#[]⟩] 24) := ⟨_, rfl⟩
  rw [← hN, ← hW1]
  have k1 : Blk W1 N 24 #[.int .i64 0, .string ⟨#[]⟩, .int .i64 0, .int .i64 0, .int .i64 0, .string ⟨#[]⟩] := by rw [hW1, hN]; exact Blk.new w _ _
  have c1 : Below w.heap.size w W1 := by rw [hW1]; exact bel_alloc (Below.refl _ _) _
  clear hN hW1
  refine (c_l9Cut 32 T W1 ht).mono ?_
  rintro e W2 ⟨l2, AA, cap, hmap, hll, rfl, hown, hb2⟩
  obtain rfl : l2 = l := bytes_back (hmap.trans hl.symm)
  have kN2 : Blk W2 N 24 #[.int .i64 0, .string ⟨#[]⟩, .int .i64 0, .int .i64 0, .int .i64 0, .string ⟨#[]⟩] := k1.on hb2
  have c2 := bel_trans c1 hb2
  have hat := own_strs_at hown
  have HP := hid (opl_cutL hmap)
  have hsz : ∀ x ∈ l2, x.size ≤ 1048576 := fun x hx => Nat.le_trans (cut_sizes hmap x hx) ht
  clear k1 c1 hb2 hown hl
  have HK := hid (fun (v : World) => c_l8Kind_2 v)
  by_cases h3 : l2.length = 6
  · obtain ⟨x0, x1, x2, x3, x4, x5, rfl⟩ := len_6 h3
    have HNT := hid (cut_one hmap (by simp))
    have hx0 : x0 = ⟨#[114, 101, 112, 108, 97, 99, 101]⟩ := hw
    subst hx0
    have s1 : x1.size ≤ 1048576 := hsz x1 (by simp)
    have s2 : x2.size ≤ 1048576 := hsz x2 (by simp)
    have s3 : x3.size ≤ 1048576 := hsz x3 (by simp)
    have s4 : x4.size ≤ 1048576 := hsz x4 (by simp)
    have s5 : x5.size ≤ 1048576 := hsz x5 (by simp)
    obtain ⟨b, off, hA0, hb0, y0⟩ := txt_at hat 0 (by simp)
    obtain ⟨b1, off1, hA1, _, y1⟩ := txt_at hat 1 (by simp)
    obtain ⟨b2, off2, hA2, _, y2⟩ := txt_at hat 2 (by simp)
    obtain ⟨b3, off3, hA3, _, y3⟩ := txt_at hat 3 (by simp)
    obtain ⟨b4, off4, hA4, _, y4⟩ := txt_at hat 4 (by simp)
    obtain ⟨b5, off5, hA5, _, y5⟩ := txt_at hat 5 (by simp)
    subst hA0
    obtain ⟨rfl, rfl⟩ : b = b1 ∧ off = off1 := by simpa using hA1
    obtain ⟨rfl, rfl⟩ : b = b2 ∧ off = off2 := by simpa using hA2
    obtain ⟨rfl, rfl⟩ : b = b3 ∧ off = off3 := by simpa using hA3
    obtain ⟨rfl, rfl⟩ : b = b4 ∧ off = off4 := by simpa using hA4
    obtain ⟨rfl, rfl⟩ : b = b5 ∧ off = off5 := by simpa using hA5
    have hcap := hat.1
    simp only [List.length_cons, List.length_nil, Nat.zero_add, Nat.add_zero, Nat.reduceAdd, List.getElem_cons_zero, List.getElem_cons_succ] at hcap y0 y1 y2 y3 y4 y5 ⊢
    have hWD := hid hw
    clear hsz hmap hat hA1 hA2 hA3 hA4 hA5 h3 hll hw
    go_wp2_with fail
    refine (HK.out W2).mono ?_
    rintro e W9 ⟨rfl, rfl⟩
    have u2 : (W2.alloc (.cells #[.int .i64 2, .string x1, .int .i64 0, .int .i64 0, .int .i64 0, .string ⟨#[]⟩] 24)).cell? ⟨b, off + 2, none⟩ = some (.string x2) := cell_kept y2 (bel_alloc (Below.refl _ _) _)
    go_wp2_with fail
    obtain ⟨P, hP⟩ : ∃ P, P = W2.heap.size := ⟨_, rfl⟩
    obtain ⟨V0, hV0⟩ : ∃ V0, V0 = W2.alloc (.cells #[.int .i64 2, .string x1, .int .i64 0, .int .i64 0, .int .i64 0, .string ⟨#[]⟩] 24) := ⟨_, rfl⟩
    rw [← hP, ← hV0]
    have hNP : N < P := by rw [hP]; exact kN2.lt
    have hbP : b < P := by rw [hP]; exact hb0
    have kP0 : Blk V0 P 24 #[.int .i64 2, .string x1, .int .i64 0, .int .i64 0, .int .i64 0, .string ⟨#[]⟩] := by rw [hV0, hP]; exact Blk.new W2 _ _
    have kN0 : Blk V0 N 24 #[.int .i64 0, .string ⟨#[]⟩, .int .i64 0, .int .i64 0, .int .i64 0, .string ⟨#[]⟩] := by rw [hV0]; exact kN2.alloc _
    have c0 : Below w.heap.size w V0 := by rw [hV0]; exact bel_alloc c2 _
    have a0_2 : V0.cell? ⟨b, off + 2, none⟩ = some (.string x2) := by rw [hV0]; exact cell_kept y2 (bel_alloc (Below.refl _ _) _)
    have a0_3 : V0.cell? ⟨b, off + 3, none⟩ = some (.string x3) := by rw [hV0]; exact cell_kept y3 (bel_alloc (Below.refl _ _) _)
    have a0_4 : V0.cell? ⟨b, off + 4, none⟩ = some (.string x4) := by rw [hV0]; exact cell_kept y4 (bel_alloc (Below.refl _ _) _)
    have a0_5 : V0.cell? ⟨b, off + 5, none⟩ = some (.string x5) := by rw [hV0]; exact cell_kept y5 (bel_alloc (Below.refl _ _) _)
    clear hV0 hP kN2 c2 y0 y1 y2 y3 y4 y5 u2
    refine (c_l9Num x2 V0 s2).mono ?_
    rintro e V1 ⟨⟨f, bf, rfl, hfb, hfn⟩, hbx⟩
    have Hf := hid (show NumOf x2 f from fun k0 a0 a1 h0 => hfn k0 a0 a1 h0)
    clear hfn hfb
    have kP1 := kP0.on hbx
    have kN1 := kN0.on hbx
    have c1 := bel_trans c0 hbx
    have a1_3 := cell_kept a0_3 hbx
    have a1_4 := cell_kept a0_4 hbx
    have a1_5 := cell_kept a0_5 hbx
    clear hbx kP0 kN0 c0 a0_2 a0_3 a0_4 a0_5
    obtain ⟨p0, p1, p2, p3, p4, p5⟩ := kP1.cells6
    have gp2 := kP1.frozen 2
    have u3 : (V1.setCell ⟨P, 2, none⟩ (.int .i64 f)).cell? ⟨b, off + 3, none⟩ = some (.string x3) := (World.cell?_setCell_far _ _ _ _ (by simp; omega)).trans a1_3
    go_wp2_with fail
    obtain ⟨V2, hV2⟩ : ∃ V2, V2 = V1.setCell ⟨P, 2, none⟩ (.int .i64 f) := ⟨_, rfl⟩
    rw [← hV2]
    have kP2 : Blk V2 P 24 #[.int .i64 2, .string x1, .int .i64 f, .int .i64 0, .int .i64 0, .string ⟨#[]⟩] := by rw [hV2]; exact kP1.set_ 2 _
    have kN2 : Blk V2 N 24 #[.int .i64 0, .string ⟨#[]⟩, .int .i64 0, .int .i64 0, .int .i64 0, .string ⟨#[]⟩] := by rw [hV2]; exact kN1.set_farI _ _ (by omega)
    have c2 : Below w.heap.size w V2 := by rw [hV2]; exact bel_set c1 (by show w.heap.size ≤ P; omega) _
    have a2_3 : V2.cell? ⟨b, off + 3, none⟩ = some (.string x3) := by rw [hV2]; exact (World.cell?_setCell_far _ _ _ _ (by simp; omega)).trans a1_3
    have a2_4 : V2.cell? ⟨b, off + 4, none⟩ = some (.string x4) := by rw [hV2]; exact (World.cell?_setCell_far _ _ _ _ (by simp; omega)).trans a1_4
    have a2_5 : V2.cell? ⟨b, off + 5, none⟩ = some (.string x5) := by rw [hV2]; exact (World.cell?_setCell_far _ _ _ _ (by simp; omega)).trans a1_5
    clear hV2 kP1 kN1 c1 p0 p1 p2 p3 p4 p5 gp2 a1_3 a1_4 a1_5 u3
    refine (c_l9Num x3 V2 s3).mono ?_
    rintro e V3 ⟨⟨t, bt, rfl, htb, htn⟩, hbx⟩
    have Ht := hid (show NumOf x3 t from fun k0 a0 a1 h0 => htn k0 a0 a1 h0)
    clear htn htb
    have kP3 := kP2.on hbx
    have kN3 := kN2.on hbx
    have c3 := bel_trans c2 hbx
    have a3_4 := cell_kept a2_4 hbx
    have a3_5 := cell_kept a2_5 hbx
    clear hbx kP2 kN2 c2 a2_3 a2_4 a2_5
    obtain ⟨p0, p1, p2, p3, p4, p5⟩ := kP3.cells6
    have gp3 := kP3.frozen 3
    have u4 : (V3.setCell ⟨P, 3, none⟩ (.int .i64 t)).cell? ⟨b, off + 4, none⟩ = some (.string x4) := (World.cell?_setCell_far _ _ _ _ (by simp; omega)).trans a3_4
    go_wp2_with fail
    obtain ⟨V4, hV4⟩ : ∃ V4, V4 = V3.setCell ⟨P, 3, none⟩ (.int .i64 t) := ⟨_, rfl⟩
    rw [← hV4]
    have kP4 : Blk V4 P 24 #[.int .i64 2, .string x1, .int .i64 f, .int .i64 t, .int .i64 0, .string ⟨#[]⟩] := by rw [hV4]; exact kP3.set_ 3 _
    have kN4 : Blk V4 N 24 #[.int .i64 0, .string ⟨#[]⟩, .int .i64 0, .int .i64 0, .int .i64 0, .string ⟨#[]⟩] := by rw [hV4]; exact kN3.set_farI _ _ (by omega)
    have c4 : Below w.heap.size w V4 := by rw [hV4]; exact bel_set c3 (by show w.heap.size ≤ P; omega) _
    have a4_4 : V4.cell? ⟨b, off + 4, none⟩ = some (.string x4) := by rw [hV4]; exact (World.cell?_setCell_far _ _ _ _ (by simp; omega)).trans a3_4
    have a4_5 : V4.cell? ⟨b, off + 5, none⟩ = some (.string x5) := by rw [hV4]; exact (World.cell?_setCell_far _ _ _ _ (by simp; omega)).trans a3_5
    clear hV4 kP3 kN3 c3 p0 p1 p2 p3 p4 p5 gp3 a3_4 a3_5 u4
    refine (c_l9Num x4 V4 s4).mono ?_
    rintro e V5 ⟨⟨z, bz, rfl, hzb, hzn⟩, hbx⟩
    have Hz := hid (show NumOf x4 z from fun k0 a0 a1 h0 => hzn k0 a0 a1 h0)
    clear hzn hzb
    have kP5 := kP4.on hbx
    have kN5 := kN4.on hbx
    have c5 := bel_trans c4 hbx
    have a5_5 := cell_kept a4_5 hbx
    clear hbx kP4 kN4 c4 a4_4 a4_5
    obtain ⟨p0, p1, p2, p3, p4, p5⟩ := kP5.cells6
    have gp4 := kP5.frozen 4
    have u5 : (V5.setCell ⟨P, 4, none⟩ (.int .i64 z)).cell? ⟨b, off + 5, none⟩ = some (.string x5) := (World.cell?_setCell_far _ _ _ _ (by simp; omega)).trans a5_5
    go_wp2_with fail
    obtain ⟨V6, hV6⟩ : ∃ V6, V6 = V5.setCell ⟨P, 4, none⟩ (.int .i64 z) := ⟨_, rfl⟩
    rw [← hV6]
    have kP6 : Blk V6 P 24 #[.int .i64 2, .string x1, .int .i64 f, .int .i64 t, .int .i64 z, .string ⟨#[]⟩] := by rw [hV6]; exact kP5.set_ 4 _
    have kN6 : Blk V6 N 24 #[.int .i64 0, .string ⟨#[]⟩, .int .i64 0, .int .i64 0, .int .i64 0, .string ⟨#[]⟩] := by rw [hV6]; exact kN5.set_farI _ _ (by omega)
    have c6 : Below w.heap.size w V6 := by rw [hV6]; exact bel_set c5 (by show w.heap.size ≤ P; omega) _
    have a6_5 : V6.cell? ⟨b, off + 5, none⟩ = some (.string x5) := by rw [hV6]; exact (World.cell?_setCell_far _ _ _ _ (by simp; omega)).trans a5_5
    clear hV6 kP5 kN5 c5 p0 p1 p2 p3 p4 p5 gp4 a5_5 u5
    refine (c_l3None x5 V6).mono ?_
    rintro e W9 ⟨rfl, rfl⟩
    go_wp2_with fail
    refine (c_sreadHex x5 V6 s5).mono ?_
    rintro e V7 ⟨⟨d, bd, rfl, hd⟩, hbx⟩
    have hdz := hd.1
    have Hd := hid hd
    clear hd
    have kP7 := kP6.on hbx
    have kN7 := kN6.on hbx
    have c7 := bel_trans c6 hbx
    clear hbx kP6 kN6 c6 a6_5
    obtain ⟨p0, p1, p2, p3, p4, p5⟩ := kP7.cells6
    have gp5 := kP7.frozen 5
    have HFm := hid (fun (v : World) => c_sFormatOp 2 x1 f t z d v s1 (by omega))
    obtain ⟨V, hV⟩ : ∃ V, V = opT 2 x1 f t z d := ⟨_, rfl⟩
    rw [← hV] at HFm
    have HV := hid hV
    clear hV
    go_wp2_with fail
    obtain ⟨V8, hV8⟩ : ∃ V8, V8 = V7.setCell ⟨P, 5, none⟩ (.string d) := ⟨_, rfl⟩
    rw [← hV8]
    have kP8 : Blk V8 P 24 #[.int .i64 2, .string x1, .int .i64 f, .int .i64 t, .int .i64 z, .string d] := by rw [hV8]; exact kP7.set_ 5 _
    have kN8 : Blk V8 N 24 #[.int .i64 0, .string ⟨#[]⟩, .int .i64 0, .int .i64 0, .int .i64 0, .string ⟨#[]⟩] := by rw [hV8]; exact kN7.set_farI _ _ (by omega)
    have c8 : Below w.heap.size w V8 := by rw [hV8]; exact bel_set c7 (by show w.heap.size ≤ P; omega) _
    clear hV8 kP7 kN7 c7 p0 p1 p2 p3 p4 p5 gp5 
    refine (HFm.out V8).mono ?_
    rintro e Va ⟨rfl, hba⟩
    have kPa := kP8.on hba
    have kNa := kN8.on hba
    have ca := bel_trans c8 hba
    obtain ⟨p0, p1, p2, p3, p4, p5⟩ := kPa.cells6
    clear kP8 kN8 c8 hba
    by_cases he : V = T
    · have hv1 : (V.toList == T.toList) = true := by rw [he]; simp
      obtain ⟨q0, q1, q2, q3, q4, q5⟩ := kNa.cells6
      have g0 := kNa.frozen 0
      have g1 := kNa.frozen 1
      have g2 := kNa.frozen 2
      have g3 := kNa.frozen 3
      have g4 := kNa.frozen 4
      have g5 := kNa.frozen 5
      have HRS := hid (show POp T (opV 2 x1 f t z d true) from pop_yes HNT.out (HV.out.symm.trans he))
      clear he
      have K9 := kNa.put6o (.int .i64 2) (.string x1) (.int .i64 f) (.int .i64 t) (.int .i64 z) (.string d)
      obtain ⟨j0, j1, j2, j3, j4, j5⟩ := K9.cells6
      have HB9 := hid (bel_put6 ca hNw (.int .i64 2) (.string x1) (.int .i64 f) (.int .i64 t) (.int .i64 z) (.string d))
      clear K9
      go_wp2
      (try simp only [Exit.inBlock, Exit.then])
      exact bodyPost_ret (v := .tuple #[.agg #[.int .i64 2, .string x1, .int .i64 f, .int .i64 t, .int .i64 z, .string d], .bool true]) (by simp [results, Tryz.results11, go_sem, j0, j1, j2, j3, j4, j5]) rfl ⟨HRS.out, HB9.out⟩
    · have hv1 : (V.toList == T.toList) = false := bytes_neI he
      obtain ⟨q0, q1, q2, q3, q4, q5⟩ := kNa.cells6
      have g0 := kNa.frozen 0
      have g1 := kNa.frozen 1
      have g2 := kNa.frozen 2
      have g3 := kNa.frozen 3
      have g4 := kNa.frozen 4
      have g5 := kNa.frozen 5
      have HRS := hid (pop_no (k := 2) (by omega) HP.out hWD.out (show OpRd 2 _ x1 f t z d from ⟨rfl, ⟨Hf.out, Ht.out⟩, Hz.out, Hd.out⟩) (fun h => he (HV.out.trans h)))
      clear he
      have K9 := kNa.put6o (.int .i64 0) (.string ⟨#[]⟩) (.int .i64 0) (.int .i64 0) (.int .i64 0) (.string ⟨#[]⟩)
      obtain ⟨j0, j1, j2, j3, j4, j5⟩ := K9.cells6
      have HB9 := hid (bel_put6 ca hNw (.int .i64 0) (.string ⟨#[]⟩) (.int .i64 0) (.int .i64 0) (.int .i64 0) (.string ⟨#[]⟩))
      clear K9
      go_wp2
      (try simp only [Exit.inBlock, Exit.then])
      exact bodyPost_ret (v := .tuple #[.agg #[.int .i64 0, .string ⟨#[]⟩, .int .i64 0, .int .i64 0, .int .i64 0, .string ⟨#[]⟩], .bool false]) (by simp [results, Tryz.results11, go_sem, j0, j1, j2, j3, j4, j5]) rfl ⟨HRS.out, HB9.out⟩
  · obtain ⟨b, off, hA0, hb0, y0⟩ := txt_at hat 0 (cut_pos hmap)
    subst hA0
    have hx0 : l2[0]'(cut_pos hmap) = ⟨#[114, 101, 112, 108, 97, 99, 101]⟩ := by rw [← gx_zero (cut_pos hmap)]; exact hw
    have h0l : (0 : Int) < (l2.length : Int) := by have := cut_pos hmap; omega
    rw [hx0] at y0
    have hcap := hat.1
    simp only [Nat.add_zero] at y0
    have h3i : (l2.length : Int) < 6 ∨ 6 < (l2.length : Int) := by omega
    have h3b : ((l2.length : Int) != 6) = true := ne_yes h3i
    have HPL := hid (pop_len (k := 2) (by omega) HP.out hw (by simpa using h3))
    clear h3 h3i hx0 hsz hmap hat hll hw
    go_wp2_with fail
    refine (HK.out W2).mono ?_
    rintro e W9 ⟨rfl, rfl⟩
    obtain ⟨q0, q1, q2, q3, q4, q5⟩ := kN2.cells6
    have g0 := kN2.frozen 0
    have g1 := kN2.frozen 1
    have g2 := kN2.frozen 2
    have g3 := kN2.frozen 3
    have g4 := kN2.frozen 4
    have g5 := kN2.frozen 5
    have HRS := hid (HPL.out)
    have K9 := kN2.put6o (.int .i64 0) (.string ⟨#[]⟩) (.int .i64 0) (.int .i64 0) (.int .i64 0) (.string ⟨#[]⟩)
    obtain ⟨j0, j1, j2, j3, j4, j5⟩ := K9.cells6
    have HB9 := hid (bel_put6 c2 hNw (.int .i64 0) (.string ⟨#[]⟩) (.int .i64 0) (.int .i64 0) (.int .i64 0) (.string ⟨#[]⟩))
    clear K9
    go_wp2
    (try simp only [Exit.inBlock, Exit.then])
    exact bodyPost_ret (v := .tuple #[.agg #[.int .i64 0, .string ⟨#[]⟩, .int .i64 0, .int .i64 0, .int .i64 0, .string ⟨#[]⟩], .bool false]) (by simp [results, Tryz.results11, go_sem, j0, j1, j2, j3, j4, j5]) rfl ⟨HRS.out, HB9.out⟩

set_option maxHeartbeats 8000000 in
set_option maxRecDepth 100000 in
theorem c_sParseOp_3 (T : ByteArray) (w : World) (ht : T.size ≤ 1048576) (l : List ByteArray) (hl : l.map (·.data.toList) = cutL 32 T.data.toList) (hw : gx l 0 = wdOf 3) :
    Calls Tryz.prog 11 #[.string T] w fun e w' => POp T e ∧ Below w.heap.size w w' := by
  go_enter Tryz.func11, Tryz.ntmps11
  go_wp2_with fail
  obtain ⟨N, hN⟩ : ∃ N, N = w.heap.size := ⟨_, rfl⟩
  have hNw : w.heap.size ≤ N := by omega
  obtain ⟨W1, hW1⟩ : ∃ W1, W1 = w.alloc (.cells #[.int .i64 0, .string ⟨#[]⟩, .int .i64 0, .int .i64 0, .int .i64 0, .string ⟨#[]⟩] 24) := ⟨_, rfl⟩
  rw [← hN, ← hW1]
  have k1 : Blk W1 N 24 #[.int .i64 0, .string ⟨#[]⟩, .int .i64 0, .int .i64 0, .int .i64 0, .string ⟨#[]⟩] := by rw [hW1, hN]; exact Blk.new w _ _
  have c1 : Below w.heap.size w W1 := by rw [hW1]; exact bel_alloc (Below.refl _ _) _
  clear hN hW1
  refine (c_l9Cut 32 T W1 ht).mono ?_
  rintro e W2 ⟨l2, AA, cap, hmap, hll, rfl, hown, hb2⟩
  obtain rfl : l2 = l := bytes_back (hmap.trans hl.symm)
  have kN2 : Blk W2 N 24 #[.int .i64 0, .string ⟨#[]⟩, .int .i64 0, .int .i64 0, .int .i64 0, .string ⟨#[]⟩] := k1.on hb2
  have c2 := bel_trans c1 hb2
  have hat := own_strs_at hown
  have HP := hid (opl_cutL hmap)
  have hsz : ∀ x ∈ l2, x.size ≤ 1048576 := fun x hx => Nat.le_trans (cut_sizes hmap x hx) ht
  clear k1 c1 hb2 hown hl
  have HK := hid (fun (v : World) => c_l8Kind_3 v)
  by_cases h3 : l2.length = 3
  · obtain ⟨x0, x1, x2, rfl⟩ := len_3 h3
    have HNT := hid (cut_one hmap (by simp))
    have hx0 : x0 = ⟨#[109, 101, 114, 103, 101]⟩ := hw
    subst hx0
    have s1 : x1.size ≤ 1048576 := hsz x1 (by simp)
    have s2 : x2.size ≤ 1048576 := hsz x2 (by simp)
    obtain ⟨b, off, hA0, hb0, y0⟩ := txt_at hat 0 (by simp)
    obtain ⟨b1, off1, hA1, _, y1⟩ := txt_at hat 1 (by simp)
    obtain ⟨b2, off2, hA2, _, y2⟩ := txt_at hat 2 (by simp)
    subst hA0
    obtain ⟨rfl, rfl⟩ : b = b1 ∧ off = off1 := by simpa using hA1
    obtain ⟨rfl, rfl⟩ : b = b2 ∧ off = off2 := by simpa using hA2
    have hcap := hat.1
    simp only [List.length_cons, List.length_nil, Nat.zero_add, Nat.add_zero, Nat.reduceAdd, List.getElem_cons_zero, List.getElem_cons_succ] at hcap y0 y1 y2 ⊢
    have hWD := hid hw
    clear hsz hmap hat hA1 hA2 h3 hll hw
    go_wp2_with fail
    refine (HK.out W2).mono ?_
    rintro e W9 ⟨rfl, rfl⟩
    have u2 : (W2.alloc (.cells #[.int .i64 3, .string x1, .int .i64 0, .int .i64 0, .int .i64 0, .string ⟨#[]⟩] 24)).cell? ⟨b, off + 2, none⟩ = some (.string x2) := cell_kept y2 (bel_alloc (Below.refl _ _) _)
    go_wp2_with fail
    obtain ⟨P, hP⟩ : ∃ P, P = W2.heap.size := ⟨_, rfl⟩
    obtain ⟨V0, hV0⟩ : ∃ V0, V0 = W2.alloc (.cells #[.int .i64 3, .string x1, .int .i64 0, .int .i64 0, .int .i64 0, .string ⟨#[]⟩] 24) := ⟨_, rfl⟩
    rw [← hP, ← hV0]
    have hNP : N < P := by rw [hP]; exact kN2.lt
    have hbP : b < P := by rw [hP]; exact hb0
    have kP0 : Blk V0 P 24 #[.int .i64 3, .string x1, .int .i64 0, .int .i64 0, .int .i64 0, .string ⟨#[]⟩] := by rw [hV0, hP]; exact Blk.new W2 _ _
    have kN0 : Blk V0 N 24 #[.int .i64 0, .string ⟨#[]⟩, .int .i64 0, .int .i64 0, .int .i64 0, .string ⟨#[]⟩] := by rw [hV0]; exact kN2.alloc _
    have c0 : Below w.heap.size w V0 := by rw [hV0]; exact bel_alloc c2 _
    have a0_2 : V0.cell? ⟨b, off + 2, none⟩ = some (.string x2) := by rw [hV0]; exact cell_kept y2 (bel_alloc (Below.refl _ _) _)
    clear hV0 hP kN2 c2 y0 y1 y2 u2
    refine (c_l9Num x2 V0 s2).mono ?_
    rintro e V1 ⟨⟨z, bz, rfl, hzb, hzn⟩, hbx⟩
    have Hz := hid (show NumOf x2 z from fun k0 a0 a1 h0 => hzn k0 a0 a1 h0)
    clear hzn hzb
    have kP1 := kP0.on hbx
    have kN1 := kN0.on hbx
    have c1 := bel_trans c0 hbx
    clear hbx kP0 kN0 c0 a0_2
    obtain ⟨p0, p1, p2, p3, p4, p5⟩ := kP1.cells6
    have gp4 := kP1.frozen 4
    have HFm := hid (fun (v : World) => c_sFormatOp 3 x1 (0 : Int) (0 : Int) z (⟨#[]⟩ : ByteArray) v s1 (by exact Nat.zero_le _))
    obtain ⟨V, hV⟩ : ∃ V, V = opT 3 x1 (0 : Int) (0 : Int) z (⟨#[]⟩ : ByteArray) := ⟨_, rfl⟩
    rw [← hV] at HFm
    have HV := hid hV
    clear hV
    go_wp2_with fail
    obtain ⟨V2, hV2⟩ : ∃ V2, V2 = V1.setCell ⟨P, 4, none⟩ (.int .i64 z) := ⟨_, rfl⟩
    rw [← hV2]
    have kP2 : Blk V2 P 24 #[.int .i64 3, .string x1, .int .i64 0, .int .i64 0, .int .i64 z, .string ⟨#[]⟩] := by rw [hV2]; exact kP1.set_ 4 _
    have kN2 : Blk V2 N 24 #[.int .i64 0, .string ⟨#[]⟩, .int .i64 0, .int .i64 0, .int .i64 0, .string ⟨#[]⟩] := by rw [hV2]; exact kN1.set_farI _ _ (by omega)
    have c2 : Below w.heap.size w V2 := by rw [hV2]; exact bel_set c1 (by show w.heap.size ≤ P; omega) _
    clear hV2 kP1 kN1 c1 p0 p1 p2 p3 p4 p5 gp4 
    refine (HFm.out V2).mono ?_
    rintro e Va ⟨rfl, hba⟩
    have kPa := kP2.on hba
    have kNa := kN2.on hba
    have ca := bel_trans c2 hba
    obtain ⟨p0, p1, p2, p3, p4, p5⟩ := kPa.cells6
    clear kP2 kN2 c2 hba
    by_cases he : V = T
    · have hv1 : (V.toList == T.toList) = true := by rw [he]; simp
      obtain ⟨q0, q1, q2, q3, q4, q5⟩ := kNa.cells6
      have g0 := kNa.frozen 0
      have g1 := kNa.frozen 1
      have g2 := kNa.frozen 2
      have g3 := kNa.frozen 3
      have g4 := kNa.frozen 4
      have g5 := kNa.frozen 5
      have HRS := hid (show POp T (opV 3 x1 (0 : Int) (0 : Int) z (⟨#[]⟩ : ByteArray) true) from pop_yes HNT.out (HV.out.symm.trans he))
      clear he
      have K9 := kNa.put6o (.int .i64 3) (.string x1) (.int .i64 0) (.int .i64 0) (.int .i64 z) (.string ⟨#[]⟩)
      obtain ⟨j0, j1, j2, j3, j4, j5⟩ := K9.cells6
      have HB9 := hid (bel_put6 ca hNw (.int .i64 3) (.string x1) (.int .i64 0) (.int .i64 0) (.int .i64 z) (.string ⟨#[]⟩))
      clear K9
      go_wp2
      (try simp only [Exit.inBlock, Exit.then])
      exact bodyPost_ret (v := .tuple #[.agg #[.int .i64 3, .string x1, .int .i64 0, .int .i64 0, .int .i64 z, .string ⟨#[]⟩], .bool true]) (by simp [results, Tryz.results11, go_sem, j0, j1, j2, j3, j4, j5]) rfl ⟨HRS.out, HB9.out⟩
    · have hv1 : (V.toList == T.toList) = false := bytes_neI he
      obtain ⟨q0, q1, q2, q3, q4, q5⟩ := kNa.cells6
      have g0 := kNa.frozen 0
      have g1 := kNa.frozen 1
      have g2 := kNa.frozen 2
      have g3 := kNa.frozen 3
      have g4 := kNa.frozen 4
      have g5 := kNa.frozen 5
      have HRS := hid (pop_no (k := 3) (by omega) HP.out hWD.out (show OpRd 3 _ x1 (0 : Int) (0 : Int) z (⟨#[]⟩ : ByteArray) from ⟨rfl, ⟨rfl, rfl⟩, Hz.out, rfl⟩) (fun h => he (HV.out.trans h)))
      clear he
      have K9 := kNa.put6o (.int .i64 0) (.string ⟨#[]⟩) (.int .i64 0) (.int .i64 0) (.int .i64 0) (.string ⟨#[]⟩)
      obtain ⟨j0, j1, j2, j3, j4, j5⟩ := K9.cells6
      have HB9 := hid (bel_put6 ca hNw (.int .i64 0) (.string ⟨#[]⟩) (.int .i64 0) (.int .i64 0) (.int .i64 0) (.string ⟨#[]⟩))
      clear K9
      go_wp2
      (try simp only [Exit.inBlock, Exit.then])
      exact bodyPost_ret (v := .tuple #[.agg #[.int .i64 0, .string ⟨#[]⟩, .int .i64 0, .int .i64 0, .int .i64 0, .string ⟨#[]⟩], .bool false]) (by simp [results, Tryz.results11, go_sem, j0, j1, j2, j3, j4, j5]) rfl ⟨HRS.out, HB9.out⟩
  · obtain ⟨b, off, hA0, hb0, y0⟩ := txt_at hat 0 (cut_pos hmap)
    subst hA0
    have hx0 : l2[0]'(cut_pos hmap) = ⟨#[109, 101, 114, 103, 101]⟩ := by rw [← gx_zero (cut_pos hmap)]; exact hw
    have h0l : (0 : Int) < (l2.length : Int) := by have := cut_pos hmap; omega
    rw [hx0] at y0
    have hcap := hat.1
    simp only [Nat.add_zero] at y0
    have h3i : (l2.length : Int) < 3 ∨ 3 < (l2.length : Int) := by omega
    have h3b : ((l2.length : Int) != 3) = true := ne_yes h3i
    have HPL := hid (pop_len (k := 3) (by omega) HP.out hw (by simpa using h3))
    clear h3 h3i hx0 hsz hmap hat hll hw
    go_wp2_with fail
    refine (HK.out W2).mono ?_
    rintro e W9 ⟨rfl, rfl⟩
    obtain ⟨q0, q1, q2, q3, q4, q5⟩ := kN2.cells6
    have g0 := kN2.frozen 0
    have g1 := kN2.frozen 1
    have g2 := kN2.frozen 2
    have g3 := kN2.frozen 3
    have g4 := kN2.frozen 4
    have g5 := kN2.frozen 5
    have HRS := hid (HPL.out)
    have K9 := kN2.put6o (.int .i64 0) (.string ⟨#[]⟩) (.int .i64 0) (.int .i64 0) (.int .i64 0) (.string ⟨#[]⟩)
    obtain ⟨j0, j1, j2, j3, j4, j5⟩ := K9.cells6
    have HB9 := hid (bel_put6 c2 hNw (.int .i64 0) (.string ⟨#[]⟩) (.int .i64 0) (.int .i64 0) (.int .i64 0) (.string ⟨#[]⟩))
    clear K9
    go_wp2
    (try simp only [Exit.inBlock, Exit.then])
    exact bodyPost_ret (v := .tuple #[.agg #[.int .i64 0, .string ⟨#[]⟩, .int .i64 0, .int .i64 0, .int .i64 0, .string ⟨#[]⟩], .bool false]) (by simp [results, Tryz.results11, go_sem, j0, j1, j2, j3, j4, j5]) rfl ⟨HRS.out, HB9.out⟩

set_option maxHeartbeats 8000000 in
set_option maxRecDepth 100000 in
theorem c_sParseOp_4 (T : ByteArray) (w : World) (ht : T.size ≤ 1048576) (l : List ByteArray) (hl : l.map (·.data.toList) = cutL 32 T.data.toList) (hw : gx l 0 = wdOf 4) :
    Calls Tryz.prog 11 #[.string T] w fun e w' => POp T e ∧ Below w.heap.size w w' := by
  go_enter Tryz.func11, Tryz.ntmps11
  go_wp2_with fail
  obtain ⟨N, hN⟩ : ∃ N, N = w.heap.size := ⟨_, rfl⟩
  have hNw : w.heap.size ≤ N := by omega
  obtain ⟨W1, hW1⟩ : ∃ W1, W1 = w.alloc (.cells #[.int .i64 0, .string ⟨#[]⟩, .int .i64 0, .int .i64 0, .int .i64 0, .string ⟨#[]⟩] 24) := ⟨_, rfl⟩
  rw [← hN, ← hW1]
  have k1 : Blk W1 N 24 #[.int .i64 0, .string ⟨#[]⟩, .int .i64 0, .int .i64 0, .int .i64 0, .string ⟨#[]⟩] := by rw [hW1, hN]; exact Blk.new w _ _
  have c1 : Below w.heap.size w W1 := by rw [hW1]; exact bel_alloc (Below.refl _ _) _
  clear hN hW1
  refine (c_l9Cut 32 T W1 ht).mono ?_
  rintro e W2 ⟨l2, AA, cap, hmap, hll, rfl, hown, hb2⟩
  obtain rfl : l2 = l := bytes_back (hmap.trans hl.symm)
  have kN2 : Blk W2 N 24 #[.int .i64 0, .string ⟨#[]⟩, .int .i64 0, .int .i64 0, .int .i64 0, .string ⟨#[]⟩] := k1.on hb2
  have c2 := bel_trans c1 hb2
  have hat := own_strs_at hown
  have HP := hid (opl_cutL hmap)
  have hsz : ∀ x ∈ l2, x.size ≤ 1048576 := fun x hx => Nat.le_trans (cut_sizes hmap x hx) ht
  clear k1 c1 hb2 hown hl
  have HK := hid (fun (v : World) => c_l8Kind_4 v)
  by_cases h3 : l2.length = 2
  · obtain ⟨x0, x1, rfl⟩ := len_2 h3
    have HNT := hid (cut_one hmap (by simp))
    have hx0 : x0 = ⟨#[100, 101, 108, 101, 116, 101]⟩ := hw
    subst hx0
    have s1 : x1.size ≤ 1048576 := hsz x1 (by simp)
    obtain ⟨b, off, hA0, hb0, y0⟩ := txt_at hat 0 (by simp)
    obtain ⟨b1, off1, hA1, _, y1⟩ := txt_at hat 1 (by simp)
    subst hA0
    obtain ⟨rfl, rfl⟩ : b = b1 ∧ off = off1 := by simpa using hA1
    have hcap := hat.1
    simp only [List.length_cons, List.length_nil, Nat.zero_add, Nat.add_zero, Nat.reduceAdd, List.getElem_cons_zero, List.getElem_cons_succ] at hcap y0 y1 ⊢
    have hWD := hid hw
    clear hsz hmap hat hA1 h3 hll hw
    go_wp2_with fail
    refine (HK.out W2).mono ?_
    rintro e W9 ⟨rfl, rfl⟩
    have HFm := hid (fun (v : World) => c_sFormatOp 4 x1 (0 : Int) (0 : Int) (0 : Int) (⟨#[]⟩ : ByteArray) v s1 (by exact Nat.zero_le _))
    obtain ⟨V, hV⟩ : ∃ V, V = opT 4 x1 (0 : Int) (0 : Int) (0 : Int) (⟨#[]⟩ : ByteArray) := ⟨_, rfl⟩
    rw [← hV] at HFm
    have HV := hid hV
    clear hV
    go_wp2_with fail
    obtain ⟨P, hP⟩ : ∃ P, P = W2.heap.size := ⟨_, rfl⟩
    obtain ⟨V0, hV0⟩ : ∃ V0, V0 = W2.alloc (.cells #[.int .i64 4, .string x1, .int .i64 0, .int .i64 0, .int .i64 0, .string ⟨#[]⟩] 24) := ⟨_, rfl⟩
    rw [← hP, ← hV0]
    have hNP : N < P := by rw [hP]; exact kN2.lt
    have hbP : b < P := by rw [hP]; exact hb0
    have kP0 : Blk V0 P 24 #[.int .i64 4, .string x1, .int .i64 0, .int .i64 0, .int .i64 0, .string ⟨#[]⟩] := by rw [hV0, hP]; exact Blk.new W2 _ _
    have kN0 : Blk V0 N 24 #[.int .i64 0, .string ⟨#[]⟩, .int .i64 0, .int .i64 0, .int .i64 0, .string ⟨#[]⟩] := by rw [hV0]; exact kN2.alloc _
    have c0 : Below w.heap.size w V0 := by rw [hV0]; exact bel_alloc c2 _
    clear hV0 hP kN2 c2 y0 y1
    refine (HFm.out V0).mono ?_
    rintro e Va ⟨rfl, hba⟩
    have kPa := kP0.on hba
    have kNa := kN0.on hba
    have ca := bel_trans c0 hba
    obtain ⟨p0, p1, p2, p3, p4, p5⟩ := kPa.cells6
    clear kP0 kN0 c0 hba
    by_cases he : V = T
    · have hv1 : (V.toList == T.toList) = true := by rw [he]; simp
      obtain ⟨q0, q1, q2, q3, q4, q5⟩ := kNa.cells6
      have g0 := kNa.frozen 0
      have g1 := kNa.frozen 1
      have g2 := kNa.frozen 2
      have g3 := kNa.frozen 3
      have g4 := kNa.frozen 4
      have g5 := kNa.frozen 5
      have HRS := hid (show POp T (opV 4 x1 (0 : Int) (0 : Int) (0 : Int) (⟨#[]⟩ : ByteArray) true) from pop_yes HNT.out (HV.out.symm.trans he))
      clear he
      have K9 := kNa.put6o (.int .i64 4) (.string x1) (.int .i64 0) (.int .i64 0) (.int .i64 0) (.string ⟨#[]⟩)
      obtain ⟨j0, j1, j2, j3, j4, j5⟩ := K9.cells6
      have HB9 := hid (bel_put6 ca hNw (.int .i64 4) (.string x1) (.int .i64 0) (.int .i64 0) (.int .i64 0) (.string ⟨#[]⟩))
      clear K9
      go_wp2
      (try simp only [Exit.inBlock, Exit.then])
      exact bodyPost_ret (v := .tuple #[.agg #[.int .i64 4, .string x1, .int .i64 0, .int .i64 0, .int .i64 0, .string ⟨#[]⟩], .bool true]) (by simp [results, Tryz.results11, go_sem, j0, j1, j2, j3, j4, j5]) rfl ⟨HRS.out, HB9.out⟩
    · have hv1 : (V.toList == T.toList) = false := bytes_neI he
      obtain ⟨q0, q1, q2, q3, q4, q5⟩ := kNa.cells6
      have g0 := kNa.frozen 0
      have g1 := kNa.frozen 1
      have g2 := kNa.frozen 2
      have g3 := kNa.frozen 3
      have g4 := kNa.frozen 4
      have g5 := kNa.frozen 5
      have HRS := hid (pop_no (k := 4) (by omega) HP.out hWD.out (show OpRd 4 _ x1 (0 : Int) (0 : Int) (0 : Int) (⟨#[]⟩ : ByteArray) from ⟨rfl, ⟨rfl, rfl⟩, rfl, rfl⟩) (fun h => he (HV.out.trans h)))
      clear he
      have K9 := kNa.put6o (.int .i64 0) (.string ⟨#[]⟩) (.int .i64 0) (.int .i64 0) (.int .i64 0) (.string ⟨#[]⟩)
      obtain ⟨j0, j1, j2, j3, j4, j5⟩ := K9.cells6
      have HB9 := hid (bel_put6 ca hNw (.int .i64 0) (.string ⟨#[]⟩) (.int .i64 0) (.int .i64 0) (.int .i64 0) (.string ⟨#[]⟩))
      clear K9
      go_wp2
      (try simp only [Exit.inBlock, Exit.then])
      exact bodyPost_ret (v := .tuple #[.agg #[.int .i64 0, .string ⟨#[]⟩, .int .i64 0, .int .i64 0, .int .i64 0, .string ⟨#[]⟩], .bool false]) (by simp [results, Tryz.results11, go_sem, j0, j1, j2, j3, j4, j5]) rfl ⟨HRS.out, HB9.out⟩
  · obtain ⟨b, off, hA0, hb0, y0⟩ := txt_at hat 0 (cut_pos hmap)
    subst hA0
    have hx0 : l2[0]'(cut_pos hmap) = ⟨#[100, 101, 108, 101, 116, 101]⟩ := by rw [← gx_zero (cut_pos hmap)]; exact hw
    have h0l : (0 : Int) < (l2.length : Int) := by have := cut_pos hmap; omega
    rw [hx0] at y0
    have hcap := hat.1
    simp only [Nat.add_zero] at y0
    have h3i : (l2.length : Int) < 2 ∨ 2 < (l2.length : Int) := by omega
    have h3b : ((l2.length : Int) != 2) = true := ne_yes h3i
    have HPL := hid (pop_len (k := 4) (by omega) HP.out hw (by simpa using h3))
    clear h3 h3i hx0 hsz hmap hat hll hw
    go_wp2_with fail
    refine (HK.out W2).mono ?_
    rintro e W9 ⟨rfl, rfl⟩
    obtain ⟨q0, q1, q2, q3, q4, q5⟩ := kN2.cells6
    have g0 := kN2.frozen 0
    have g1 := kN2.frozen 1
    have g2 := kN2.frozen 2
    have g3 := kN2.frozen 3
    have g4 := kN2.frozen 4
    have g5 := kN2.frozen 5
    have HRS := hid (HPL.out)
    have K9 := kN2.put6o (.int .i64 0) (.string ⟨#[]⟩) (.int .i64 0) (.int .i64 0) (.int .i64 0) (.string ⟨#[]⟩)
    obtain ⟨j0, j1, j2, j3, j4, j5⟩ := K9.cells6
    have HB9 := hid (bel_put6 c2 hNw (.int .i64 0) (.string ⟨#[]⟩) (.int .i64 0) (.int .i64 0) (.int .i64 0) (.string ⟨#[]⟩))
    clear K9
    go_wp2
    (try simp only [Exit.inBlock, Exit.then])
    exact bodyPost_ret (v := .tuple #[.agg #[.int .i64 0, .string ⟨#[]⟩, .int .i64 0, .int .i64 0, .int .i64 0, .string ⟨#[]⟩], .bool false]) (by simp [results, Tryz.results11, go_sem, j0, j1, j2, j3, j4, j5]) rfl ⟨HRS.out, HB9.out⟩

set_option maxHeartbeats 8000000 in
set_option maxRecDepth 100000 in
theorem c_sParseOp_none (T : ByteArray) (w : World) (ht : T.size ≤ 1048576) (l : List ByteArray) (hl : l.map (·.data.toList) = cutL 32 T.data.toList) (hw : ∀ k, 0 ≤ k → k < 5 → gx l 0 ≠ wdOf k) :
    Calls Tryz.prog 11 #[.string T] w fun e w' => POp T e ∧ Below w.heap.size w w' := by
  go_enter Tryz.func11, Tryz.ntmps11
  go_wp2_with fail
  obtain ⟨N, hN⟩ : ∃ N, N = w.heap.size := ⟨_, rfl⟩
  have hNw : w.heap.size ≤ N := by omega
  obtain ⟨W1, hW1⟩ : ∃ W1, W1 = w.alloc (.cells #[.int .i64 0, .string ⟨#[]⟩, .int .i64 0, .int .i64 0, .int .i64 0, .string ⟨#[]⟩] 24) := ⟨_, rfl⟩
  rw [← hN, ← hW1]
  have k1 : Blk W1 N 24 #[.int .i64 0, .string ⟨#[]⟩, .int .i64 0, .int .i64 0, .int .i64 0, .string ⟨#[]⟩] := by rw [hW1, hN]; exact Blk.new w _ _
  have c1 : Below w.heap.size w W1 := by rw [hW1]; exact bel_alloc (Below.refl _ _) _
  clear hN hW1
  refine (c_l9Cut 32 T W1 ht).mono ?_
  rintro e W2 ⟨l2, AA, cap, hmap, hll, rfl, hown, hb2⟩
  obtain rfl : l2 = l := bytes_back (hmap.trans hl.symm)
  have kN2 : Blk W2 N 24 #[.int .i64 0, .string ⟨#[]⟩, .int .i64 0, .int .i64 0, .int .i64 0, .string ⟨#[]⟩] := k1.on hb2
  have c2 := bel_trans c1 hb2
  have hat := own_strs_at hown
  have HP := hid (opl_cutL hmap)
  have hsz : ∀ x ∈ l2, x.size ≤ 1048576 := fun x hx => Nat.le_trans (cut_sizes hmap x hx) ht
  clear k1 c1 hb2 hown hl
  obtain ⟨b, off, hA0, hb0, y0⟩ := txt_at hat 0 (cut_pos hmap)
  subst hA0
  have h0l : (0 : Int) < (l2.length : Int) := by have := cut_pos hmap; omega
  rw [← gx_zero (cut_pos hmap)] at y0
  have hcap := hat.1
  simp only [Nat.add_zero] at y0
  have HK := hid (fun (v : World) => c_l8Kind_no (gx l2 0) v hw)
  have HPL := hid (pop_word HP.out hw)
  clear hsz hmap hat hll hw
  go_wp2_with fail
  refine (HK.out W2).mono ?_
  rintro e W9 ⟨rfl, rfl⟩
  obtain ⟨q0, q1, q2, q3, q4, q5⟩ := kN2.cells6
  have g0 := kN2.frozen 0
  have g1 := kN2.frozen 1
  have g2 := kN2.frozen 2
  have g3 := kN2.frozen 3
  have g4 := kN2.frozen 4
  have g5 := kN2.frozen 5
  have HRS := hid (HPL.out)
  have K9 := kN2.put6o (.int .i64 0) (.string ⟨#[]⟩) (.int .i64 0) (.int .i64 0) (.int .i64 0) (.string ⟨#[]⟩)
  obtain ⟨j0, j1, j2, j3, j4, j5⟩ := K9.cells6
  have HB9 := hid (bel_put6 c2 hNw (.int .i64 0) (.string ⟨#[]⟩) (.int .i64 0) (.int .i64 0) (.int .i64 0) (.string ⟨#[]⟩))
  clear K9
  go_wp2
  (try simp only [Exit.inBlock, Exit.then])
  exact bodyPost_ret (v := .tuple #[.agg #[.int .i64 0, .string ⟨#[]⟩, .int .i64 0, .int .i64 0, .int .i64 0, .string ⟨#[]⟩], .bool false]) (by simp [results, Tryz.results11, go_sem, j0, j1, j2, j3, j4, j5]) rfl ⟨HRS.out, HB9.out⟩

theorem c_sParseOp (T : ByteArray) (w : World) (ht : T.size ≤ 1048576) : Calls Tryz.prog 11 #[.string T] w fun e w' => POp T e ∧ Below w.heap.size w w' := by
  have hl : ((cutL 32 T.data.toList).map str).map (·.data.toList) = cutL 32 T.data.toList := by
    rw [List.map_map]
    refine (List.map_congr_left (fun a _ => str_list a)).trans (List.map_id _)
  obtain ⟨l, e⟩ : ∃ l, l = (cutL 32 T.data.toList).map str := ⟨_, rfl⟩
  rw [← e] at hl
  by_cases h0 : gx l 0 = wdOf 0
  · exact c_sParseOp_0 T w ht l hl h0
  by_cases h1 : gx l 0 = wdOf 1
  · exact c_sParseOp_1 T w ht l hl h1
  by_cases h2 : gx l 0 = wdOf 2
  · exact c_sParseOp_2 T w ht l hl h2
  by_cases h3 : gx l 0 = wdOf 3
  · exact c_sParseOp_3 T w ht l hl h3
  by_cases h4 : gx l 0 = wdOf 4
  · exact c_sParseOp_4 T w ht l hl h4
  refine c_sParseOp_none T w ht l hl (fun k a b => ?_)
  have hC : k = 0 ∨ k = 1 ∨ k = 2 ∨ k = 3 ∨ k = 4 := by omega
  rcases hC with rfl | rfl | rfl | rfl | rfl <;> assumption
end Go.Proofs.YtaiemogcboidhaaGreatDoor
