/- BlockOf and BlockData in both programs, and their laws' walks. The layout of the header is as the program's text lays it. -/
import Derived.Test.YtmlaaammfnboiaaGreatDoorHb
namespace Go.Proofs.YtmlaaammfnboiaaGreatDoor
open Go.ChangeShapes Go.WideShapes Go.ChangeAt Go.RowKit Go.Joins
set_option linter.unusedVariables false
set_option linter.unusedSimpArgs false

theorem Kn.learned_clearedH (k : Kn) (d : List UInt8) : (k.learned d).cleared = k.learned d := by
 unfold Kn.learned
 exact Kn.settled_cleared _
/-- what is known of a setting and a dictionary -/
def kOf (o l m : Int) (dict : ByteArray) : Kn := (begun o l m).learned dict.data.toList
theorem kOf_ok {o l m : Int} {dict : ByteArray} (h : dataFits o l m dict = true) : FitsOk (begun o l m) dict ∧ (kOf o l m dict).Ok ∧ (kOf o l m dict).cleared = kOf o l m dict ∧ (kOf o l m dict).Wf := by
 have hk := (fits_begun o l m dict).2 h
 have hK : (kOf o l m dict).Ok := hk.1.learned hk.lits.1
 exact ⟨hk, hK, Kn.learned_clearedH _ _, hK.wf⟩
theorem lay6 (w : World) (h : Lay w) : w.cell? ⟨0, 6, none⟩ = some (.int .i64 2) ∧ w.cell? ⟨0, 7, none⟩ = some (.int .i64 0) ∧ w.cell? ⟨0, 8, none⟩ = some (.int .i64 39) ∧ w.cell? ⟨0, 9, none⟩ = some (.int .i64 2) ∧ w.cell? ⟨0, 10, none⟩ = some (.int .i64 1) ∧ w.cell? ⟨0, 11, none⟩ = some (.int .i64 64) := by
 obtain ⟨t, h⟩ := h
 have hB : Blk w 0 t _ := h
 exact ⟨hB.cell 6, hB.cell 7, hB.cell 8, hB.cell 9, hB.cell 10, hB.cell 11⟩

theorem c_eqBlockH (a z : Int) (r : Bool) (d : ByteArray) (w : World) : Calls Tryz.prog 14 #[.agg #[.int .i64 a, .bool r, .int .i64 z, .string d], .agg #[.int .i64 a, .bool r, .int .i64 z, .string d]] w fun e w' => e = .returned (.bool true) ∧ Below w.heap.size w w' := by
 go_enter Tryz.func14, Tryz.ntmps14
 go_wp2
 go_ret
 exact ⟨rfl, by exact obB⟩

theorem c_l5Ready (o l m : Int) (dict : ByteArray) (w : World) (hs : dict.size ≤ maxLen) : Calls Tryz.prog 31 #[.agg #[.int .i64 o, .int .i64 l, .int .i64 m], .string dict] w fun e w' => e = .returned (.bool (dataFits o l m dict)) ∧ Below w.heap.size w w' := by
 have HC := hid (fun v => c_sDataFits o l m dict v hs)
 have hB0 : Below w.heap.size w (w.alloc (.cells #[.int .i64 o, .int .i64 l, .int .i64 m] 28)) := by exact obB
 obtain ⟨y0, y1, y2⟩ := (Blk.new w 28 #[.int .i64 o, .int .i64 l, .int .i64 m]).cells3
 go_enter Tryz.func31, Tryz.ntmps31
 go_wp2_with fail
 refine (HC.out _).mono ?_
 rintro e w1 ⟨rfl, hb1⟩
 go_wp2_with fail
 go_ret
 exact ⟨rfl, by exact obB⟩

/-- BlockOf's answer -/
noncomputable def bkRes (o l m : Int) (dict : ByteArray) (n : Int) (D : ByteArray) : Bl × Bool := if dataFits o l m dict = true ∧ inB n 0 39 = true ∧ inB D.size 1 64 = true then (blkOf (kOf o l m dict) n D, true) else (⟨0, false, 0, ⟨#[]⟩⟩, false)
noncomputable def bkV (o l m : Int) (dict : ByteArray) (n : Int) (D : ByteArray) : Value := .tuple #[.agg #[.int .i64 (bkRes o l m dict n D).1.n, .bool (bkRes o l m dict n D).1.raw, .int .i64 (bkRes o l m dict n D).1.z, .string (bkRes o l m dict n D).1.body], .bool (bkRes o l m dict n D).2]

set_option maxHeartbeats 4000000 in
set_option maxRecDepth 100000 in
theorem c_sBlockOf (o l m : Int) (dict : ByteArray) (n : Int) (D : ByteArray) (w : World) (hs : dict.size ≤ maxLen) (hD : D.size ≤ maxLen) : Calls Tryz.prog 11 #[.agg #[.int .i64 o, .int .i64 l, .int .i64 m], .string dict, .int .i64 n, .string D] w fun e w' => e = .returned (bkV o l m dict n D) ∧ Below w.heap.size w w' := by
 have HF := hid (fun v => c_l5Ready o l m dict v hs)
 have HN := hid (fun v => c_l5Number n v)
 have HI := hid (fun v => c_l1In (D.size : Nat) 1 64 v)
 have kS := (Blk.new w 28 #[.int .i64 o, .int .i64 l, .int .i64 m]).alloc (.cells #[.int .i64 0, .bool false, .int .i64 0, .string ⟨#[]⟩] 25)
 have kR : Blk ((w.alloc (.cells #[.int .i64 o, .int .i64 l, .int .i64 m] 28)).alloc (.cells #[.int .i64 0, .bool false, .int .i64 0, .string ⟨#[]⟩] 25)) (w.heap.size + 1) 25 #[.int .i64 0, .bool false, .int .i64 0, .string ⟨#[]⟩] := by
  have := Blk.new (w.alloc (.cells #[.int .i64 o, .int .i64 l, .int .i64 m] 28)) 25 #[.int .i64 0, .bool false, .int .i64 0, .string ⟨#[]⟩]
  rwa [World.size_alloc] at this
 have hB0 : Below w.heap.size w ((w.alloc (.cells #[.int .i64 o, .int .i64 l, .int .i64 m] 28)).alloc (.cells #[.int .i64 0, .bool false, .int .i64 0, .string ⟨#[]⟩] 25)) := bel_alloc (bel_alloc (Below.refl _ w) _) _
 obtain ⟨y0, y1, y2⟩ := kS.cells3
 cases h1 : dataFits o l m dict with
 | false =>
  rw [h1] at HF
  have hr : bkV o l m dict n D = .tuple #[.agg #[.int .i64 0, .bool false, .int .i64 0, .string ⟨#[]⟩], .bool false] := by unfold bkV bkRes; rw [if_neg (fun h9 => by rw [h1] at h9; cases h9.1)]
  rw [hr]
  clear hr
  clear h1
  go_enter Tryz.func11, Tryz.ntmps11
  go_wp2_with fail
  refine (HF.out _).mono ?_
  rintro e w1 ⟨rfl, hb1⟩
  have kR1 := kR.on hb1
  have hB1 := hB0.trans (hb1.mono hB0.size)
  obtain ⟨r0, r1, r2, r3⟩ := kR1.cells4y
  have f0 := kR1.frozen 0
  have f1 := kR1.frozen 1
  have f2 := kR1.frozen 2
  have f3 := kR1.frozen 3
  have kF := (((kR1.set_ 0 (.int .i64 0)).set_ 1 (.bool false)).set_ 2 (.int .i64 0)).set_ 3 (.string ⟨#[]⟩)
  obtain ⟨j0, j1, j2, j3⟩ := kF.cells4y
  go_wp2_with fail
  exact bodyPost_ret (v := .tuple #[.agg #[.int .i64 0, .bool false, .int .i64 0, .string ⟨#[]⟩], .bool false]) (by simp [results, Tryz.results11, go_sem, j0, j1, j2, j3]) rfl ⟨rfl, bel_set (bel_set (bel_set (bel_set hB1 (by simp) _) (by simp) _) (by simp) _) (by simp) _⟩
 | true =>
 cases h2 : inB n 0 39 with
 | false =>
  rw [h1] at HF
  rw [h2] at HN
  have hr : bkV o l m dict n D = .tuple #[.agg #[.int .i64 0, .bool false, .int .i64 0, .string ⟨#[]⟩], .bool false] := by unfold bkV bkRes; rw [if_neg (fun h9 => by rw [h2] at h9; cases h9.2.1)]
  rw [hr]
  clear hr
  clear h1 h2
  go_enter Tryz.func11, Tryz.ntmps11
  go_wp2_with fail
  refine (HF.out _).mono ?_
  rintro e w1 ⟨rfl, hb1⟩
  have kR1 := kR.on hb1
  have hB1 := hB0.trans (hb1.mono hB0.size)
  go_wp2_with fail
  refine (HN.out _).mono ?_
  rintro e w9 ⟨rfl, rfl⟩
  obtain ⟨r0, r1, r2, r3⟩ := kR1.cells4y
  have f0 := kR1.frozen 0
  have f1 := kR1.frozen 1
  have f2 := kR1.frozen 2
  have f3 := kR1.frozen 3
  have kF := (((kR1.set_ 0 (.int .i64 0)).set_ 1 (.bool false)).set_ 2 (.int .i64 0)).set_ 3 (.string ⟨#[]⟩)
  obtain ⟨j0, j1, j2, j3⟩ := kF.cells4y
  go_wp2_with fail
  exact bodyPost_ret (v := .tuple #[.agg #[.int .i64 0, .bool false, .int .i64 0, .string ⟨#[]⟩], .bool false]) (by simp [results, Tryz.results11, go_sem, j0, j1, j2, j3]) rfl ⟨rfl, bel_set (bel_set (bel_set (bel_set hB1 (by simp) _) (by simp) _) (by simp) _) (by simp) _⟩
 | true =>
 cases h3 : inB D.size 1 64 with
 | false =>
  rw [h1] at HF
  rw [h2] at HN
  rw [h3] at HI
  have hr : bkV o l m dict n D = .tuple #[.agg #[.int .i64 0, .bool false, .int .i64 0, .string ⟨#[]⟩], .bool false] := by unfold bkV bkRes; rw [if_neg (fun h9 => by rw [h3] at h9; cases h9.2.2)]
  rw [hr]
  clear hr
  clear h1 h2 h3
  go_enter Tryz.func11, Tryz.ntmps11
  go_wp2_with fail
  refine (HF.out _).mono ?_
  rintro e w1 ⟨rfl, hb1⟩
  have kR1 := kR.on hb1
  have hB1 := hB0.trans (hb1.mono hB0.size)
  go_wp2_with fail
  refine (HN.out _).mono ?_
  rintro e w9 ⟨rfl, rfl⟩
  go_wp2_with fail
  refine (HI.out _).mono ?_
  rintro e w9 ⟨rfl, rfl⟩
  obtain ⟨r0, r1, r2, r3⟩ := kR1.cells4y
  have f0 := kR1.frozen 0
  have f1 := kR1.frozen 1
  have f2 := kR1.frozen 2
  have f3 := kR1.frozen 3
  have kF := (((kR1.set_ 0 (.int .i64 0)).set_ 1 (.bool false)).set_ 2 (.int .i64 0)).set_ 3 (.string ⟨#[]⟩)
  obtain ⟨j0, j1, j2, j3⟩ := kF.cells4y
  go_wp2_with fail
  exact bodyPost_ret (v := .tuple #[.agg #[.int .i64 0, .bool false, .int .i64 0, .string ⟨#[]⟩], .bool false]) (by simp [results, Tryz.results11, go_sem, j0, j1, j2, j3]) rfl ⟨rfl, bel_set (bel_set (bel_set (bel_set hB1 (by simp) _) (by simp) _) (by simp) _) (by simp) _⟩
 | true =>
  have HL := hid (fun v => c_l5Block o l m dict (kOf_ok h1).1 (kOf o l m dict) rfl n D v hD)
  have hr : bkV o l m dict n D = .tuple #[.agg #[.int .i64 (blkOf (kOf o l m dict) n D).n, .bool (blkOf (kOf o l m dict) n D).raw, .int .i64 (blkOf (kOf o l m dict) n D).z, .string (blkOf (kOf o l m dict) n D).body], .bool true] := by unfold bkV bkRes; rw [if_pos ⟨h1, h2, h3⟩]
  rw [hr]
  obtain ⟨R, hR⟩ : ∃ R, R = blkOf (kOf o l m dict) n D := ⟨_, rfl⟩
  rw [← hR] at HL ⊢
  rw [h1] at HF
  rw [h2] at HN
  rw [h3] at HI
  clear hr hR h1 h2 h3
  have HY := hid kS
  go_enter Tryz.func11, Tryz.ntmps11
  go_wp2_with fail
  refine (HF.out _).mono ?_
  rintro e w1 ⟨rfl, hb1⟩
  have kR1 := kR.on hb1
  have hB1 := hB0.trans (hb1.mono hB0.size)
  have kS1 := HY.out.on hb1
  clear y0 y1 y2
  obtain ⟨y0, y1, y2⟩ := kS1.cells3
  go_wp2_with fail
  refine (HN.out _).mono ?_
  rintro e w9 ⟨rfl, rfl⟩
  go_wp2_with fail
  refine (HI.out _).mono ?_
  rintro e w9 ⟨rfl, rfl⟩
  go_wp2_with fail
  refine (HL.out _).mono ?_
  rintro e w2 ⟨rfl, hb2⟩
  have kR2 := kR1.on hb2
  have hB2 := hB1.trans (hb2.mono hB1.size)
  obtain ⟨r0, r1, r2, r3⟩ := kR2.cells4y
  have f0 := kR2.frozen 0
  have f1 := kR2.frozen 1
  have f2 := kR2.frozen 2
  have f3 := kR2.frozen 3
  have kF := (((kR2.set_ 0 (.int .i64 R.n)).set_ 1 (.bool R.raw)).set_ 2 (.int .i64 R.z)).set_ 3 (.string R.body)
  obtain ⟨j0, j1, j2, j3⟩ := kF.cells4y
  go_wp2_with fail
  exact bodyPost_ret (v := .tuple #[.agg #[.int .i64 R.n, .bool R.raw, .int .i64 R.z, .string R.body], .bool true]) (by simp [results, Tryz.results11, go_sem, j0, j1, j2, j3]) rfl ⟨rfl, bel_set (bel_set (bel_set (bel_set hB2 (by simp) _) (by simp) _) (by simp) _) (by simp) _⟩

set_option maxHeartbeats 8000000 in
set_option maxRecDepth 100000 in
theorem c_BlockOf (o l m : Int) (dict : ByteArray) (n : Int) (D : ByteArray) (w : World) (hs : dict.size ≤ maxLen) (hD : D.size ≤ maxLen) (hLy : Lay w) : Calls Tryz.prog 13 #[.agg #[.int .i64 o, .int .i64 l, .int .i64 m], .string dict, .int .i64 n, .string D] w fun e w' => e = .returned (bkV o l m dict n D) ∧ Below w.heap.size w w' := by
 have HN := hid (fun v => c_allows 2 0 39 n v)
 have HI := hid (fun v => c_allows 2 1 64 (D.size : Nat) v)
 have HLy := hid (fun (v : World) (hb : Below w.heap.size w v) => hLy.on hb)
 clear hLy
 have kS := (Blk.new w 28 #[.int .i64 o, .int .i64 l, .int .i64 m]).alloc (.cells #[.int .i64 0, .bool false, .int .i64 0, .string ⟨#[]⟩] 25)
 have kR : Blk ((w.alloc (.cells #[.int .i64 o, .int .i64 l, .int .i64 m] 28)).alloc (.cells #[.int .i64 0, .bool false, .int .i64 0, .string ⟨#[]⟩] 25)) (w.heap.size + 1) 25 #[.int .i64 0, .bool false, .int .i64 0, .string ⟨#[]⟩] := by
  have := Blk.new (w.alloc (.cells #[.int .i64 o, .int .i64 l, .int .i64 m] 28)) 25 #[.int .i64 0, .bool false, .int .i64 0, .string ⟨#[]⟩]
  rwa [World.size_alloc] at this
 have hB0 : Below w.heap.size w ((w.alloc (.cells #[.int .i64 o, .int .i64 l, .int .i64 m] 28)).alloc (.cells #[.int .i64 0, .bool false, .int .i64 0, .string ⟨#[]⟩] 25)) := bel_alloc (bel_alloc (Below.refl _ w) _) _
 obtain ⟨y0, y1, y2⟩ := kS.cells3
 cases h1 : dataFits o l m dict with
 | false =>
  have HP := hid (fun v => c_prime_no o l m v dict hs (fun h9 => by rw [(fits_begun o l m dict).1 h9] at h1; cases h1))
  have hr : bkV o l m dict n D = .tuple #[.agg #[.int .i64 0, .bool false, .int .i64 0, .string ⟨#[]⟩], .bool false] := by unfold bkV bkRes; rw [if_neg (fun h9 => by rw [h1] at h9; cases h9.1)]
  rw [hr]
  clear hr
  clear h1
  go_enter Tryz.func13, Tryz.ntmps13
  go_wp2_with fail
  refine (HP.out _).mono ?_
  rintro e w1 ⟨rfl, hb1⟩
  have kR1 := kR.on hb1
  have hB1 := hB0.trans (hb1.mono hB0.size)
  obtain ⟨r0, r1, r2, r3⟩ := kR1.cells4y
  have f0 := kR1.frozen 0
  have f1 := kR1.frozen 1
  have f2 := kR1.frozen 2
  have f3 := kR1.frozen 3
  have kF := (((kR1.set_ 0 (.int .i64 0)).set_ 1 (.bool false)).set_ 2 (.int .i64 0)).set_ 3 (.string ⟨#[]⟩)
  obtain ⟨j0, j1, j2, j3⟩ := kF.cells4y
  go_wp2_with fail
  exact bodyPost_ret (v := .tuple #[.agg #[.int .i64 0, .bool false, .int .i64 0, .string ⟨#[]⟩], .bool false]) (by simp [results, Tryz.results13, go_sem, j0, j1, j2, j3]) rfl ⟨rfl, bel_set (bel_set (bel_set (bel_set hB1 (by simp) _) (by simp) _) (by simp) _) (by simp) _⟩
 | true =>
 have HP := hid (fun v => c_prime_yes o l m v dict (kOf_ok h1).1 (kOf o l m dict) rfl)
 have HB := hid (fun (L pb : Nat) (xs : List Value) (pd : Nat → Prop) (fb : Nat) (sv : Value) (v : World) (hL : L ≤ v.heap.size) (h : WS L pb 102 xs pd fb sv (Wr.fresh (kOf o l m dict)) v) => c_block L pb xs pd fb sv (kOf o l m dict) v (kOf_ok h1).2.1 (kOf_ok h1).2.2.1 hL n D hD h)
 cases h2 : inB n 0 39 with
 | false =>
  rw [h2] at HN
  have hr : bkV o l m dict n D = .tuple #[.agg #[.int .i64 0, .bool false, .int .i64 0, .string ⟨#[]⟩], .bool false] := by unfold bkV bkRes; rw [if_neg (fun h9 => by rw [h2] at h9; cases h9.2.1)]
  rw [hr]
  clear hr
  clear h1 h2 HB
  go_enter Tryz.func13, Tryz.ntmps13
  go_wp2_with fail
  refine (HP.out _).mono ?_
  rintro e w1 ⟨pb, fb, db, te, rfl, hws, hown, hb1⟩
  have kR1 := kR.on hb1
  have hB1 := hB0.trans (hb1.mono hB0.size)
  have hly := lay6 _ (HLy.out _ hB1)
  clear hws hown
  go_wp2_with fail
  refine (HN.out _).mono ?_
  rintro e w2 ⟨rfl, hb2⟩
  have kR2 := kR1.on hb2
  have hB2 := hB1.trans (hb2.mono hB1.size)
  obtain ⟨r0, r1, r2, r3⟩ := kR2.cells4y
  have f0 := kR2.frozen 0
  have f1 := kR2.frozen 1
  have f2 := kR2.frozen 2
  have f3 := kR2.frozen 3
  have kF := (((kR2.set_ 0 (.int .i64 0)).set_ 1 (.bool false)).set_ 2 (.int .i64 0)).set_ 3 (.string ⟨#[]⟩)
  obtain ⟨j0, j1, j2, j3⟩ := kF.cells4y
  go_wp2_with fail
  exact bodyPost_ret (v := .tuple #[.agg #[.int .i64 0, .bool false, .int .i64 0, .string ⟨#[]⟩], .bool false]) (by simp [results, Tryz.results13, go_sem, j0, j1, j2, j3]) rfl ⟨rfl, bel_set (bel_set (bel_set (bel_set hB2 (by simp) _) (by simp) _) (by simp) _) (by simp) _⟩
 | true =>
 cases h3 : inB D.size 1 64 with
 | false =>
  rw [h2] at HN
  rw [h3] at HI
  have hr : bkV o l m dict n D = .tuple #[.agg #[.int .i64 0, .bool false, .int .i64 0, .string ⟨#[]⟩], .bool false] := by unfold bkV bkRes; rw [if_neg (fun h9 => by rw [h3] at h9; cases h9.2.2)]
  rw [hr]
  clear hr
  clear h1 h2 h3 HB
  go_enter Tryz.func13, Tryz.ntmps13
  go_wp2_with fail
  refine (HP.out _).mono ?_
  rintro e w1 ⟨pb, fb, db, te, rfl, hws, hown, hb1⟩
  have kR1 := kR.on hb1
  have hB1 := hB0.trans (hb1.mono hB0.size)
  have hly := lay6 _ (HLy.out _ hB1)
  clear hws hown
  go_wp2_with fail
  refine (HN.out _).mono ?_
  rintro e w2 ⟨rfl, hb2⟩
  have kR2 := kR1.on hb2
  have hB2 := hB1.trans (hb2.mono hB1.size)
  have hly2 := lay6 _ (HLy.out _ hB2)
  go_wp2_with fail
  refine (HI.out _).mono ?_
  rintro e w3 ⟨rfl, hb3⟩
  have kR3 := kR2.on hb3
  have hB3 := hB2.trans (hb3.mono hB2.size)
  obtain ⟨r0, r1, r2, r3⟩ := kR3.cells4y
  have f0 := kR3.frozen 0
  have f1 := kR3.frozen 1
  have f2 := kR3.frozen 2
  have f3 := kR3.frozen 3
  have kF := (((kR3.set_ 0 (.int .i64 0)).set_ 1 (.bool false)).set_ 2 (.int .i64 0)).set_ 3 (.string ⟨#[]⟩)
  obtain ⟨j0, j1, j2, j3⟩ := kF.cells4y
  go_wp2_with fail
  exact bodyPost_ret (v := .tuple #[.agg #[.int .i64 0, .bool false, .int .i64 0, .string ⟨#[]⟩], .bool false]) (by simp [results, Tryz.results13, go_sem, j0, j1, j2, j3]) rfl ⟨rfl, bel_set (bel_set (bel_set (bel_set hB3 (by simp) _) (by simp) _) (by simp) _) (by simp) _⟩
 | true =>
  have hr : bkV o l m dict n D = .tuple #[.agg #[.int .i64 (blkOf (kOf o l m dict) n D).n, .bool (blkOf (kOf o l m dict) n D).raw, .int .i64 (blkOf (kOf o l m dict) n D).z, .string (blkOf (kOf o l m dict) n D).body], .bool true] := by unfold bkV bkRes; rw [if_pos ⟨h1, h2, h3⟩]
  rw [hr]
  obtain ⟨R, hR⟩ : ∃ R, R = blkOf (kOf o l m dict) n D := ⟨_, rfl⟩
  rw [← hR] at HB ⊢
  obtain ⟨K, hK⟩ : ∃ K, K = kOf o l m dict := ⟨_, rfl⟩
  rw [← hK] at HB HP
  rw [h2] at HN
  rw [h3] at HI
  clear hr hR hK h1 h2 h3
  go_enter Tryz.func13, Tryz.ntmps13
  go_wp2_with fail
  refine (HP.out _).mono ?_
  rintro e w1 ⟨pb, fb, db, te, rfl, hws, hown, hb1⟩
  have kR1 := kR.on hb1
  have hB1 := hB0.trans (hb1.mono hB0.size)
  have hly := lay6 _ (HLy.out _ hB1)
  have HW := hid hws
  have hz1 := hb1.size
  clear hws hown
  go_wp2_with fail
  refine (HN.out _).mono ?_
  rintro e w2 ⟨rfl, hb2⟩
  have kR2 := kR1.on hb2
  have hB2 := hB1.trans (hb2.mono hB1.size)
  have hly2 := lay6 _ (HLy.out _ hB2)
  go_wp2_with fail
  refine (HI.out _).mono ?_
  rintro e w3 ⟨rfl, hb3⟩
  have kR3 := kR2.on hb3
  have hB3 := hB2.trans (hb3.mono hB2.size)
  have HW3 := hid ((HW.out.on hb2).on hb3)
  have hz3 := Nat.le_trans hz1 (Nat.le_trans hb2.size hb3.size)
  go_wp2_with fail
  refine (HB.out _ pb _ _ fb _ _ hz3 HW3.out).mono ?_
  rintro e w4 ⟨rfl, hb4, -, -⟩
  have kR4 : Blk w4 (w.heap.size + 1) 25 #[.int .i64 0, .bool false, .int .i64 0, .string ⟨#[]⟩] := (hb4.block (w.heap.size + 1) (by rw [World.size_alloc, World.size_alloc]; omega)).trans kR3
  have hB4 := hB3.trans (hb4.mono (by rw [World.size_alloc, World.size_alloc]; omega))
  obtain ⟨r0, r1, r2, r3⟩ := kR4.cells4y
  have f0 := kR4.frozen 0
  have f1 := kR4.frozen 1
  have f2 := kR4.frozen 2
  have f3 := kR4.frozen 3
  have kF := (((kR4.set_ 0 (.int .i64 R.n)).set_ 1 (.bool R.raw)).set_ 2 (.int .i64 R.z)).set_ 3 (.string R.body)
  obtain ⟨j0, j1, j2, j3⟩ := kF.cells4y
  go_wp2_with fail
  exact bodyPost_ret (v := .tuple #[.agg #[.int .i64 R.n, .bool R.raw, .int .i64 R.z, .string R.body], .bool true]) (by simp [results, Tryz.results13, go_sem, j0, j1, j2, j3]) rfl ⟨rfl, bel_set (bel_set (bel_set (bel_set hB4 (by simp) _) (by simp) _) (by simp) _) (by simp) _⟩

/-- BlockData's answer -/
noncomputable def bdRes (o l m : Int) (dict : ByteArray) (b : Bl) : Option ByteArray := if dataFits o l m dict = true ∧ b.ok then bdat (kOf o l m dict) b else none
theorem optV_ex (r : Option ByteArray) : ∃ S q, optV r = .tuple #[.string S, .bool q] := by cases r <;> exact ⟨_, _, rfl⟩

set_option maxHeartbeats 4000000 in
set_option maxRecDepth 100000 in
theorem c_sBlockData (o l m : Int) (dict : ByteArray) (b : Bl) (w : World) (hs : dict.size ≤ maxLen) (hn : -9223372036854775808 ≤ b.n ∧ b.n ≤ 9223372036854775807) (hz : -9223372036854775808 ≤ b.z ∧ b.z ≤ 9223372036854775807) (hb : b.body.size ≤ maxLen) : Calls Tryz.prog 16 #[.agg #[.int .i64 o, .int .i64 l, .int .i64 m], .string dict, .agg #[.int .i64 b.n, .bool b.raw, .int .i64 b.z, .string b.body]] w fun e w' => e = .returned (optV (bdRes o l m dict b)) ∧ Below w.heap.size w w' := by
 have HF := hid (fun v => c_l5Ready o l m dict v hs)
 have HV := hid (fun v => c_l5Form b v hn hz hb)
 have kS := (Blk.new w 28 #[.int .i64 o, .int .i64 l, .int .i64 m]).alloc (.cells #[.int .i64 b.n, .bool b.raw, .int .i64 b.z, .string b.body] 25)
 have kR : Blk ((w.alloc (.cells #[.int .i64 o, .int .i64 l, .int .i64 m] 28)).alloc (.cells #[.int .i64 b.n, .bool b.raw, .int .i64 b.z, .string b.body] 25)) (w.heap.size + 1) 25 #[.int .i64 b.n, .bool b.raw, .int .i64 b.z, .string b.body] := by
  have := Blk.new (w.alloc (.cells #[.int .i64 o, .int .i64 l, .int .i64 m] 28)) 25 #[.int .i64 b.n, .bool b.raw, .int .i64 b.z, .string b.body]
  rwa [World.size_alloc] at this
 have hB0 : Below w.heap.size w ((w.alloc (.cells #[.int .i64 o, .int .i64 l, .int .i64 m] 28)).alloc (.cells #[.int .i64 b.n, .bool b.raw, .int .i64 b.z, .string b.body] 25)) := bel_alloc (bel_alloc (Below.refl _ w) _) _
 obtain ⟨y0, y1, y2⟩ := kS.cells3
 obtain ⟨s0, s1, s2, s3⟩ := kR.cells4y
 cases h1 : dataFits o l m dict with
 | false =>
  rw [h1] at HF
  have hr : bdRes o l m dict b = none := by unfold bdRes; rw [if_neg (fun h9 => by rw [h1] at h9; cases h9.1)]
  rw [hr]
  clear hr
  clear h1
  go_enter Tryz.func16, Tryz.ntmps16
  go_wp2_with fail
  refine (HF.out _).mono ?_
  rintro e w1 ⟨rfl, hb1⟩
  have kR1 := kR.on hb1
  have kS1 := kS.on hb1
  have hB1 := hB0.trans (hb1.mono hB0.size)
  go_wp2_with fail
  go_ret2
  exact ⟨rfl, hB1⟩
 | true =>
 rw [h1] at HF
 by_cases h2 : b.ok
 ·rw [decide_eq_true h2] at HV
  have HD := hid (fun v => c_l5Data o l m dict (kOf_ok h1).1 (kOf o l m dict) rfl b v hb)
  have hr : bdRes o l m dict b = bdat (kOf o l m dict) b := by unfold bdRes; rw [if_pos ⟨h1, h2⟩]
  rw [hr]
  obtain ⟨S, q, hSq⟩ := optV_ex (bdat (kOf o l m dict) b)
  rw [hSq] at HD ⊢
  clear hr hSq h1 h2 hn hz hb
  have KS := hid kS
  have KR := hid kR
  go_enter Tryz.func16, Tryz.ntmps16
  go_wp2_with fail
  refine (HF.out _).mono ?_
  rintro e w1 ⟨rfl, hb1⟩
  have kR1 := kR.on hb1
  have kS1 := kS.on hb1
  have hB1 := hB0.trans (hb1.mono hB0.size)
  clear y0 y1 y2 s0 s1 s2 s3
  obtain ⟨y0, y1, y2⟩ := kS1.cells3
  obtain ⟨s0, s1, s2, s3⟩ := kR1.cells4y
  go_wp2_with fail
  refine (HV.out _).mono ?_
  rintro e w2 ⟨rfl, hb2⟩
  have kR2 := kR1.on hb2
  have kS2 := kS1.on hb2
  have hB2 := hB1.trans (hb2.mono hB1.size)
  clear y0 y1 y2 s0 s1 s2 s3
  obtain ⟨y0, y1, y2⟩ := kS2.cells3
  obtain ⟨s0, s1, s2, s3⟩ := kR2.cells4y
  go_wp2_with fail
  refine (HD.out _).mono ?_
  rintro e w3 ⟨rfl, hb3⟩
  have kR3 := kR2.on hb3
  have kS3 := kS2.on hb3
  have hB3 := hB2.trans (hb3.mono hB2.size)
  go_wp2_with fail
  go_ret2
  exact ⟨rfl, hB3⟩
 ·rw [decide_eq_false h2] at HV
  have hr : bdRes o l m dict b = none := by unfold bdRes; rw [if_neg (fun h9 => by exact h2 h9.2)]
  rw [hr]
  clear hr
  clear h1 h2
  go_enter Tryz.func16, Tryz.ntmps16
  go_wp2_with fail
  refine (HF.out _).mono ?_
  rintro e w1 ⟨rfl, hb1⟩
  have kR1 := kR.on hb1
  have kS1 := kS.on hb1
  have hB1 := hB0.trans (hb1.mono hB0.size)
  clear y0 y1 y2 s0 s1 s2 s3
  obtain ⟨y0, y1, y2⟩ := kS1.cells3
  obtain ⟨s0, s1, s2, s3⟩ := kR1.cells4y
  go_wp2_with fail
  refine (HV.out _).mono ?_
  rintro e w2 ⟨rfl, hb2⟩
  have kR2 := kR1.on hb2
  have kS2 := kS1.on hb2
  have hB2 := hB1.trans (hb2.mono hB1.size)
  go_wp2_with fail
  go_ret2
  exact ⟨rfl, hB2⟩

set_option maxHeartbeats 4000000 in
set_option maxRecDepth 100000 in
theorem c_BlockData (o l m : Int) (dict : ByteArray) (b : Bl) (w : World) (hs : dict.size ≤ maxLen) (hn : -9223372036854775808 ≤ b.n ∧ b.n ≤ 9223372036854775807) (hz : -9223372036854775808 ≤ b.z ∧ b.z ≤ 9223372036854775807) (hb : b.body.size ≤ maxLen) (hLy : Lay w) : Calls Tryz.prog 18 #[.agg #[.int .i64 o, .int .i64 l, .int .i64 m], .string dict, .agg #[.int .i64 b.n, .bool b.raw, .int .i64 b.z, .string b.body]] w fun e w' => e = .returned (optV (bdRes o l m dict b)) ∧ Below w.heap.size w w' := by
 have HLy := hid (fun (v : World) (hb : Below w.heap.size w v) => hLy.on hb)
 have HV := hid (fun v hl => c_blockValid b v hl hn hz hb)
 clear hLy
 have kS := (Blk.new w 28 #[.int .i64 o, .int .i64 l, .int .i64 m]).alloc (.cells #[.int .i64 b.n, .bool b.raw, .int .i64 b.z, .string b.body] 25)
 have kR : Blk ((w.alloc (.cells #[.int .i64 o, .int .i64 l, .int .i64 m] 28)).alloc (.cells #[.int .i64 b.n, .bool b.raw, .int .i64 b.z, .string b.body] 25)) (w.heap.size + 1) 25 #[.int .i64 b.n, .bool b.raw, .int .i64 b.z, .string b.body] := by
  have := Blk.new (w.alloc (.cells #[.int .i64 o, .int .i64 l, .int .i64 m] 28)) 25 #[.int .i64 b.n, .bool b.raw, .int .i64 b.z, .string b.body]
  rwa [World.size_alloc] at this
 have hB0 : Below w.heap.size w ((w.alloc (.cells #[.int .i64 o, .int .i64 l, .int .i64 m] 28)).alloc (.cells #[.int .i64 b.n, .bool b.raw, .int .i64 b.z, .string b.body] 25)) := bel_alloc (bel_alloc (Below.refl _ w) _) _
 obtain ⟨y0, y1, y2⟩ := kS.cells3
 obtain ⟨s0, s1, s2, s3⟩ := kR.cells4y
 cases h1 : dataFits o l m dict with
 | false =>
  have HP := hid (fun v => c_prime_no o l m v dict hs (fun h9 => by rw [(fits_begun o l m dict).1 h9] at h1; cases h1))
  have hr : bdRes o l m dict b = none := by unfold bdRes; rw [if_neg (fun h9 => by rw [h1] at h9; cases h9.1)]
  rw [hr]
  clear hr
  clear h1
  go_enter Tryz.func18, Tryz.ntmps18
  go_wp2_with fail
  refine (HP.out _).mono ?_
  rintro e w1 ⟨rfl, hb1⟩
  have kR1 := kR.on hb1
  have kS1 := kS.on hb1
  have hB1 := hB0.trans (hb1.mono hB0.size)
  go_wp2_with fail
  go_ret2
  exact ⟨rfl, hB1⟩
 | true =>
 have HP := hid (fun v => c_prime_yes o l m v dict (kOf_ok h1).1 (kOf o l m dict) rfl)
 by_cases h2 : b.ok
 ·rw [decide_eq_true h2] at HV
  have HD := hid (fun (pb fb : Nat) (A : Option Addr) (cap L : Nat) (v : World) (h : PD pb fb (kOf o l m dict) A cap L v) (hL : L ≤ v.heap.size) => c_blockData pb fb (kOf o l m dict) A cap L (kOf_ok h1).2.2.2 b v h hL hb)
  have hr : bdRes o l m dict b = bdat (kOf o l m dict) b := by unfold bdRes; rw [if_pos ⟨h1, h2⟩]
  rw [hr]
  obtain ⟨S, q, hSq⟩ := optV_ex (bdat (kOf o l m dict) b)
  rw [hSq] at HD ⊢
  obtain ⟨K, hK⟩ : ∃ K, K = kOf o l m dict := ⟨_, rfl⟩
  rw [← hK] at HD HP
  clear hK hr hSq h1 h2 hn hz hb
  go_enter Tryz.func18, Tryz.ntmps18
  go_wp2_with fail
  refine (HP.out _).mono ?_
  rintro e w1 ⟨pb, fb, db, te, rfl, hws, hown, hb1⟩
  have kR1 := kR.on hb1
  have kS1 := kS.on hb1
  have hB1 := hB0.trans (hb1.mono hB0.size)
  obtain ⟨A1, q1, hpd⟩ := PD.of hws
  have HPD := hid hpd
  clear hws hown hpd
  clear y0 y1 y2 s0 s1 s2 s3
  obtain ⟨y0, y1, y2⟩ := kS1.cells3
  obtain ⟨s0, s1, s2, s3⟩ := kR1.cells4y
  go_wp2_with fail
  refine (HV.out _ (HLy.out _ hB1)).mono ?_
  rintro e w2 ⟨rfl, hb2⟩
  have kR2 := kR1.on hb2
  have kS2 := kS1.on hb2
  have hB2 := hB1.trans (hb2.mono hB1.size)
  clear y0 y1 y2 s0 s1 s2 s3
  obtain ⟨y0, y1, y2⟩ := kS2.cells3
  obtain ⟨s0, s1, s2, s3⟩ := kR2.cells4y
  go_wp2_with fail
  refine (HD.out _ _ _ _ _ _ (HPD.out.below hb2 (Nat.le_refl _)) hb2.size).mono ?_
  rintro e w3 ⟨rfl, hb3⟩
  have hB3 := hB2.trans (hb3.mono hB2.size)
  go_wp2_with fail
  go_ret2
  exact ⟨rfl, hB3⟩
 ·rw [decide_eq_false h2] at HV
  have hr : bdRes o l m dict b = none := by unfold bdRes; rw [if_neg (fun h9 => by exact h2 h9.2)]
  rw [hr]
  clear hr
  clear h1 h2
  go_enter Tryz.func18, Tryz.ntmps18
  go_wp2_with fail
  refine (HP.out _).mono ?_
  rintro e w1 ⟨pb, fb, db, te, rfl, hws, hown, hb1⟩
  have kR1 := kR.on hb1
  have kS1 := kS.on hb1
  have hB1 := hB0.trans (hb1.mono hB0.size)
  clear hws hown
  clear y0 y1 y2 s0 s1 s2 s3
  obtain ⟨y0, y1, y2⟩ := kS1.cells3
  obtain ⟨s0, s1, s2, s3⟩ := kR1.cells4y
  go_wp2_with fail
  refine (HV.out _ (HLy.out _ hB1)).mono ?_
  rintro e w2 ⟨rfl, hb2⟩
  have kR2 := kR1.on hb2
  have kS2 := kS1.on hb2
  have hB2 := hB1.trans (hb2.mono hB1.size)
  go_wp2_with fail
  go_ret2
  exact ⟨rfl, hB2⟩

set_option maxHeartbeats 4000000 in
set_option maxRecDepth 100000 in
theorem walk_FnExactBlockOf (o l m : Int) (dict : ByteArray) (n : Int) (D : ByteArray) (w : World) (h_o : -9223372036854775808 ≤ o ∧ o ≤ 9223372036854775807) (h_l : -9223372036854775808 ≤ l ∧ l ≤ 9223372036854775807) (h_m : -9223372036854775808 ≤ m ∧ m ≤ 9223372036854775807) (hs : dict.size ≤ maxLen) (h_n : -9223372036854775808 ≤ n ∧ n ≤ 9223372036854775807) (hD : D.size ≤ maxLen) (hLy : Lay w) :
  Calls Tryz.prog 3 #[.agg #[.int .i64 o, .int .i64 l, .int .i64 m], .string dict, .int .i64 n, .string D] w fun e w' => e = .returned (.bool true) ∧ Below w.heap.size w w' := by
 by_cases b1 : 1048576 < dict.size
 ·unfold maxLen at *
  go_enter Tryz.func3, Tryz.ntmps3
  go_wp2_with fail
  go_ret
  exact ⟨rfl, by exact obB⟩
 by_cases b2 : 1048576 < D.size
 ·unfold maxLen at *
  go_enter Tryz.func3, Tryz.ntmps3
  go_wp2_with fail
  go_ret
  exact ⟨rfl, by exact obB⟩
 have HS0 := (fun v => c_sBlockOf o l m dict n D v hs hD)
 have HI0 := (fun v hl => c_BlockOf o l m dict n D v hs hD hl)
 obtain ⟨R, q, hV⟩ : ∃ (R : Bl) (q : Bool), bkV o l m dict n D = .tuple #[.agg #[.int .i64 R.n, .bool R.raw, .int .i64 R.z, .string R.body], .bool q] := ⟨_, _, rfl⟩
 rw [hV] at HS0 HI0
 have HS := hid HS0
 have HI := hid HI0
 have HE := hid (fun v => c_eqBlockH R.n R.z R.raw R.body v)
 clear HS0 HI0 hV
 obtain ⟨R0, R1, R2, R3⟩ := R
 simp only at HS HI HE
 have hle1 : dict.size ≤ 1048576 := by omega
 have hle2 : D.size ≤ 1048576 := by omega
 have HLy := hid (fun (v : World) (hb : Below w.heap.size w v) => hLy.on hb)
 have hB0 : Below w.heap.size w (w.alloc (.cells #[.int .i64 o, .int .i64 l, .int .i64 m] 23)) := by exact obB
 have kS := Blk.new w 23 #[.int .i64 o, .int .i64 l, .int .i64 m]
 obtain ⟨y0, y1, y2⟩ := kS.cells3
 clear hLy b1 b2 hs hD
 go_enter Tryz.func3, Tryz.ntmps3
 go_wp2_with fail
 refine (c_toSetting o l m _).mono ?_
 rintro e w1 ⟨rfl, hb1⟩
 have hB1 := hB0.trans (hb1.mono hB0.size)
 have kS1 := kS.on hb1
 clear y0 y1 y2 hb1 hB0 kS
 go_wp2_with fail
 refine (HS.out _).mono ?_
 rintro e w2 ⟨rfl, hb2⟩
 have hB2 := hB1.trans (hb2.mono hB1.size)
 have kS2 := kS1.on hb2
 have hNB := Blk.new w2 25 #[.int .i64 0, .bool false, .int .i64 0, .string ByteArray.empty]
 obtain ⟨u0, u1, u2, u3⟩ := hNB.cells4y
 have f0 := hNB.frozen 0
 have f1 := hNB.frozen 1
 have f2 := hNB.frozen 2
 have f3 := hNB.frozen 3
 have kX := Blk.new w2 25 #[.int .i64 R0, .bool R1, .int .i64 R2, .string R3]
 have kS3 := kS2.alloc (.cells #[.int .i64 R0, .bool R1, .int .i64 R2, .string R3] 25)
 have hB3 : Below w.heap.size w (w2.alloc (.cells #[.int .i64 R0, .bool R1, .int .i64 R2, .string R3] 25)) := bel_alloc hB2 _
 obtain ⟨z0, z1, z2⟩ := kS3.cells3
 clear hb2 hB1 kS1 hNB
 go_wp2_with fail
 refine (c_toSetting o l m _).mono ?_
 rintro e w4 ⟨rfl, hb4⟩
 have hB4 := hB3.trans (hb4.mono hB3.size)
 have kX4 := kX.on hb4
 clear z0 z1 z2 u0 u1 u2 u3 f0 f1 f2 f3 hb4 hB3 hB2 kX kS2 kS3
 go_wp2_with fail
 refine (HI.out _ (HLy.out _ hB4)).mono ?_
 rintro e w5 ⟨rfl, hb5⟩
 have hB5 := hB4.trans (hb5.mono hB4.size)
 have kX5 := kX4.on hb5
 have hNB := Blk.new w5 25 #[.int .i64 0, .bool false, .int .i64 0, .string ByteArray.empty]
 obtain ⟨u0, u1, u2, u3⟩ := hNB.cells4y
 have f0 := hNB.frozen 0
 have f1 := hNB.frozen 1
 have f2 := hNB.frozen 2
 have f3 := hNB.frozen 3
 have kY := Blk.new w5 25 #[.int .i64 R0, .bool R1, .int .i64 R2, .string R3]
 have kX6 := kX5.alloc (.cells #[.int .i64 R0, .bool R1, .int .i64 R2, .string R3] 25)
 have hB6 : Below w.heap.size w (w5.alloc (.cells #[.int .i64 R0, .bool R1, .int .i64 R2, .string R3] 25)) := bel_alloc hB5 _
 obtain ⟨p0, p1, p2, p3⟩ := kX6.cells4y
 obtain ⟨r0, r1, r2, r3⟩ := kY.cells4y
 clear hb5 hB4 kX4 kX5 hNB kY kX6 hB5
 go_wp2_with fail
 refine (HE.out _).mono ?_
 rintro e w7 ⟨rfl, hb7⟩
 have hB7 := hB6.trans (hb7.mono hB6.size)
 go_wp2_with fail
 go_ret
 exact ⟨rfl, hB7⟩

set_option maxHeartbeats 4000000 in
set_option maxRecDepth 100000 in
theorem walk_FnExactBlockData (o l m : Int) (dict : ByteArray) (n : Int) (raw : Bool) (z : Int) (body : ByteArray) (w : World) (h_o : -9223372036854775808 ≤ o ∧ o ≤ 9223372036854775807) (h_l : -9223372036854775808 ≤ l ∧ l ≤ 9223372036854775807) (h_m : -9223372036854775808 ≤ m ∧ m ≤ 9223372036854775807) (hs : dict.size ≤ maxLen) (hn : -9223372036854775808 ≤ n ∧ n ≤ 9223372036854775807) (hz : -9223372036854775808 ≤ z ∧ z ≤ 9223372036854775807) (hb : body.size ≤ maxLen) (hLy : Lay w) :
  Calls Tryz.prog 4 #[.agg #[.int .i64 o, .int .i64 l, .int .i64 m], .string dict, .agg #[.int .i64 n, .bool raw, .int .i64 z, .string body]] w fun e w' => e = .returned (.bool true) ∧ Below w.heap.size w w' := by
 by_cases b1 : 1048576 < dict.size
 ·unfold maxLen at *
  go_enter Tryz.func4, Tryz.ntmps4
  go_wp2_with fail
  go_ret
  exact ⟨rfl, by exact obB⟩
 obtain ⟨S, q, hSq⟩ := optV_ex (bdRes o l m dict ⟨n, raw, z, body⟩)
 have HS0 := (fun v => c_sBlockData o l m dict ⟨n, raw, z, body⟩ v hs hn hz hb)
 have HI0 := (fun v hl => c_BlockData o l m dict ⟨n, raw, z, body⟩ v hs hn hz hb hl)
 rw [hSq] at HS0 HI0
 have HS := hid HS0
 have HI := hid HI0
 have HZ := hid (fun (v : World) => c_szBlock ⟨n, raw, z, body⟩ 1048576 v hb (by omega))
 have HT := hid (fun (v : World) => c_toBlock ⟨n, raw, z, body⟩ v)
 have HG := hid (fun (v : World) => c_toSetting o l m v)
 clear HS0 HI0 hSq
 simp only at HS HI HZ HT
 have hle1 : dict.size ≤ 1048576 := by omega
 have HLy := hid (fun (v : World) (hb : Below w.heap.size w v) => hLy.on hb)
 have hB0 : Below w.heap.size w ((w.alloc (.cells #[.int .i64 o, .int .i64 l, .int .i64 m] 23)).alloc (.cells #[.int .i64 n, .bool raw, .int .i64 z, .string body] 32)) := bel_alloc (bel_alloc (Below.refl _ w) _) _
 have kS := (Blk.new w 23 #[.int .i64 o, .int .i64 l, .int .i64 m]).alloc (.cells #[.int .i64 n, .bool raw, .int .i64 z, .string body] 32)
 have kR : Blk ((w.alloc (.cells #[.int .i64 o, .int .i64 l, .int .i64 m] 23)).alloc (.cells #[.int .i64 n, .bool raw, .int .i64 z, .string body] 32)) (w.heap.size + 1) 32 #[.int .i64 n, .bool raw, .int .i64 z, .string body] := by
  have := Blk.new (w.alloc (.cells #[.int .i64 o, .int .i64 l, .int .i64 m] 23)) 32 #[.int .i64 n, .bool raw, .int .i64 z, .string body]
  rwa [World.size_alloc] at this
 obtain ⟨y0, y1, y2⟩ := kS.cells3
 obtain ⟨s0, s1, s2, s3⟩ := kR.cells4y
 clear hLy b1 hs hn hz
 by_cases h1 : (1048576 : Int) < body.size
 ·rw [if_pos h1] at HZ
  clear h1 hb
  go_enter Tryz.func4, Tryz.ntmps4
  go_wp2_with fail
  refine (HZ.out _).mono ?_
  rintro e w1 ⟨rfl, hb1⟩
  go_wp2
  go_ret
  exact ⟨rfl, by exact obB⟩
 ·rw [if_neg h1] at HZ
  have hd : decide (1048576 - (body.size : Int) < 0) = false := decide_eq_false (by omega)
  obtain ⟨Lf, hLf⟩ : ∃ Lf, Lf = 1048576 - (body.size : Int) := ⟨_, rfl⟩
  rw [← hLf] at HZ hd
  clear h1 hb hLf
  go_enter Tryz.func4, Tryz.ntmps4
  go_wp2_with fail
  refine (HZ.out _).mono ?_
  rintro e w1 ⟨rfl, hb1⟩
  have kS1 := kS.on hb1
  have kR1 := kR.on hb1
  have hB1 := hB0.trans (hb1.mono hB0.size)
  clear y0 y1 y2 s0 s1 s2 s3 kS kR hB0 hb1
  have hS : w1.cell? ⟨w.heap.size, 0, none⟩ = some (.int .i64 o) ∧ w1.cell? ⟨w.heap.size, 1, none⟩ = some (.int .i64 l) ∧ w1.cell? ⟨w.heap.size, 2, none⟩ = some (.int .i64 m) ∧ w1.cell? ⟨w.heap.size + 1, 0, none⟩ = some (.int .i64 n) ∧ w1.cell? ⟨w.heap.size + 1, 1, none⟩ = some (.bool raw) ∧ w1.cell? ⟨w.heap.size + 1, 2, none⟩ = some (.int .i64 z) ∧ w1.cell? ⟨w.heap.size + 1, 3, none⟩ = some (.string body) ∧ Below w1.heap.size w1 w1 :=
   ⟨kS1.cells3.1, kS1.cells3.2.1, kS1.cells3.2.2, kR1.cell 0, kR1.cell 1, kR1.cell 2, kR1.cell 3, Below.refl _ _⟩
  go_wp2_with fail
  refine qB (S := (fun v => v.cell? ⟨w.heap.size, 0, none⟩ = some (.int .i64 o) ∧ v.cell? ⟨w.heap.size, 1, none⟩ = some (.int .i64 l) ∧ v.cell? ⟨w.heap.size, 2, none⟩ = some (.int .i64 m) ∧ v.cell? ⟨w.heap.size + 1, 0, none⟩ = some (.int .i64 n) ∧ v.cell? ⟨w.heap.size + 1, 1, none⟩ = some (.bool raw) ∧ v.cell? ⟨w.heap.size + 1, 2, none⟩ = some (.int .i64 z) ∧ v.cell? ⟨w.heap.size + 1, 3, none⟩ = some (.string body) ∧ Below w1.heap.size w1 v)) (by kernel_rfl) (by kernel_rfl) (s7_drew hS) ?_
  refine qK ?_
  refine qC (fun wq hSq => HG.out wq) (fun wq wr hbr hSq => s7_bel hbr hSq) ?_
  refine qK ?_
  refine qK ?_
  refine qC (fun wq hSq => HT.out wq) (fun wq wr hbr hSq => s7_bel hbr hSq) ?_
  refine qC (fun wq hSq => HS.out wq) (fun wq wr hbr hSq => s7_bel hbr hSq) ?_
  refine qK ?_
  refine qK ?_
  refine qK ?_
  refine qK ?_
  refine qK ?_
  refine qN ?_
  intro wq hSq
  (try dsimp only at hSq)
  have hB2 := hB1.trans (hSq.2.2.2.2.2.2.2.mono hB1.size)
  obtain ⟨q0, q1, q2, q3, q4, q5, q6, -⟩ := hSq
  have hS2 : wq.cell? ⟨w.heap.size, 0, none⟩ = some (.int .i64 o) ∧ wq.cell? ⟨w.heap.size, 1, none⟩ = some (.int .i64 l) ∧ wq.cell? ⟨w.heap.size, 2, none⟩ = some (.int .i64 m) ∧ wq.cell? ⟨w.heap.size + 1, 0, none⟩ = some (.int .i64 n) ∧ wq.cell? ⟨w.heap.size + 1, 1, none⟩ = some (.bool raw) ∧ wq.cell? ⟨w.heap.size + 1, 2, none⟩ = some (.int .i64 z) ∧ wq.cell? ⟨w.heap.size + 1, 3, none⟩ = some (.string body) ∧ Below wq.heap.size wq wq :=
   ⟨q0, q1, q2, q3, q4, q5, q6, Below.refl _ _⟩
  obtain ⟨W2, hW2⟩ : ∃ W2, W2 = wq := ⟨_, rfl⟩
  clear hS q0 q1 q2 q3 q4 q5 q6 kS1 kR1 hB1
  rw [← hW2] at hB2 hS2 ⊢
  clear hW2
  go_wp2_with fail
  refine qB (S := (fun v => v.cell? ⟨w.heap.size, 0, none⟩ = some (.int .i64 o) ∧ v.cell? ⟨w.heap.size, 1, none⟩ = some (.int .i64 l) ∧ v.cell? ⟨w.heap.size, 2, none⟩ = some (.int .i64 m) ∧ v.cell? ⟨w.heap.size + 1, 0, none⟩ = some (.int .i64 n) ∧ v.cell? ⟨w.heap.size + 1, 1, none⟩ = some (.bool raw) ∧ v.cell? ⟨w.heap.size + 1, 2, none⟩ = some (.int .i64 z) ∧ v.cell? ⟨w.heap.size + 1, 3, none⟩ = some (.string body) ∧ Below W2.heap.size W2 v)) (by kernel_rfl) (by kernel_rfl) (s7_drew hS2) ?_
  refine qK ?_
  refine qC (fun wq hSq => HG.out wq) (fun wq wr hbr hSq => s7_bel hbr hSq) ?_
  refine qK ?_
  refine qK ?_
  refine qC (fun wq hSq => HT.out wq) (fun wq wr hbr hSq => s7_bel hbr hSq) ?_
  refine qC (fun wq hSq => HI.out wq (HLy.out _ (hB2.trans (hSq.2.2.2.2.2.2.2.mono hB2.size)))) (fun wq wr hbr hSq => s7_bel hbr hSq) ?_
  refine qK ?_
  refine qK ?_
  refine qK ?_
  refine qK ?_
  refine qK ?_
  refine qN ?_
  intro wq hSq
  (try dsimp only at hSq)
  have hB3 := hB2.trans (hSq.2.2.2.2.2.2.2.mono hB2.size)
  clear hSq hS2
  go_wp2_with fail
  go_ret
  exact ⟨rfl, hB3⟩
end Go.Proofs.YtmlaaammfnboiaaGreatDoor
