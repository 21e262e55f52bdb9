/- ParseReader in the program. -/
import Derived.Test.YtmfnfheahehpcaaGreatDoorMe
namespace Go.Proofs.YtmfnfheahehpcaaGreatDoor
open Go.ChangeShapes Go.WideShapes Go.ChangeAt Go.RowKit Go.Joins
set_option linter.unusedVariables false
set_option linter.unusedSimpArgs false

theorem five_of {l : List ByteArray} (h : l.length = 5) : ∃ a b c d e, l = [a, b, c, d, e] := by
  match l, h with
  | [a, b, c, d, e], _ => exact ⟨a, b, c, d, e, rfl⟩
theorem gr10k {w v : World} {R : Nat} (h : w.grownBy v (some R)) (a0 a1 a2 a3 a4 a5 a6 a7 a8 a9 : Value) : w.grownBy ((((((((((v.setCell ⟨R, 0, none⟩ a0).setCell ⟨R, 1, none⟩ a1).setCell ⟨R, 2, none⟩ a2).setCell ⟨R, 3, none⟩ a3).setCell ⟨R, 4, none⟩ a4).setCell ⟨R, 5, none⟩ a5).setCell ⟨R, 6, none⟩ a6).setCell ⟨R, 7, none⟩ a7).setCell ⟨R, 8, none⟩ a8).setCell ⟨R, 9, none⟩ a9) (some R) := grown_set (grown_set (grown_set (grown_set (grown_set (grown_set (grown_set (grown_set (grown_set (grown_set (h) 0 a0) 1 a1) 2 a2) 3 a3) 4 a4) 5 a5) 6 a6) 7 a7) 8 a8) 9 a9
theorem c_emptyIfDashB (T : ByteArray) (w : World) : Calls Tryz.prog 53 #[.string T] w fun e w' => e = .returned (.string (undI T)) ∧ Below w.heap.size w w' := (c_emptyIfDash T w).mono fun e w' h => ⟨h.1, h.2 ▸ Below.refl _ _⟩
theorem zero_cells10 : True := trivial

set_option maxHeartbeats 8000000 in
set_option maxRecDepth 100000 in
theorem c_ParseReader (T : ByteArray) (w : World) (ht : T.size ≤ 1048576) (hE : ErrAt w) (mm : Int) (hm : w.cell? ⟨3, 0, none⟩ = some (.int .i64 mm)) (hTab : TabN w) : Calls Tryz.prog 18 #[.string T] w fun e w' => ∃ (k : Kn) (B : ByteArray) (s c en : Int) (b : Bool) (A : Option Addr) (cap : Nat), (PRd T k B s c en b ∧ k.ps.length ≤ 1048576) ∧ e = .returned (.tuple #[.agg #[.int .i64 k.o, .int .i64 k.l, .int .i64 k.m, .slice A k.ps.length cap, .int .i64 k.base, .int .i64 k.last, .string B, .int .i64 s, .int .i64 c, .int .i64 en], .bool b]) ∧ w'.ownsRow w.heap.size 53 2 (.slice A k.ps.length cap) k.ps.length (prs k.ps) ∧ Below w.heap.size w w' := by
  have HE := hid hE
  have HMM := hid hm
  have HTAB := hid hTab
  clear hE hm hTab
  obtain ⟨V0, hV0⟩ : ∃ V0, V0 = w.alloc (.cells #[.int .i64 0, .int .i64 0, .int .i64 0, .slice none 0 0, .int .i64 0, .int .i64 0, .string ⟨#[]⟩, .int .i64 0, .int .i64 0, .int .i64 0] 39) := ⟨_, rfl⟩
  have kZ0 : Blk V0 w.heap.size 39 #[.int .i64 0, .int .i64 0, .int .i64 0, .slice none 0 0, .int .i64 0, .int .i64 0, .string ⟨#[]⟩, .int .i64 0, .int .i64 0, .int .i64 0] := by rw [hV0]; exact Blk.new w _ _
  have c0 : Below w.heap.size w V0 := by rw [hV0]; exact bel_alloc (Below.refl _ _) _
  have hz0 : w.heap.size + 1 ≤ V0.heap.size := by rw [hV0, World.size_alloc]; omega
  go_enter Tryz.func18, Tryz.ntmps18
  go_wp2_with fail
  rw [← hV0]
  clear hV0
  refine (c_SplitNk 124 6 T V0 ht (by omega) (by omega) mm (cell_kept HMM.out c0)).mono ?_
  rintro e W2 ⟨l, cap, hl1, hl4, hlc, hc4, hsz, hslt, hcut, hemp, rfl, hW2⟩
  obtain ⟨F, hF⟩ : ∃ F, F = V0.heap.size := ⟨_, rfl⟩
  rw [← hF]
  have kf2 : Blk W2 F 9 (Lib.cellsOf l cap) := by rw [hW2, hF]; exact Blk.new V0 _ _
  have kZ2 : Blk W2 w.heap.size 39 #[.int .i64 0, .int .i64 0, .int .i64 0, .slice none 0 0, .int .i64 0, .int .i64 0, .string ⟨#[]⟩, .int .i64 0, .int .i64 0, .int .i64 0] := by rw [hW2]; exact kZ0.alloc _
  have c2 : Below w.heap.size w W2 := by rw [hW2]; exact bel_alloc c0 _
  have hz2 : F + 1 ≤ W2.heap.size := by rw [hW2, hF, World.size_alloc]; omega
  have hzF : w.heap.size + 1 ≤ F := by omega
  have HP := hid (rdfl_cut hcut)
  have HEM := hid hemp
  clear hcut hemp hW2 hF kZ0 c0 hz0
  by_cases h4 : l.length = 5
  case neg =>
    have HR := hid (prd_len HP.out h4)
    have h4i : ¬ ((l.length : Int) = 5) := by omega
    have hne4 : ((l.length : Int) != 5) = true := by simpa using h4i
    obtain ⟨zc0, zc1, zc2, zc3, zc4, zc5, zc6, zc7, zc8, zc9⟩ := kZ2.cells10
    have fz0 := kZ2.frozen 0
    have fz1 := kZ2.frozen 1
    have fz2 := kZ2.frozen 2
    have fz3 := kZ2.frozen 3
    have fz4 := kZ2.frozen 4
    have fz5 := kZ2.frozen 5
    have fz6 := kZ2.frozen 6
    have fz7 := kZ2.frozen 7
    have fz8 := kZ2.frozen 8
    have fz9 := kZ2.frozen 9
    obtain ⟨j0, j1, j2, j3, j4, j5, j6, j7, j8, j9⟩ := (kZ2.put10 (.int .i64 0) (.int .i64 0) (.int .i64 0) (.slice none 0 0) (.int .i64 0) (.int .i64 0) (.string ⟨#[]⟩) (.int .i64 0) (.int .i64 0) (.int .i64 0)).cells10
    have HG := hid (gr10k (grown_refl W2 (some w.heap.size)) (.int .i64 0) (.int .i64 0) (.int .i64 0) (.slice none 0 0) (.int .i64 0) (.int .i64 0) (.string ⟨#[]⟩) (.int .i64 0) (.int .i64 0) (.int .i64 0))
    have HBB := hid (c2.trans (below_of_grown HG.out c2.size (fun g e => by cases e; exact Nat.le_refl _)))
    clear kZ2
    go_wp2
    (try simp only [Exit.inBlock, Exit.then])
    exact bodyPost_ret (v := .tuple #[.agg #[.int .i64 0, .int .i64 0, .int .i64 0, .slice none 0 0, .int .i64 0, .int .i64 0, .string ⟨#[]⟩, .int .i64 0, .int .i64 0, .int .i64 0], .bool false]) (by simp [results, Tryz.results18, go_sem, j0, j1, j2, j3, j4, j5, j6, j7, j8, j9]) rfl ⟨kn0, ⟨#[]⟩, 0, 0, 0, false, none, 0, ⟨HR.out, by simp [kn0]⟩, rfl, own_ps_nil _ _ _, HBB.out⟩
  obtain ⟨x0, x1, x2, x3, x4, rfl⟩ := five_of h4
  have HSZ := hid (show x0.size + 1 ≤ T.size ∧ x1.size + 1 ≤ T.size ∧ x2.size + 1 ≤ T.size ∧ x3.size + 1 ≤ T.size ∧ x4.size + 1 ≤ T.size from ⟨hslt (by simp) x0 (by simp), hslt (by simp) x1 (by simp), hslt (by simp) x2 (by simp), hslt (by simp) x3 (by simp), hslt (by simp) x4 (by simp)⟩)
  have HT0 := hid (show ¬ T = ByteArray.empty from fun h => by have := HEM.out h; simp at this)
  have HY := hid (show (Lib.cellsOf [x0, x1, x2, x3, x4] cap)[0]? = some (.string x0) ∧ (Lib.cellsOf [x0, x1, x2, x3, x4] cap)[1]? = some (.string x1) ∧ (Lib.cellsOf [x0, x1, x2, x3, x4] cap)[2]? = some (.string x2) ∧ (Lib.cellsOf [x0, x1, x2, x3, x4] cap)[3]? = some (.string x3) ∧ (Lib.cellsOf [x0, x1, x2, x3, x4] cap)[4]? = some (.string x4) from ⟨cells_of_at _ _ 0 _ rfl, cells_of_at _ _ 1 _ rfl, cells_of_at _ _ 2 _ rfl, cells_of_at _ _ 3 _ rfl, cells_of_at _ _ 4 _ rfl⟩)
  obtain ⟨cs, hcs⟩ : ∃ cs, cs = Lib.cellsOf [x0, x1, x2, x3, x4] cap := ⟨_, rfl⟩
  rw [← hcs] at kf2 HY
  clear hcs h4 hl1 hl4 hsz hslt HEM
  obtain ⟨Bt, hBt⟩ : ∃ Bt, Bt = undI x1 := ⟨_, rfl⟩
  have HBT := hid (show BtOf x1 Bt from by rw [hBt]; exact bt_of x1)
  have hBz : Bt.size ≤ maxLen := by rw [hBt]; have := undI_size x1; have := HSZ.out.2.1; unfold maxLen; omega
  have HED := hid (fun (v : World) => c_emptyIfDashB x1 v)
  rw [← hBt] at HED
  clear hBt
  obtain ⟨W3, hW3⟩ : ∃ W3, W3 = W2.alloc (.cells #[.int .i64 0, .int .i64 0, .int .i64 0, .slice none 0 0, .int .i64 0, .int .i64 0, .string ⟨#[]⟩, .int .i64 0, .int .i64 0, .int .i64 0] 39) := ⟨_, rfl⟩
  have kK3 : Blk W3 W2.heap.size 39 #[.int .i64 0, .int .i64 0, .int .i64 0, .slice none 0 0, .int .i64 0, .int .i64 0, .string ⟨#[]⟩, .int .i64 0, .int .i64 0, .int .i64 0] := by rw [hW3]; exact Blk.new W2 _ _
  have kf3 : Blk W3 F 9 cs := by rw [hW3]; exact kf2.alloc _
  have kZ3 : Blk W3 w.heap.size 39 #[.int .i64 0, .int .i64 0, .int .i64 0, .slice none 0 0, .int .i64 0, .int .i64 0, .string ⟨#[]⟩, .int .i64 0, .int .i64 0, .int .i64 0] := by rw [hW3]; exact kZ2.alloc _
  have c3 : Below w.heap.size w W3 := by rw [hW3]; exact bel_alloc c2 _
  have hNF : F + 1 ≤ W2.heap.size := by omega
  have hN3 : W2.heap.size + 1 ≤ W3.heap.size := by rw [hW3, World.size_alloc]; omega
  have y0 : (W2.alloc (.cells #[.int .i64 0, .int .i64 0, .int .i64 0, .slice none 0 0, .int .i64 0, .int .i64 0, .string ⟨#[]⟩, .int .i64 0, .int .i64 0, .int .i64 0] 39)).cell? ⟨F, 0, none⟩ = some (.string x0) := by rw [← hW3]; exact (kf3.cell 0).trans HY.out.1
  have hne1 : ¬ W2.heap.size = F := by omega
  have hne2 : ¬ F = W2.heap.size := by omega
  have hne3 : ¬ W2.heap.size = w.heap.size := by omega
  have hne4 : ¬ w.heap.size = W2.heap.size := by omega
  clear kf2 kZ2 c2 hz2
  go_wp2_with fail
  rw [← hW3]
  clear hW3 y0
  refine (c_ParseKnown x0 W3 (by have := HSZ.out.1; omega) (HE.out.kept c3) mm (cell_kept HMM.out c3) (HTAB.out.on c3)).mono ?_
  rintro e W4 ⟨k, bk, Aq, cq, ⟨hpk, hql⟩, rfl, hown, hb4⟩
  have HPK := hid hpk
  have kK4 := kK3.on hb4
  have kf4 := kf3.on hb4
  have kZ4 := kZ3.on hb4
  have c4 := c3.trans (hb4.mono c3.size)
  have hN4 := Nat.le_trans hN3 hb4.size
  have hown4 := own_mono (B' := w.heap.size + 1) hown (by omega)
  have HLT := hid (show ∀ g, (Value.slice Aq k.ps.length cq).ownBlock = some g → W2.heap.size < g from fun g hg => by have := (hown.lt g hg).1; omega)
  clear hpk hown hb4 kK3 kf3 kZ3 c3 hN3
  obtain ⟨m0, m1, m2, m3, m4, m5, m6, m7, m8, m9⟩ := kK4.cells10
  have fr0 := kK4.frozen 0
  have fr1 := kK4.frozen 1
  have fr2 := kK4.frozen 2
  have fr3 := kK4.frozen 3
  have fr4 := kK4.frozen 4
  have fr5 := kK4.frozen 5
  obtain ⟨W5, hW5⟩ : ∃ W5, W5 = ((((((W4.setCell ⟨W2.heap.size, 0, none⟩ (.int .i64 k.o)).setCell ⟨W2.heap.size, 1, none⟩ (.int .i64 k.l)).setCell ⟨W2.heap.size, 2, none⟩ (.int .i64 k.m)).setCell ⟨W2.heap.size, 3, none⟩ (.slice Aq k.ps.length cq)).setCell ⟨W2.heap.size, 4, none⟩ (.int .i64 k.base)).setCell ⟨W2.heap.size, 5, none⟩ (.int .i64 k.last)) := ⟨_, rfl⟩
  have HG5 := hid (show W4.grownBy W5 (some W2.heap.size) by rw [hW5]; exact (grown_set (grown_set (grown_set (grown_set (grown_set (grown_set (grown_refl W4 (some W2.heap.size)) 0 (.int .i64 k.o)) 1 (.int .i64 k.l)) 2 (.int .i64 k.m)) 3 (.slice Aq k.ps.length cq)) 4 (.int .i64 k.base)) 5 (.int .i64 k.last)))
  have kK5 : Blk W5 W2.heap.size 39 #[.int .i64 k.o, .int .i64 k.l, .int .i64 k.m, .slice Aq k.ps.length cq, .int .i64 k.base, .int .i64 k.last, .string ⟨#[]⟩, .int .i64 0, .int .i64 0, .int .i64 0] := by rw [hW5]; exact ((((((kK4.set_ 0 (.int .i64 k.o)).set_ 1 (.int .i64 k.l)).set_ 2 (.int .i64 k.m)).set_ 3 (.slice Aq k.ps.length cq)).set_ 4 (.int .i64 k.base)).set_ 5 (.int .i64 k.last))
  have kf5 := kf4.grown HG5.out (by simp; omega)
  have kZ5 := kZ4.grown HG5.out (by simp; omega)
  have c5 := c4.trans (below_of_grown HG5.out c4.size (fun g e => by cases e; omega))
  have hN5 := Nat.le_trans hN4 HG5.out.size
  have hown5 := hown4.kept HG5.out (by
    cases hv : (Value.slice Aq k.ps.length cq).ownBlock with
    | none => exact .inl rfl
    | some g => exact .inr (fun e => by have := HLT.out g hv; injection e with e2; omega))
  have y9 : ((((((W4.setCell ⟨W2.heap.size, 0, none⟩ (.int .i64 k.o)).setCell ⟨W2.heap.size, 1, none⟩ (.int .i64 k.l)).setCell ⟨W2.heap.size, 2, none⟩ (.int .i64 k.m)).setCell ⟨W2.heap.size, 3, none⟩ (.slice Aq k.ps.length cq)).setCell ⟨W2.heap.size, 4, none⟩ (.int .i64 k.base)).setCell ⟨W2.heap.size, 5, none⟩ (.int .i64 k.last)).cell? ⟨F, 1, none⟩ = some (.string x1) := by rw [← hW5]; exact (kf5.cell 1).trans HY.out.2.1
  clear kf4 kZ4 c4 HG5 kK4 hown4
  go_wp2_with fail
  rw [← hW5]
  clear hW5 y9 m0 m1 m2 m3 m4 m5 m6 m7 m8 m9 fr0 fr1 fr2 fr3 fr4 fr5
  refine (HED.out W5).mono ?_
  rintro e W6 ⟨rfl, hb⟩
  have kK6 := kK5.on hb
  have kf6 := kf5.on hb
  have kZ6 := kZ5.on hb
  have c6 := c5.trans (hb.mono c5.size)
  have hN6 := Nat.le_trans hN5 hb.size
  have hown6 := own_on hown5 hb
  clear hb kK5 kf5 kZ5 c5 hN5 hown5
  obtain ⟨m0, m1, m2, m3, m4, m5, m6, m7, m8, m9⟩ := kK6.cells10
  have fr6 := kK6.frozen 6
  obtain ⟨W7, hW7⟩ : ∃ W7, W7 = (W6.setCell ⟨W2.heap.size, 6, none⟩ (.string Bt)) := ⟨_, rfl⟩
  have HG7 := hid (show W6.grownBy W7 (some W2.heap.size) by rw [hW7]; exact (grown_set (grown_refl W6 (some W2.heap.size)) 6 (.string Bt)))
  have kK7 : Blk W7 W2.heap.size 39 #[.int .i64 k.o, .int .i64 k.l, .int .i64 k.m, .slice Aq k.ps.length cq, .int .i64 k.base, .int .i64 k.last, .string Bt, .int .i64 0, .int .i64 0, .int .i64 0] := by rw [hW7]; exact (kK6.set_ 6 (.string Bt))
  have kf7 := kf6.grown HG7.out (by simp; omega)
  have kZ7 := kZ6.grown HG7.out (by simp; omega)
  have c7 := c6.trans (below_of_grown HG7.out c6.size (fun g e => by cases e; omega))
  have hN7 := Nat.le_trans hN6 HG7.out.size
  have hown7 := hown6.kept HG7.out (by
    cases hv : (Value.slice Aq k.ps.length cq).ownBlock with
    | none => exact .inl rfl
    | some g => exact .inr (fun e => by have := HLT.out g hv; injection e with e2; omega))
  have y9 : (W6.setCell ⟨W2.heap.size, 6, none⟩ (.string Bt)).cell? ⟨F, 2, none⟩ = some (.string x2) := by rw [← hW7]; exact (kf7.cell 2).trans HY.out.2.2.1
  clear kf6 kZ6 c6 HG7 kK6 hown6
  go_wp2_with fail
  rw [← hW7]
  clear hW7 y9 m0 m1 m2 m3 m4 m5 m6 m7 m8 m9 fr6
  refine (c_AtoiK x2 W7 (by have := HSZ.out.2.2.1; omega) (HE.out.kept c7)).mono ?_
  rintro e W8 ⟨⟨n0, ev0, rfl, hr0, hn0⟩, hb⟩
  have kK8 := kK7.on hb
  have kf8 := kf7.on hb
  have kZ8 := kZ7.on hb
  have c8 := c7.trans (hb.mono c7.size)
  have hN8 := Nat.le_trans hN7 hb.size
  have hown8 := own_on hown7 hb
  have HN0 := hid hn0
  clear hn0
  clear hb kK7 kf7 kZ7 c7 hN7 hown7
  obtain ⟨m0, m1, m2, m3, m4, m5, m6, m7, m8, m9⟩ := kK8.cells10
  have fr7 := kK8.frozen 7
  obtain ⟨W9, hW9⟩ : ∃ W9, W9 = (W8.setCell ⟨W2.heap.size, 7, none⟩ (.int .i64 n0)) := ⟨_, rfl⟩
  have HG9 := hid (show W8.grownBy W9 (some W2.heap.size) by rw [hW9]; exact (grown_set (grown_refl W8 (some W2.heap.size)) 7 (.int .i64 n0)))
  have kK9 : Blk W9 W2.heap.size 39 #[.int .i64 k.o, .int .i64 k.l, .int .i64 k.m, .slice Aq k.ps.length cq, .int .i64 k.base, .int .i64 k.last, .string Bt, .int .i64 n0, .int .i64 0, .int .i64 0] := by rw [hW9]; exact (kK8.set_ 7 (.int .i64 n0))
  have kf9 := kf8.grown HG9.out (by simp; omega)
  have kZ9 := kZ8.grown HG9.out (by simp; omega)
  have c9 := c8.trans (below_of_grown HG9.out c8.size (fun g e => by cases e; omega))
  have hN9 := Nat.le_trans hN8 HG9.out.size
  have hown9 := hown8.kept HG9.out (by
    cases hv : (Value.slice Aq k.ps.length cq).ownBlock with
    | none => exact .inl rfl
    | some g => exact .inr (fun e => by have := HLT.out g hv; injection e with e2; omega))
  have y9 : (W8.setCell ⟨W2.heap.size, 7, none⟩ (.int .i64 n0)).cell? ⟨F, 3, none⟩ = some (.string x3) := by rw [← hW9]; exact (kf9.cell 3).trans HY.out.2.2.2.1
  clear kf8 kZ8 c8 HG9 kK8 hown8
  go_wp2_with fail
  rw [← hW9]
  clear hW9 y9 m0 m1 m2 m3 m4 m5 m6 m7 m8 m9 fr7
  refine (c_AtoiK x3 W9 (by have := HSZ.out.2.2.2.1; omega) (HE.out.kept c9)).mono ?_
  rintro e W10 ⟨⟨n1, ev1, rfl, hr1, hn1⟩, hb⟩
  have kK10 := kK9.on hb
  have kf10 := kf9.on hb
  have kZ10 := kZ9.on hb
  have c10 := c9.trans (hb.mono c9.size)
  have hN10 := Nat.le_trans hN9 hb.size
  have hown10 := own_on hown9 hb
  have HN1 := hid hn1
  clear hn1
  clear hb kK9 kf9 kZ9 c9 hN9 hown9
  obtain ⟨m0, m1, m2, m3, m4, m5, m6, m7, m8, m9⟩ := kK10.cells10
  have fr8 := kK10.frozen 8
  obtain ⟨W11, hW11⟩ : ∃ W11, W11 = (W10.setCell ⟨W2.heap.size, 8, none⟩ (.int .i64 n1)) := ⟨_, rfl⟩
  have HG11 := hid (show W10.grownBy W11 (some W2.heap.size) by rw [hW11]; exact (grown_set (grown_refl W10 (some W2.heap.size)) 8 (.int .i64 n1)))
  have kK11 : Blk W11 W2.heap.size 39 #[.int .i64 k.o, .int .i64 k.l, .int .i64 k.m, .slice Aq k.ps.length cq, .int .i64 k.base, .int .i64 k.last, .string Bt, .int .i64 n0, .int .i64 n1, .int .i64 0] := by rw [hW11]; exact (kK10.set_ 8 (.int .i64 n1))
  have kf11 := kf10.grown HG11.out (by simp; omega)
  have kZ11 := kZ10.grown HG11.out (by simp; omega)
  have c11 := c10.trans (below_of_grown HG11.out c10.size (fun g e => by cases e; omega))
  have hN11 := Nat.le_trans hN10 HG11.out.size
  have hown11 := hown10.kept HG11.out (by
    cases hv : (Value.slice Aq k.ps.length cq).ownBlock with
    | none => exact .inl rfl
    | some g => exact .inr (fun e => by have := HLT.out g hv; injection e with e2; omega))
  have y9 : (W10.setCell ⟨W2.heap.size, 8, none⟩ (.int .i64 n1)).cell? ⟨F, 4, none⟩ = some (.string x4) := by rw [← hW11]; exact (kf11.cell 4).trans HY.out.2.2.2.2
  clear kf10 kZ10 c10 HG11 kK10 hown10
  go_wp2_with fail
  rw [← hW11]
  clear hW11 y9 m0 m1 m2 m3 m4 m5 m6 m7 m8 m9 fr8
  refine (c_AtoiK x4 W11 (by have := HSZ.out.2.2.2.2; omega) (HE.out.kept c11)).mono ?_
  rintro e W12 ⟨⟨n2, ev2, rfl, hr2, hn2⟩, hb⟩
  have kK12 := kK11.on hb
  have kf12 := kf11.on hb
  have kZ12 := kZ11.on hb
  have c12 := c11.trans (hb.mono c11.size)
  have hN12 := Nat.le_trans hN11 hb.size
  have hown12 := own_on hown11 hb
  have HN2 := hid hn2
  clear hn2
  clear hb kK11 kf11 kZ11 c11 hN11 hown11
  obtain ⟨m0, m1, m2, m3, m4, m5, m6, m7, m8, m9⟩ := kK12.cells10
  have fr9 := kK12.frozen 9
  obtain ⟨W13, hW13⟩ : ∃ W13, W13 = (W12.setCell ⟨W2.heap.size, 9, none⟩ (.int .i64 n2)) := ⟨_, rfl⟩
  have HG13 := hid (show W12.grownBy W13 (some W2.heap.size) by rw [hW13]; exact (grown_set (grown_refl W12 (some W2.heap.size)) 9 (.int .i64 n2)))
  have kK13 : Blk W13 W2.heap.size 39 #[.int .i64 k.o, .int .i64 k.l, .int .i64 k.m, .slice Aq k.ps.length cq, .int .i64 k.base, .int .i64 k.last, .string Bt, .int .i64 n0, .int .i64 n1, .int .i64 n2] := by rw [hW13]; exact (kK12.set_ 9 (.int .i64 n2))
  have kf13 := kf12.grown HG13.out (by simp; omega)
  have kZ13 := kZ12.grown HG13.out (by simp; omega)
  have c13 := c12.trans (below_of_grown HG13.out c12.size (fun g e => by cases e; omega))
  have hN13 := Nat.le_trans hN12 HG13.out.size
  have hown13 := hown12.kept HG13.out (by
    cases hv : (Value.slice Aq k.ps.length cq).ownBlock with
    | none => exact .inl rfl
    | some g => exact .inr (fun e => by have := HLT.out g hv; injection e with e2; omega))
  clear kf12 kZ12 c12 HG13 kK12 hown12
  go_wp2_with fail
  rw [← hW13]
  clear hW13 m0 m1 m2 m3 m4 m5 m6 m7 m8 m9 fr9
  refine (c_FormatReader_any k Aq cq W13.heap.size Bt n0 n1 n2 W13 (own_ps_at hown13) (Nat.le_refl _) hBz (pkn_wf HPK.out) hr2 (HTAB.out.on c13)).mono ?_
  rintro e W14 ⟨rfl, hb⟩
  have kK14 := kK13.on hb
  have kf14 := kf13.on hb
  have kZ14 := kZ13.on hb
  have c14 := c13.trans (hb.mono c13.size)
  have hN14 := Nat.le_trans hN13 hb.size
  have hown14 := own_on hown13 hb
  clear hb kK13 kf13 kZ13 c13 hN13 hown13
  obtain ⟨X, hX⟩ : ∃ X, X = rdV k Bt n0 n1 n2 := ⟨_, rfl⟩
  have HKO := hid (rd_is HP.out (kn_is HPK.out) HBT.out HN0.out HN1.out HN2.out)
  rw [← hX]
  have HX := hid hX
  have hownF := own_mono (B' := w.heap.size) hown14 (by omega)
  clear hX hown14
  by_cases he : X = T
  · have he1 : (X.toList == T.toList) = true := by rw [he]; simp
    have HR := hid (prd_yes HT0.out HKO.out (HX.out.symm.trans he))
    have HOW := hid (hownF.kept (gr10k (grown_refl W14 (some w.heap.size)) (.int .i64 k.o) (.int .i64 k.l) (.int .i64 k.m) (.slice Aq k.ps.length cq) (.int .i64 k.base) (.int .i64 k.last) (.string Bt) (.int .i64 n0) (.int .i64 n1) (.int .i64 n2)) (by
      cases hv : (Value.slice Aq k.ps.length cq).ownBlock with
      | none => exact .inl rfl
      | some g => exact .inr (fun e => by have := HLT.out g hv; injection e with e2; omega)))
    clear he hownF
    obtain ⟨m0, m1, m2, m3, m4, m5, m6, m7, m8, m9⟩ := kK14.cells10
    obtain ⟨zc0, zc1, zc2, zc3, zc4, zc5, zc6, zc7, zc8, zc9⟩ := kZ14.cells10
    have fz0 := kZ14.frozen 0
    have fz1 := kZ14.frozen 1
    have fz2 := kZ14.frozen 2
    have fz3 := kZ14.frozen 3
    have fz4 := kZ14.frozen 4
    have fz5 := kZ14.frozen 5
    have fz6 := kZ14.frozen 6
    have fz7 := kZ14.frozen 7
    have fz8 := kZ14.frozen 8
    have fz9 := kZ14.frozen 9
    obtain ⟨j0, j1, j2, j3, j4, j5, j6, j7, j8, j9⟩ := (kZ14.put10 (.int .i64 k.o) (.int .i64 k.l) (.int .i64 k.m) (.slice Aq k.ps.length cq) (.int .i64 k.base) (.int .i64 k.last) (.string Bt) (.int .i64 n0) (.int .i64 n1) (.int .i64 n2)).cells10
    have HG := hid (gr10k (grown_refl W14 (some w.heap.size)) (.int .i64 k.o) (.int .i64 k.l) (.int .i64 k.m) (.slice Aq k.ps.length cq) (.int .i64 k.base) (.int .i64 k.last) (.string Bt) (.int .i64 n0) (.int .i64 n1) (.int .i64 n2))
    have HBB := hid (c14.trans (below_of_grown HG.out c14.size (fun g e => by cases e; exact Nat.le_refl _)))
    clear kZ14
    go_wp2
    (try simp only [Exit.inBlock, Exit.then])
    exact bodyPost_ret (v := .tuple #[.agg #[.int .i64 k.o, .int .i64 k.l, .int .i64 k.m, .slice Aq k.ps.length cq, .int .i64 k.base, .int .i64 k.last, .string Bt, .int .i64 n0, .int .i64 n1, .int .i64 n2], .bool true]) (by simp [results, Tryz.results18, go_sem, j0, j1, j2, j3, j4, j5, j6, j7, j8, j9]) rfl ⟨k, Bt, n0, n1, n2, true, Aq, cq, ⟨HR.out, hql⟩, rfl, HOW.out, HBB.out⟩
  · have he1 : (X.toList == T.toList) = false := bytes_ne he
    have HR := hid (prd_no HKO.out (fun h => he (HX.out.trans h)))
    clear he
    obtain ⟨m0, m1, m2, m3, m4, m5, m6, m7, m8, m9⟩ := kK14.cells10
    obtain ⟨zc0, zc1, zc2, zc3, zc4, zc5, zc6, zc7, zc8, zc9⟩ := kZ14.cells10
    have fz0 := kZ14.frozen 0
    have fz1 := kZ14.frozen 1
    have fz2 := kZ14.frozen 2
    have fz3 := kZ14.frozen 3
    have fz4 := kZ14.frozen 4
    have fz5 := kZ14.frozen 5
    have fz6 := kZ14.frozen 6
    have fz7 := kZ14.frozen 7
    have fz8 := kZ14.frozen 8
    have fz9 := kZ14.frozen 9
    obtain ⟨j0, j1, j2, j3, j4, j5, j6, j7, j8, j9⟩ := (kZ14.put10 (.int .i64 0) (.int .i64 0) (.int .i64 0) (.slice none 0 0) (.int .i64 0) (.int .i64 0) (.string ⟨#[]⟩) (.int .i64 0) (.int .i64 0) (.int .i64 0)).cells10
    have HG := hid (gr10k (grown_refl W14 (some w.heap.size)) (.int .i64 0) (.int .i64 0) (.int .i64 0) (.slice none 0 0) (.int .i64 0) (.int .i64 0) (.string ⟨#[]⟩) (.int .i64 0) (.int .i64 0) (.int .i64 0))
    have HBB := hid (c14.trans (below_of_grown HG.out c14.size (fun g e => by cases e; exact Nat.le_refl _)))
    clear kZ14
    go_wp2
    (try simp only [Exit.inBlock, Exit.then])
    exact bodyPost_ret (v := .tuple #[.agg #[.int .i64 0, .int .i64 0, .int .i64 0, .slice none 0 0, .int .i64 0, .int .i64 0, .string ⟨#[]⟩, .int .i64 0, .int .i64 0, .int .i64 0], .bool false]) (by simp [results, Tryz.results18, go_sem, j0, j1, j2, j3, j4, j5, j6, j7, j8, j9]) rfl ⟨kn0, ⟨#[]⟩, 0, 0, 0, false, none, 0, ⟨HR.out, by simp [kn0]⟩, rfl, own_ps_nil _ _ _, HBB.out⟩

end Go.Proofs.YtmfnfheahehpcaaGreatDoor
