/- ParseOp in the program. -/
import Derived.Test.YtaiemogcboidhaaGreatDoorLi
import Derived.Deep.MidRow
namespace Go.Proofs.YtaiemogcboidhaaGreatDoor
open Go.ChangeShapes Go.WideShapes Go.ChangeAt Go.RowKit Go.Joins
set_option linter.unusedVariables false
set_option linter.unusedSimpArgs false

theorem bel_put6 {w v : World} {N : Nat} (h : Below w.heap.size w v) (hN : w.heap.size ≤ N) (a b c d e f : Value) : Below w.heap.size w ((((((v.setCell ⟨N, 0, none⟩ a).setCell ⟨N, 1, none⟩ b).setCell ⟨N, 2, none⟩ c).setCell ⟨N, 3, none⟩ d).setCell ⟨N, 4, none⟩ e).setCell ⟨N, 5, none⟩ f) :=
  bel_set (bel_set (bel_set (bel_set (bel_set (bel_set h hN _) hN _) hN _) hN _) hN _) hN _
/-- the forms, as one array of values -/
def FV : Array Value := #[.string ⟨#[112, 117, 116]⟩, .bool false, .bool true, .bool true, .string ⟨#[97, 112, 112, 101, 110, 100]⟩, .bool false, .bool true, .bool true, .string ⟨#[114, 101, 112, 108, 97, 99, 101]⟩, .bool true, .bool true, .bool true, .string ⟨#[109, 101, 114, 103, 101]⟩, .bool false, .bool true, .bool false, .string ⟨#[100, 101, 108, 101, 116, 101]⟩, .bool false, .bool false, .bool false]
/-- the form of a kind -/
def fcs (a : Nat) : Array Value := #[.string (wdOf a), .bool (decide (a = 2)), .bool (decide (a ≠ 4)), .bool (decide (a < 3))]
set_option maxRecDepth 100000 in
theorem idx_forms (a : Nat) (ha : a < 5) (W : World) : (Instr.index 41 (.agg FV) (.int .i64 (a : Int))).run Tryz.prog W = .ok (.agg (fcs a)) W := by
  have hC : a = 0 ∨ a = 1 ∨ a = 2 ∨ a = 3 ∨ a = 4 := by omega
  rcases hC with rfl | rfl | rfl | rfl | rfl <;> simp [Instr.index, run_underlying Tryz.underlying41, asIntOf, go_sem, FV, fcs, wdOf] <;> rfl
theorem wl_forms {ops : Array Oper} {rest : List Oper} {op : Oper} {a : Act} {w : World} {Q : Exit → Act → World → Prop} (h : Frm w) (ho : op.op = .load 41 (.global 0)) (hgd : op.guard = none)
    (hk : ∀ fv, Hid (fv = FV) → wpList Tryz.prog ops Q rest (a.put op.dst (.agg fv)) w) : wpList Tryz.prog ops Q (op :: rest) a w := by
  obtain ⟨ft, h⟩ := h
  have hb : Blk w 0 ft FV := h
  exact wpList_load_mid hgd 41 (.global 0) ho 0 0 rfl FV.toList _ (fun j v hv => by
    rw [Nat.zero_add]
    exact (hb.cell j).trans (by simpa using hv)) Tryz.underlying41 rfl (by kernel_rfl) (hk _ (hid rfl))
theorem c_op (a : Nat) (ha : a < 5) (w0 w : World) (R : Nat) (l : List ByteArray) (hb : Below w0.heap.size w0 w) (hR : w0.heap.size ≤ R) (hE : ErrAt w0) (hFm : Frm w0) (hl : ∀ x ∈ l, x.size ≤ 1048576) (h : RdAt w R l) :
    Calls Tryz.prog 30 #[.pointer (some ⟨R, 0, none⟩), .int .i64 (a : Int)] w fun e w' => (∃ (nm : ByteArray) (f t z : Int) (d : ByteArray), e = .returned (.agg #[.int .i64 (a : Int), .string nm, .int .i64 f, .int .i64 t, .int .i64 z, .string d]) ∧ (-9223372036854775808 ≤ f ∧ f ≤ 9223372036854775807) ∧ (-9223372036854775808 ≤ t ∧ t ≤ 9223372036854775807) ∧ nm.size ≤ 1048576 ∧ d.size ≤ 4000 ∧ OpRd a l nm f t z d) ∧ w.grownBy w' (some R) := by
  have hC : a = 0 ∨ a = 1 ∨ a = 2 ∨ a = 3 ∨ a = 4 := by omega
  rcases hC with rfl | rfl | rfl | rfl | rfl
  · exact c_op_0 w0 w R l hb hR hE hFm hl h
  · exact c_op_1 w0 w R l hb hR hE hFm hl h
  · exact c_op_2 w0 w R l hb hR hE hFm hl h
  · exact c_op_3 w0 w R l hb hR hE hFm hl h
  · exact c_op_4 w0 w R l hb hR hE hFm hl h

set_option maxHeartbeats 8000000 in
set_option maxRecDepth 100000 in
theorem c_ParseOp (T : ByteArray) (w : World) (ht : T.size ≤ 1048576) (hE : ErrAt w) (mm : Int) (hm : w.cell? ⟨2, 0, none⟩ = some (.int .i64 mm)) (hTab : Tab w) (hLy : Lay w) (hFm : Frm w) : Calls Tryz.prog 9 #[.string T] w fun e w' => POp T e ∧ Below w.heap.size w w' := by
  go_enter Tryz.func9, Tryz.ntmps9
  go_wp2_with fail
  obtain ⟨N, hN⟩ : ∃ N, N = w.heap.size := ⟨_, rfl⟩
  have hNw : w.heap.size ≤ N := by omega
  obtain ⟨W1, hW1⟩ : ∃ W1, W1 = w.alloc (.cells #[.int .i64 0, .string ⟨#[]⟩, .int .i64 0, .int .i64 0, .int .i64 0, .string ⟨#[]⟩] 24) := ⟨_, rfl⟩
  rw [← hN, ← hW1]
  have k1 : Blk W1 N 24 #[.int .i64 0, .string ⟨#[]⟩, .int .i64 0, .int .i64 0, .int .i64 0, .string ⟨#[]⟩] := by rw [hW1, hN]; exact Blk.new w _ _
  have c1 : Below w.heap.size w W1 := by rw [hW1]; exact bel_alloc (Below.refl _ _) _
  clear hN hW1
  refine (c_SplitN 32 7 T W1 ht (by omega) (by omega) mm (cell_kept hm c1)).mono ?_
  rintro e W2 ⟨l, cap, hl1, hl4, hlc, hc4, hsz, hcut, hemp, rfl, hW2⟩
  obtain ⟨F, hF⟩ : ∃ F, F = W1.heap.size := ⟨_, rfl⟩
  have hNF : N < F := by rw [hF]; exact k1.lt
  rw [← hF]
  have k2 : Blk W2 N 24 #[.int .i64 0, .string ⟨#[]⟩, .int .i64 0, .int .i64 0, .int .i64 0, .string ⟨#[]⟩] := by rw [hW2]; exact k1.alloc _
  have kf : Blk W2 F 9 (Lib.cellsOf l cap) := by rw [hW2, hF]; exact Blk.new W1 _ _
  have c2 : Below w.heap.size w W2 := by rw [hW2]; exact bel_alloc c1 _
  have HP := hid (opl_cut hcut)
  have HNE := hid (show gx l 0 ≠ ByteArray.empty → ¬ T = ByteArray.empty from fun hn e => hn (by rw [hemp e]; rfl))
  have HSZ := hid (show ∀ x ∈ l, x.size ≤ 1048576 from fun x hx => Nat.le_trans (hsz x hx) ht)
  clear hW2 hF k1 c1 hcut hemp hsz hm
  obtain ⟨n, hn⟩ : ∃ n, n = l.length := ⟨_, rfl⟩
  rw [← hn]
  have Hn := hid hn
  rw [← hn] at hl1 hl4 hlc
  clear hn
  go_wp2_with fail
  obtain ⟨R, hR⟩ : ∃ R, R = W2.heap.size := ⟨_, rfl⟩
  obtain ⟨W3, hW3⟩ : ∃ W3, W3 = W2.alloc (.cells #[.slice (some ⟨F, 0, none⟩) n cap] 57) := ⟨_, rfl⟩
  rw [← hR, ← hW3]
  have hFR : F < R := by rw [hR]; exact kf.lt
  have hr3 : RdAt W3 R l := by
    refine ⟨some ⟨F, 0, none⟩, cap, ?_, by rw [← Hn.out]; exact hlc, by omega, fun _ => ⟨F, 0, _, rfl, hFR, ?_, fun i p hi => by rw [Nat.zero_add]; exact cells_of_at l cap i p hi⟩⟩
    · rw [hW3, hR, ← Hn.out]; exact Blk.new W2 _ _
    · rw [hW3]; exact kf.alloc _
  have k3 : Blk W3 N 24 #[.int .i64 0, .string ⟨#[]⟩, .int .i64 0, .int .i64 0, .int .i64 0, .string ⟨#[]⟩] := by rw [hW3]; exact k2.alloc _
  have c3 : Below w.heap.size w W3 := by rw [hW3]; exact bel_alloc c2 _
  have hwR : w.heap.size ≤ R := by omega
  clear hW3 hR kf k2 c2
  refine (c_text W3 R l hr3).mono ?_
  rintro e W4 ⟨rfl, hr4, hg4⟩
  have k4 : Blk W4 N 24 #[.int .i64 0, .string ⟨#[]⟩, .int .i64 0, .int .i64 0, .int .i64 0, .string ⟨#[]⟩] := k3.grown hg4 (by simp; omega)
  have c4 : Below w.heap.size w W4 := c3.trans (below_of_grown hg4 c3.size (fun g e => by cases e; exact hwR))
  obtain ⟨wd, hwd⟩ : ∃ wd, wd = gx l 0 := ⟨_, rfl⟩
  rw [← hwd]
  have HWD := hid hwd
  clear hwd k3 c3 hg4 hr3
  have HLT := hid (show ∀ x ∈ l.tail, x.size ≤ 1048576 from fun x hx => HSZ.out x (List.mem_of_mem_tail hx))
  have hNR : N < R := by omega
  have hF4 := hFm.on c4
  go_wp2_with (refine wl_forms hF4 rfl rfl ?_; intro fv HFV)
  clear hF4
  have HIX := hid (show ∀ (a : Nat), a < 5 → ∀ W : World, (Instr.index 41 (.agg fv) (.int .i64 (a : Int))).run Tryz.prog W = .ok (.agg (fcs a)) W from fun a ha W => by rw [HFV.out]; exact idx_forms a ha W)
  clear HFV
  go_loopw [16] (fun iv wr => ∃ a : Nat, a ≤ 5 ∧ iv = .int .i64 a ∧ Hid (∀ j : Nat, j < a → wd ≠ wdOf j) ∧ Blk wr N 24 #[.int .i64 0, .string ⟨#[]⟩, .int .i64 0, .int .i64 0, .int .i64 0, .string ⟨#[]⟩] ∧ RdAt wr R l.tail ∧ Below w.heap.size w wr) (fun iv _ => (5 - intOf iv).toNat)
  case atStart => exact ⟨0, by omega, rfl, hid (fun j hj => by omega), k4, hr4, c4⟩
  case round =>
    clear k4 hr4 c4
    obtain ⟨a, ha, rfl, HA, kN, hr, hbl⟩ := hrel
    by_cases hlt : a < 5
    · have hix := HIX.out a hlt
      obtain ⟨wa, hwa⟩ : ∃ wa, wa = wdOf a := ⟨_, rfl⟩
      obtain ⟨ba, hba⟩ : ∃ b, b = decide (a = 2) := ⟨_, rfl⟩
      obtain ⟨bb, hbb⟩ : ∃ b, b = decide (a ≠ 4) := ⟨_, rfl⟩
      obtain ⟨bc, hbc⟩ : ∃ b, b = decide (a < 3) := ⟨_, rfl⟩
      rw [fcs, ← hwa, ← hba, ← hbb, ← hbc] at hix
      have HWA := hid hwa
      clear hwa hba hbb hbc
      have hai : (a : Int) < 5 := by omega
      by_cases he : wa = wd
      · have he1 : (wa.toList == wd.toList) = true := by rw [he]; simp
        have HWE := hid (show gx l 0 = wdOf a from HWD.out.symm.trans (he.symm.trans HWA.out))
        have HNT := hid (show ¬ T = ByteArray.empty from HNE.out (by
          rw [HWE.out]
          intro e9
          have e8 := congrArg (fun x : ByteArray => x.size) e9
          have hC : a = 0 ∨ a = 1 ∨ a = 2 ∨ a = 3 ∨ a = 4 := by omega
          rcases hC with rfl | rfl | rfl | rfl | rfl <;> exact absurd e8 (by decide)))
        have hNlt := kN.lt
        have hRlt := hr.lt
        have HO := hid (fun (v : World) (hb : Below w.heap.size w v) (hr : RdAt v R l.tail) => c_op a hlt w v R l.tail hb hwR hE hFm HLT.out hr)
        have HKN := hid kN
        have HR := hid hr
        have HB := hid hbl
        clear kN hr hbl HA HIX he
        go_wp2_with fail
        refine (HO.out _ (bel_alloc HB.out _) (HR.out.alloc _)).mono ?_
        rintro e V1 ⟨⟨nm, f, t, z, d, rfl, hf, ht2, hnz, hdz, hrd⟩, hg1⟩
        have kN1 : Blk V1 N 24 #[.int .i64 0, .string ⟨#[]⟩, .int .i64 0, .int .i64 0, .int .i64 0, .string ⟨#[]⟩] := (HKN.out.alloc _).grown hg1 (by simp; omega)
        have hB1 : Below w.heap.size w V1 := (bel_alloc HB.out _).trans (below_of_grown hg1 (bel_alloc HB.out _).size (fun g e => by cases e; exact hwR))
        have HRD := hid hrd
        clear hrd hg1 HO HKN HR HB
        have HFm := hid (fun (v : World) (hb : Below w.heap.size w v) => c_FormatOp a nm f t z d v hnz (by omega) hf ht2 (hLy.on hb) (hFm.on hb) (hTab.on hb))
        obtain ⟨V, hV⟩ : ∃ V, V = opT a nm f t z d := ⟨_, rfl⟩
        rw [← hV] at HFm
        have HV := hid hV
        clear hV
        go_wp2_with fail
        obtain ⟨Q, hQ⟩ : ∃ Q, Q = V1.heap.size := ⟨_, rfl⟩
        obtain ⟨V2, hV2⟩ : ∃ V2, V2 = V1.alloc (.cells #[.int .i64 (a : Int), .string nm, .int .i64 f, .int .i64 t, .int .i64 z, .string d] 24) := ⟨_, rfl⟩
        rw [← hQ, ← hV2]
        have hNQ : N < Q := by rw [hQ]; exact kN1.lt
        have kQ2 : Blk V2 Q 24 #[.int .i64 (a : Int), .string nm, .int .i64 f, .int .i64 t, .int .i64 z, .string d] := by rw [hV2, hQ]; exact Blk.new V1 _ _
        have kN2 : Blk V2 N 24 #[.int .i64 0, .string ⟨#[]⟩, .int .i64 0, .int .i64 0, .int .i64 0, .string ⟨#[]⟩] := by rw [hV2]; exact kN1.alloc _
        have hB2 : Below w.heap.size w V2 := by rw [hV2]; exact bel_alloc hB1 _
        clear hQ hV2 kN1 hB1
        refine (HFm.out _ hB2).mono ?_
        rintro e V3 ⟨rfl, hb3⟩
        have kQ3 := kQ2.on hb3
        have kN3 := kN2.on hb3
        have hB3 := bel_trans hB2 hb3
        clear kQ2 kN2 hB2 hb3
        obtain ⟨p0, p1, p2, p3, p4, p5⟩ := kQ3.cells6
        obtain ⟨q0, q1, q2, q3, q4, q5⟩ := kN3.cells6
        have g0 := kN3.frozen 0
        have g1 := kN3.frozen 1
        have g2 := kN3.frozen 2
        have g3 := kN3.frozen 3
        have g4 := kN3.frozen 4
        have g5 := kN3.frozen 5
        by_cases hVT : V = T
        · have hv1 : (V.toList == T.toList) = true := by rw [hVT]; simp
          have HRS := hid (pop_yes HNT.out (HV.out.symm.trans hVT))
          clear hVT
          have K9 := kN3.put6o (.int .i64 (a : Int)) (.string nm) (.int .i64 f) (.int .i64 t) (.int .i64 z) (.string d)
          obtain ⟨j0, j1, j2, j3, j4, j5⟩ := K9.cells6
          have HB9 := hid (bel_put6 hB3 hNw (.int .i64 (a : Int)) (.string nm) (.int .i64 f) (.int .i64 t) (.int .i64 z) (.string d))
          clear K9
          go_wp2
          (try simp only [Exit.inBlock, Exit.then])
          exact bodyPost_ret (v := .tuple #[.agg #[.int .i64 (a : Int), .string nm, .int .i64 f, .int .i64 t, .int .i64 z, .string d], .bool true]) (by simp [results, Tryz.results9, go_sem, j0, j1, j2, j3, j4, j5]) rfl ⟨HRS.out, HB9.out⟩
        · have hv1 : (V.toList == T.toList) = false := bytes_neI hVT
          have HRS := hid (pop_no (k := a) (by omega) HP.out HWE.out HRD.out (fun h => hVT (HV.out.trans h)))
          clear hVT
          have K9 := kN3.put6o (.int .i64 0) (.string ⟨#[]⟩) (.int .i64 0) (.int .i64 0) (.int .i64 0) (.string ⟨#[]⟩)
          obtain ⟨j0, j1, j2, j3, j4, j5⟩ := K9.cells6
          have HB9 := hid (bel_put6 hB3 hNw (.int .i64 0) (.string ⟨#[]⟩) (.int .i64 0) (.int .i64 0) (.int .i64 0) (.string ⟨#[]⟩))
          clear K9
          go_wp2
          (try simp only [Exit.inBlock, Exit.then])
          exact bodyPost_ret (v := .tuple #[.agg #[.int .i64 0, .string ⟨#[]⟩, .int .i64 0, .int .i64 0, .int .i64 0, .string ⟨#[]⟩], .bool false]) (by simp [results, Tryz.results9, go_sem, j0, j1, j2, j3, j4, j5]) rfl ⟨HRS.out, HB9.out⟩
      · have he1 : (wa.toList == wd.toList) = false := bytes_neI he
        have HA2 := hid (show ∀ j : Nat, j < a + 1 → wd ≠ wdOf j from fun j hj => by
          by_cases hja : j < a
          · exact HA.out j hja
          · have : j = a := by omega
            subst this
            exact fun e => he (HWA.out.trans e.symm))
        have HKN := hid (kN.alloc (.cells #[.string wa, .bool ba, .bool bb, .bool bc] 40))
        have HR := hid (hr.alloc (.cells #[.string wa, .bool ba, .bool bb, .bool bc] 40))
        have HB := hid (bel_alloc hbl (.cells #[.string wa, .bool ba, .bool bb, .bool bc] 40))
        clear kN hr hbl HA he
        go_wp2
        go_roundw
        case rel => exact ⟨a + 1, by omega, by go_num, HA2, HKN.out, HR.out, HB.out⟩
        case measure => simp [intOf]; omega
    · have hai : ¬ (a : Int) < 5 := by omega
      have HRS := hid (pop_word HP.out (fun k h0 h5 => by
        have := HA.out k.toNat (by omega)
        rw [HWD.out] at this
        rwa [show ((k.toNat : Nat) : Int) = k from by omega] at this))
      obtain ⟨q0, q1, q2, q3, q4, q5⟩ := kN.cells6
      have g0 := kN.frozen 0
      have g1 := kN.frozen 1
      have g2 := kN.frozen 2
      have g3 := kN.frozen 3
      have g4 := kN.frozen 4
      have g5 := kN.frozen 5
      have K9 := kN.put6o (.int .i64 0) (.string ⟨#[]⟩) (.int .i64 0) (.int .i64 0) (.int .i64 0) (.string ⟨#[]⟩)
      obtain ⟨j0, j1, j2, j3, j4, j5⟩ := K9.cells6
      have HB9 := hid (bel_put6 hbl hNw (.int .i64 0) (.string ⟨#[]⟩) (.int .i64 0) (.int .i64 0) (.int .i64 0) (.string ⟨#[]⟩))
      clear K9 HA HIX
      go_wp2
      (try simp only [Exit.inBlock, Exit.then])
      exact bodyPost_ret (v := .tuple #[.agg #[.int .i64 0, .string ⟨#[]⟩, .int .i64 0, .int .i64 0, .int .i64 0, .string ⟨#[]⟩], .bool false]) (by simp [results, Tryz.results9, go_sem, j0, j1, j2, j3, j4, j5]) rfl ⟨HRS.out, HB9.out⟩
end Go.Proofs.YtaiemogcboidhaaGreatDoor
