/- The contracts of learn in the program. No condition but that the numbers are int's. -/
import Derived.Test.YtblmifbpoopbdaaLn
import Derived.Test.YtblmifbpoopbdaaGt
namespace Go.Proofs.Ytblmifbpoopbdaa
open Go.ChangeShapes Go.WideShapes Go.ChangeAt Go.RowKit Go.Joins
set_option linter.unusedVariables false

theorem c_learn_no (k : Kn) (A : Option Addr) (cap L : Nat) (w : World) (h : PsAt w L A cap k.ps) (hL : L ≤ w.heap.size) (D : ByteArray) (hs : D.size ≤ maxLen) (hk : ¬ FitsOk k D) (hw : k.Wf) : Calls Try.prog 148 #[.agg #[.int .i64 k.o, .int .i64 k.l, .int .i64 k.m, .slice A k.ps.length cap, .int .i64 k.base, .int .i64 k.last], .string D] w fun e w' => e = .returned (.tuple #[.agg #[.int .i64 0, .int .i64 0, .int .i64 0, .slice none 0 0, .int .i64 0, .int .i64 0], .int .i64 0, .bool false]) ∧ Below w.heap.size w w' := by
  have hB0 : Below w.heap.size w ((w.alloc (.cells #[.int .i64 k.o, .int .i64 k.l, .int .i64 k.m, .slice A k.ps.length cap, .int .i64 k.base, .int .i64 k.last] 27)).alloc (.cells #[.int .i64 0, .int .i64 0, .int .i64 0, .slice none 0 0, .int .i64 0, .int .i64 0] 27)) := by (repeat (first | with_reducible (first | assumption | exact Below.refl _ _ | refine bel_alloc ?_ _ | refine bel_drew ?_ | refine bel_drewN ?_ _ | refine bel_set ?_ (by first | omega | (simp; done) | (simp; omega)) _ | refine bel_trans ?_ (by assumption)) | assumption | refine bel_trans ?_ (by assumption)))
  have HZ := hid (Blk.top w (.cells #[.int .i64 k.o, .int .i64 k.l, .int .i64 k.m, .slice A k.ps.length cap, .int .i64 k.base, .int .i64 k.last] 27) 27 #[.int .i64 0, .int .i64 0, .int .i64 0, .slice none 0 0, .int .i64 0, .int .i64 0])
  have HKN := hid ((Blk.new w 27 #[.int .i64 k.o, .int .i64 k.l, .int .i64 k.m, .slice A k.ps.length cap, .int .i64 k.base, .int .i64 k.last]).alloc (.cells #[.int .i64 0, .int .i64 0, .int .i64 0, .slice none 0 0, .int .i64 0, .int .i64 0] 27))
  by_cases h1 : k.Ok
  · have hf : dataFits k.o k.l k.m D = false := by
      cases hq : dataFits k.o k.l k.m D with
      | false => rfl
      | true => exact absurd ⟨h1, hq⟩ hk
    have HV := hid (fun (v : World) (hb : Below w.heap.size w v) => c_KnownValid_yes k A cap L v (h.below hb hL) (Nat.le_trans hL hb.size) h1 hw)
    have HD := hid (fun (v : World) => c_DataFits k.o k.l k.m D v hs)
    simp only [hf] at HD
    clear h hk hw hf h1
    obtain ⟨p0, p1, p2, p3, p4, p5⟩ := HKN.out.cells6
    go_enter Try.func148, Try.ntmps148
    go_wp2_with fail
    refine (HV.out _ hB0).mono ?_
    rintro e w1 ⟨rfl, hb1⟩
    have HK1 := hid (HKN.out.on hb1)
    clear p0 p1 p2 p3 p4 p5
    obtain ⟨p0, p1, p2, p3, p4, p5⟩ := HK1.out.cells6
    go_wp2_with fail
    refine (HD.out _).mono ?_
    rintro e w2 ⟨rfl, hb2⟩
    have hB2 := bel_trans (bel_trans hB0 hb1) hb2
    have HZ2 := hid ((HZ.out.on hb1).on hb2)
    clear p0 p1 p2 p3 p4 p5
    obtain ⟨p0, p1, p2, p3, p4, p5⟩ := HZ2.out.cells6
    obtain ⟨q0, q1, q2, q3, q4, q5⟩ := HZ2.out.free6
    have HZ3 := hid (HZ2.out.put6 (.int .i64 0) (.int .i64 0) (.int .i64 0) (.slice none 0 0) (.int .i64 0) (.int .i64 0))
    obtain ⟨z0, z1, z2, z3, z4, z5⟩ := HZ3.out.cells6
    go_wp2
    exact bodyPost_ret (v := .tuple #[.agg #[.int .i64 0, .int .i64 0, .int .i64 0, .slice none 0 0, .int .i64 0, .int .i64 0], .int .i64 0, .bool false]) (by simp [results, Try.results148, go_sem, z0, z1, z2, z3, z4, z5]) rfl ⟨rfl, bel_put6 hB2 (by omega) _ _ _ _ _ _⟩
  · have HV := hid (fun (v : World) (hb : Below w.heap.size w v) => c_KnownValid_no k A cap L v (h.below hb hL) (Nat.le_trans hL hb.size) h1 hw)
    clear h hk hw h1
    obtain ⟨p0, p1, p2, p3, p4, p5⟩ := HKN.out.cells6
    go_enter Try.func148, Try.ntmps148
    go_wp2_with fail
    refine (HV.out _ hB0).mono ?_
    rintro e w1 ⟨rfl, hb1⟩
    have hB2 := bel_trans hB0 hb1
    have HZ2 := hid (HZ.out.on hb1)
    clear p0 p1 p2 p3 p4 p5
    obtain ⟨p0, p1, p2, p3, p4, p5⟩ := HZ2.out.cells6
    obtain ⟨q0, q1, q2, q3, q4, q5⟩ := HZ2.out.free6
    have HZ3 := hid (HZ2.out.put6 (.int .i64 0) (.int .i64 0) (.int .i64 0) (.slice none 0 0) (.int .i64 0) (.int .i64 0))
    obtain ⟨z0, z1, z2, z3, z4, z5⟩ := HZ3.out.cells6
    go_wp2
    exact bodyPost_ret (v := .tuple #[.agg #[.int .i64 0, .int .i64 0, .int .i64 0, .slice none 0 0, .int .i64 0, .int .i64 0], .int .i64 0, .bool false]) (by simp [results, Try.results148, go_sem, z0, z1, z2, z3, z4, z5]) rfl ⟨rfl, bel_put6 hB2 (by omega) _ _ _ _ _ _⟩

set_option maxHeartbeats 4000000 in
set_option maxRecDepth 100000 in
theorem c_learn_yes (k : Kn) (A : Option Addr) (cap L : Nat) (w : World) (h : PsAt w L A cap k.ps) (hL : L ≤ w.heap.size) (D : ByteArray) (hk : FitsOk k D) (hw : k.Wf) : Calls Try.prog 148 #[.agg #[.int .i64 k.o, .int .i64 k.l, .int .i64 k.m, .slice A k.ps.length cap, .int .i64 k.base, .int .i64 k.last], .string D] w fun e w' => ∃ A' cap' te, e = .returned (.tuple #[.agg #[.int .i64 (k.learned D.data.toList).o, .int .i64 (k.learned D.data.toList).l, .int .i64 (k.learned D.data.toList).m, .slice A' (k.learned D.data.toList).ps.length cap', .int .i64 (k.learned D.data.toList).base, .int .i64 (k.learned D.data.toList).last], .int .i64 te, .bool true]) ∧ w'.ownsRow w.heap.size 182 2 (.slice A' (k.learned D.data.toList).ps.length cap') (k.learned D.data.toList).ps.length (prs (k.learned D.data.toList).ps) ∧ Below w.heap.size w w' := by
  have hB0 : Below w.heap.size w ((w.alloc (.cells #[.int .i64 k.o, .int .i64 k.l, .int .i64 k.m, .slice A k.ps.length cap, .int .i64 k.base, .int .i64 k.last] 27)).alloc (.cells #[.int .i64 0, .int .i64 0, .int .i64 0, .slice none 0 0, .int .i64 0, .int .i64 0] 27)) := by (repeat (first | with_reducible (first | assumption | exact Below.refl _ _ | refine bel_alloc ?_ _ | refine bel_drew ?_ | refine bel_drewN ?_ _ | refine bel_set ?_ (by first | omega | (simp; done) | (simp; omega)) _ | refine bel_trans ?_ (by assumption)) | assumption | refine bel_trans ?_ (by assumption)))
  have HZ := hid (Blk.top w (.cells #[.int .i64 k.o, .int .i64 k.l, .int .i64 k.m, .slice A k.ps.length cap, .int .i64 k.base, .int .i64 k.last] 27) 27 #[.int .i64 0, .int .i64 0, .int .i64 0, .slice none 0 0, .int .i64 0, .int .i64 0])
  have HKN := hid ((Blk.new w 27 #[.int .i64 k.o, .int .i64 k.l, .int .i64 k.m, .slice A k.ps.length cap, .int .i64 k.base, .int .i64 k.last]).alloc (.cells #[.int .i64 0, .int .i64 0, .int .i64 0, .slice none 0 0, .int .i64 0, .int .i64 0] 27))
  have HV := hid (fun (v : World) (hb : Below w.heap.size w v) => c_KnownValid_yes k A cap L v (h.below hb hL) (Nat.le_trans hL hb.size) hk.1 hw)
  have hDs := hk.lits.2
  have HD := hid (fun (v : World) => c_DataFits k.o k.l k.m D v (by unfold maxLen; omega))
  simp only [hk.2] at HD
  have HLt := hid hk.lits.1
  have HNF := hid (fun (v : World) (hb : Below w.heap.size w v) => c_newFinder k A cap L v hk.1 (h.below hb hL) (Nat.le_trans hL hb.size))
  have hset := hk.1.set
  have HCl := hid (fun (v : World) => c_ClearCode_yes k.o k.l k.m v hset)
  have HOk := hid hk.1
  have HST := hid (LI.start hk.1 D.data.toList)
  clear h hk hw hset
  obtain ⟨p0, p1, p2, p3, p4, p5⟩ := HKN.out.cells6
  go_enter Try.func148, Try.ntmps148
  go_wp2_with fail
  refine (HV.out _ hB0).mono ?_
  rintro e w1 ⟨rfl, hb1⟩
  have HK1 := hid (HKN.out.on hb1)
  clear p0 p1 p2 p3 p4 p5
  obtain ⟨p0, p1, p2, p3, p4, p5⟩ := HK1.out.cells6
  go_wp2_with fail
  refine (HD.out _).mono ?_
  rintro e w2 ⟨rfl, hb2⟩
  have hB2 := bel_trans (bel_trans hB0 hb1) hb2
  have HZ2 := hid ((HZ.out.on hb1).on hb2)
  have HK2 := hid (HK1.out.on hb2)
  clear p0 p1 p2 p3 p4 p5 hb1 hb2 hB0 HZ HKN HK1 HV HD
  obtain ⟨p0, p1, p2, p3, p4, p5⟩ := HK2.out.cells6
  go_wp2_with fail
  refine (HNF.out _ hB2).mono ?_
  rintro e w3 ⟨hb3, fb, A3, cap3, nb, cap2, N, Lo, bm, n, rfl, hn3, hF3⟩
  have HF3 := hid (show FAt w.heap.size fb k w3 from ⟨A3, cap3, nb, cap2, N, Lo, bm, n, hn3, hF3.low hB2.size⟩)
  have HZ3 := hid (HZ2.out.on hb3)
  have HK3 := hid (HK2.out.on hb3)
  have hB3 := bel_trans hB2 hb3
  clear p0 p1 p2 p3 p4 p5 hb3 hn3 hF3 hB2 HZ2 HK2 HNF
  obtain ⟨p0, p1, p2, p3, p4, p5⟩ := HK3.out.cells6
  go_wp2_with fail
  refine (HCl.out _).mono ?_
  rintro e w4 ⟨rfl, hb4⟩
  have HF4 := hid (HF3.out.on hb4)
  have HZ4 := hid (HZ3.out.on hb4)
  have hB4 := bel_trans hB3 hb4
  clear p0 p1 p2 p3 p4 p5 hb4 hB3 HZ3 HK3 HF3 HCl
  go_wp2_with fail
  refine (c_ffollow w.heap.size fb k w4 HOk.out hB4.size HF4.out (pow2 k.l) (Or.inl rfl)).mono ?_
  rintro e w5 ⟨rfl, hb5, hc5, hF5⟩
  have HF5 := hid hF5
  have eS : k.step (pow2 k.l) = k.cleared := Kn.step_clear k
  rw [eS] at HF5
  have HZ5 := hid (hc5 _ _ _ HZ4.out (by decide))
  have hB5 := hB4.trans hb5
  clear eS hF5 hc5 hb5 hB4 HZ4 HF4
  go_wp2_with fail
  go_loopw [8, 9] (fun u v wr => ∃ (s f te : Nat) (kk : Kn), u = .int .i64 (te : Int) ∧ v = .int .i64 (s : Int) ∧ s ≤ D.size ∧ te ≤ D.size ∧ Hid (LI k D.data.toList kk s f) ∧ Hid (FAt w.heap.size fb kk wr) ∧ Hid (Blk wr (w.heap.size + 1) 27 #[.int .i64 0, .int .i64 0, .int .i64 0, .slice none 0 0, .int .i64 0, .int .i64 0]) ∧ Below w.heap.size w wr) (fun _ v _ => D.size - (intOf v).toNat)
  case atStart => exact ⟨0, D.data.toList.length, 0, k.cleared, rfl, rfl, by omega, by omega, HST, HF5, HZ5, hB5⟩
  case round =>
    clear HST HF5 HZ5 hB5
    obtain ⟨s, f, te, kk, rfl, rfl, hs, hte, HI, HF, HZ, hbel⟩ := hrel
    have hDl : D.data.toList.length = D.size := len_toList D
    by_cases hlt : s < D.size
    · skip
      obtain ⟨A5, cp5, hkat⟩ := HF.out.kat
      have HGw := hid (c_grows fb kk A5 cp5 wr HI.out.ok hkat)
      clear hkat
      have hW := hid (HI.out.word HLt.out (by omega))
      obtain ⟨S, hS⟩ : ∃ S, S = D.extract s D.size := ⟨_, rfl⟩
      have HSd := hid (show S.data.toList = D.data.toList.drop s by rw [hS, cut_drop])
      have hSs : S.size = D.size - s := by
        have h1 := congrArg List.length HSd.out
        rw [len_toList, List.length_drop] at h1
        omega
      obtain ⟨g, hg⟩ : ∃ g, g = kk.lng (D.data.toList.drop s) := ⟨_, rfl⟩
      obtain ⟨x, hx⟩ : ∃ x, x = kk.code1 (D.data.toList.drop s) := ⟨_, rfl⟩
      have HLo := hid (fun (v : World) (hF : FAt w.heap.size fb kk v) => c_flongest w.heap.size fb kk S v HI.out.ok hF (by omega) (by omega) (HI.out.first HLt.out (b := S[0]) (by rw [← HSd.out, List.head?_eq_getElem?, dat0 S (by omega)])))
      simp only [HSd.out, ← hg, ← hx] at HLo
      simp only [← hg, ← hx] at hW
      have hg1 : 1 ≤ g := hW.out.2.1
      have hg2 : s + g ≤ D.size := by have := hW.out.2.2.1; omega
      have HFl := hid (fun (v : World) (hLv : w.heap.size ≤ v.heap.size) (hF : FAt w.heap.size fb kk v) => c_ffollow w.heap.size fb kk v HI.out.ok hLv hF x (Or.inr hW.out.1))
      have eS := Kn.step_fol HI.out.ok hW.out.1
      simp only [eS] at HFl
      obtain ⟨f', HI'⟩ : ∃ f', Hid (LI k D.data.toList (kk.after x) (s + g) f') := by
        obtain ⟨f', hf'⟩ := hW.out.2.2.2
        exact ⟨f', hid hf'⟩
      have HSe := hid hS
      have hS2 : D.extract s D.size = S := hS.symm
      clear hg hx hS eS hW hSs
      cases hgr : kk.grows with
      | true =>
        simp only [hgr] at HGw
        clear hgr
        go_wp2_with fail
        refine HGw.out.mono ?_
        rintro e wG ⟨rfl, hbG⟩
        replace HF := hid (HF.out.on hbG)
        replace HZ := hid (HZ.out.on hbG)
        replace hbel := bel_trans hbel hbG
        clear hbG HGw
        go_wp2_with fail
        refine (HLo.out _ HF.out).mono ?_
        rintro e wL ⟨rfl, hbL⟩
        replace HF := hid (HF.out.on hbL)
        replace HZ := hid (HZ.out.on hbL)
        replace hbel := bel_trans hbel hbL
        clear hbL HLo
        go_wp2_with fail
        refine (HFl.out _ hbel.size HF.out).mono ?_
        rintro e wF ⟨rfl, hbF, hcF, hFF⟩
        replace HF := hid hFF
        replace HZ := hid (hcF _ _ _ HZ.out (by decide))
        replace hbel := hbel.trans hbF
        clear hbF hcF hFF HFl
        go_wp2
        go_roundw
        case rel => exact ⟨s + g, f', s + 1, kk.after x, by go_num, by go_num, by omega, by omega, HI', HF, HZ, hbel⟩
        case measure => simp [intOf]; omega
      | false =>
        simp only [hgr] at HGw
        clear hgr
        go_wp2_with fail
        refine HGw.out.mono ?_
        rintro e wG ⟨rfl, hbG⟩
        replace HF := hid (HF.out.on hbG)
        replace HZ := hid (HZ.out.on hbG)
        replace hbel := bel_trans hbel hbG
        clear hbG HGw
        go_wp2_with fail
        refine (HLo.out _ HF.out).mono ?_
        rintro e wL ⟨rfl, hbL⟩
        replace HF := hid (HF.out.on hbL)
        replace HZ := hid (HZ.out.on hbL)
        replace hbel := bel_trans hbel hbL
        clear hbL HLo
        go_wp2_with fail
        refine (HFl.out _ hbel.size HF.out).mono ?_
        rintro e wF ⟨rfl, hbF, hcF, hFF⟩
        replace HF := hid hFF
        replace HZ := hid (hcF _ _ _ HZ.out (by decide))
        replace hbel := hbel.trans hbF
        clear hbF hcF hFF HFl
        go_wp2
        go_roundw
        case rel => exact ⟨s + g, f', te, kk.after x, by go_num, by go_num, by omega, by omega, HI', HF, HZ, hbel⟩
        case measure => simp [intOf]; omega
    · skip
      have hE := HI.out.done (by omega)
      have HE := hid hE
      obtain ⟨A5, cp5, nb5, cq5, N5, Lo5, bm5, n5, hn5, hQ5⟩ := HF.out
      have HQ := hid hQ5
      obtain ⟨u0, u1, u2, u3, u4, u5, u6, u7⟩ := hQ5.bx.cells8
      have g4 := hQ5.bx.frozen 4
      have HB1 := hid (hQ5.bx.set_ 4 (.int .i64 (kk.ps.length : Int)))
      have HR1 := hid (own_store_blk hQ5.row hQ5.bx (by decide) 4 (.int .i64 (kk.ps.length : Int)))
      have g5 := HB1.out.frozen 5
      have HB2 := hid (HB1.out.set_ 5 (.int .i64 (-1)))
      have HR2 := hid (own_store_blk HR1.out HB1.out (by decide) 5 (.int .i64 (-1)))
      have HZ2 := hid ((HZ.out.far 4 (.int .i64 (kk.ps.length : Int)) (HZ.out.ne_type hQ5.bx (by decide))).far 5 (.int .i64 (-1)) ((HZ.out.far 4 (.int .i64 (kk.ps.length : Int)) (HZ.out.ne_type hQ5.bx (by decide))).ne_type HB1.out (by decide)))
      have hb2 := (hbel.setCell (p := ⟨fb, 4, none⟩) hQ5.lb (.int .i64 (kk.ps.length : Int))).setCell (p := ⟨fb, 5, none⟩) hQ5.lb (.int .i64 (-1))
      have v0 : ((wr.setCell ⟨fb, 4, none⟩ (.int .i64 (kk.ps.length : Int))).setCell ⟨fb, 5, none⟩ (.int .i64 (-1))).cell? ⟨fb, 0, none⟩ = some (.int .i64 kk.o) := HB2.out.cell 0
      have v1 : ((wr.setCell ⟨fb, 4, none⟩ (.int .i64 (kk.ps.length : Int))).setCell ⟨fb, 5, none⟩ (.int .i64 (-1))).cell? ⟨fb, 1, none⟩ = some (.int .i64 kk.l) := HB2.out.cell 1
      have v2 : ((wr.setCell ⟨fb, 4, none⟩ (.int .i64 (kk.ps.length : Int))).setCell ⟨fb, 5, none⟩ (.int .i64 (-1))).cell? ⟨fb, 2, none⟩ = some (.int .i64 kk.m) := HB2.out.cell 2
      have v3 : ((wr.setCell ⟨fb, 4, none⟩ (.int .i64 (kk.ps.length : Int))).setCell ⟨fb, 5, none⟩ (.int .i64 (-1))).cell? ⟨fb, 3, none⟩ = some (.slice A5 kk.ps.length cp5) := HB2.out.cell 3
      have v4 : ((wr.setCell ⟨fb, 4, none⟩ (.int .i64 (kk.ps.length : Int))).setCell ⟨fb, 5, none⟩ (.int .i64 (-1))).cell? ⟨fb, 4, none⟩ = some (.int .i64 (kk.ps.length : Int)) := HB2.out.cell 4
      have v5 : ((wr.setCell ⟨fb, 4, none⟩ (.int .i64 (kk.ps.length : Int))).setCell ⟨fb, 5, none⟩ (.int .i64 (-1))).cell? ⟨fb, 5, none⟩ = some (.int .i64 (-1)) := HB2.out.cell 5
      have w5' : (wr.setCell ⟨fb, 4, none⟩ (.int .i64 (kk.ps.length : Int))).cell? ⟨fb, 5, none⟩ = some (.int .i64 kk.last) := HB1.out.cell 5
      obtain ⟨p0, p1, p2, p3, p4, p5⟩ := HZ2.out.cells6
      obtain ⟨q0, q1, q2, q3, q4, q5⟩ := HZ2.out.free6
      have HZ3 := hid (HZ2.out.put6 (.int .i64 kk.o) (.int .i64 kk.l) (.int .i64 kk.m) (.slice A5 kk.ps.length cp5) (.int .i64 (kk.ps.length : Int)) (.int .i64 (-1)))
      have HR3 := hid (own_put6 HR2.out HZ2.out (by decide) (.int .i64 kk.o) (.int .i64 kk.l) (.int .i64 kk.m) (.slice A5 kk.ps.length cp5) (.int .i64 (kk.ps.length : Int)) (.int .i64 (-1)))
      obtain ⟨z0, z1, z2, z3, z4, z5⟩ := HZ3.out.cells6
      clear hQ5 hE
      go_wp2
      exact bodyPost_ret (v := .tuple #[.agg #[.int .i64 kk.o, .int .i64 kk.l, .int .i64 kk.m, .slice A5 kk.ps.length cp5, .int .i64 (kk.ps.length : Int), .int .i64 (-1)], .int .i64 (te : Int), .bool true]) (by simp [results, Try.results148, go_sem, z0, z1, z2, z3, z4, z5]) rfl ⟨A5, cp5, (te : Int), by rw [HE.out]; rfl, by rw [HE.out]; exact HR3.out, bel_put6 hb2 (by omega) _ _ _ _ _ _⟩
end Go.Proofs.Ytblmifbpoopbdaa
