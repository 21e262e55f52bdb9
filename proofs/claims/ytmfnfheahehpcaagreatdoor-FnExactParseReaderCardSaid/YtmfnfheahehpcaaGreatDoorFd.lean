/- FormatKnown in the model. -/
import Derived.Test.YtmfnfheahehpcaaGreatDoorFc
namespace Go.Proofs.YtmfnfheahehpcaaGreatDoor
open Go.ChangeShapes Go.WideShapes Go.ChangeAt Go.RowKit Go.Joins
set_option linter.unusedVariables false
set_option linter.unusedSimpArgs false

set_option maxHeartbeats 8000000 in
set_option maxRecDepth 100000 in
theorem c_sFormatKnown_yes (k : Kn) (A : Option Addr) (cap L : Nat) (w : World) (h : PsAt w L A cap k.ps) (hL : L ≤ w.heap.size) (hk : k.Ok) (hw : k.Wf) :
    Calls Tryz.prog 8 #[.agg #[.int .i64 k.o, .int .i64 k.l, .int .i64 k.m, .slice A k.ps.length cap, .int .i64 k.base, .int .i64 k.last]] w fun e w' => e = .returned (.string (knT k)) ∧ Below w.heap.size w w' := by
  have hbd := kn_bd hk
  have HV := hid (fun (v : World) (hb : Below w.heap.size w v) => c_sKnownValid_yes k A cap L v (h.below hb hL) (by have := hb.size; omega) hk hw)
  have HPO := hid hbd.2.2.2
  have HJL := hid (jc_len 44 (k.ps.map pkT) (pks_size hk))
  have HFS := hid (fun (v : World) => c_sFormatSetting k.o k.l k.m v)
  have HB1 := hid (fun (v : World) => c_l9DecN k.base v (by omega) (by omega))
  have HL1 := hid (fun (v : World) => c_l9DecN k.last v (by omega) (by omega))
  have zS : (fmtS k.o k.l k.m).size ≤ 100 := by
    unfold fmtS
    rw [if_pos hk.set]
    obtain ⟨s1, s2, s3⟩ := setOk_iff.1 hk.set
    have d1 := (dec_len k.l (by omega) (by omega)).2
    have d2 := (dec_len k.m (by omega) (by omega)).2
    have d0 : (ordL k.o).length ≤ 4 := by unfold ordL; split <;> simp
    rw [str_size, fmtL]
    simp only [List.length_append, List.length_cons, List.length_nil]
    omega
  have zB : (str (Lib.itoa k.base)).size ≤ 10 := by rw [str_size]; exact itoa_len _ (by omega) (by omega)
  have zL : (str (Lib.itoa k.last)).size ≤ 10 := by rw [str_size]; exact itoa_len _ (by omega) (by omega)
  have zP := fpK_size hk
  obtain ⟨J, hJ⟩ : ∃ J, J = str (jc 44 (k.ps.map pkT) k.ps.length) := ⟨_, rfl⟩
  have HJ := hid hJ
  have HD := hid (fun v => same_belI (c_l3SomeI J v))
  have hfp : fpK k = dashI J := by rw [fpK, ← hJ]
  rw [hfp] at zP
  have hT : knT k = fmtS k.o k.l k.m ++ ⟨#[59]⟩ ++ str (Lib.itoa k.base) ++ ⟨#[59]⟩ ++ str (Lib.itoa k.last) ++ ⟨#[59]⟩ ++ dashI J := by rw [knT, hfp]
  rw [hT]
  obtain ⟨S1, hS1⟩ : ∃ S1, S1 = fmtS k.o k.l k.m := ⟨_, rfl⟩
  obtain ⟨B1, hB1⟩ : ∃ B1, B1 = str (Lib.itoa k.base) := ⟨_, rfl⟩
  obtain ⟨L1, hL1⟩ : ∃ L1, L1 = str (Lib.itoa k.last) := ⟨_, rfl⟩
  obtain ⟨P1, hP1⟩ : ∃ P1, P1 = dashI J := ⟨_, rfl⟩
  rw [← hS1] at HFS zS ⊢
  rw [← hB1] at HB1 zB ⊢
  rw [← hL1] at HL1 zL ⊢
  rw [← hP1] at HD zP ⊢
  obtain ⟨N, hN⟩ : ∃ N, N = k.ps.length := ⟨_, rfl⟩
  have HN := hid hN
  have HH := hid h
  have hn := hbd.1
  rw [← hN] at HV hn ⊢
  obtain ⟨o, ho⟩ : ∃ o, o = k.o := ⟨_, rfl⟩
  obtain ⟨ll, hl⟩ : ∃ ll, ll = k.l := ⟨_, rfl⟩
  obtain ⟨m, hm⟩ : ∃ m, m = k.m := ⟨_, rfl⟩
  obtain ⟨bs, hbs⟩ : ∃ bs, bs = k.base := ⟨_, rfl⟩
  obtain ⟨la, hla⟩ : ∃ la, la = k.last := ⟨_, rfl⟩
  rw [← ho, ← hl, ← hm, ← hbs, ← hla] at HV ⊢
  rw [← ho, ← hl, ← hm] at HFS
  rw [← hbs] at HB1
  rw [← hla] at HL1
  clear hT hfp hJ hS1 hB1 hL1 hP1 hN h hk hw hbd ho hl hm hbs hla
  have e1 : (⟨#[59]⟩ : ByteArray).size = 1 := rfl
  have a0 : ∀ W, (Op.stringOp .add S1 ⟨#[59]⟩).run Tryz.prog W = .ok (.string (S1 ++ ⟨#[59]⟩)) W := fun W => run_string_add W _ _ (by omega) (by omega)
  have a1 : ∀ W, (Op.stringOp .add (S1 ++ ⟨#[59]⟩) B1).run Tryz.prog W = .ok (.string (S1 ++ ⟨#[59]⟩ ++ B1)) W := fun W => run_string_add W _ _ (by rw [ByteArray.size_append]; omega) (by omega)
  have a2 : ∀ W, (Op.stringOp .add (S1 ++ ⟨#[59]⟩ ++ B1) ⟨#[59]⟩).run Tryz.prog W = .ok (.string (S1 ++ ⟨#[59]⟩ ++ B1 ++ ⟨#[59]⟩)) W := fun W => run_string_add W _ _ (by simp only [ByteArray.size_append]; omega) (by omega)
  have a3 : ∀ W, (Op.stringOp .add (S1 ++ ⟨#[59]⟩ ++ B1 ++ ⟨#[59]⟩) L1).run Tryz.prog W = .ok (.string (S1 ++ ⟨#[59]⟩ ++ B1 ++ ⟨#[59]⟩ ++ L1)) W := fun W => run_string_add W _ _ (by simp only [ByteArray.size_append]; omega) (by omega)
  have a4 : ∀ W, (Op.stringOp .add (S1 ++ ⟨#[59]⟩ ++ B1 ++ ⟨#[59]⟩ ++ L1) ⟨#[59]⟩).run Tryz.prog W = .ok (.string (S1 ++ ⟨#[59]⟩ ++ B1 ++ ⟨#[59]⟩ ++ L1 ++ ⟨#[59]⟩)) W := fun W => run_string_add W _ _ (by simp only [ByteArray.size_append]; omega) (by omega)
  have a5 : ∀ W, (Op.stringOp .add (S1 ++ ⟨#[59]⟩ ++ B1 ++ ⟨#[59]⟩ ++ L1 ++ ⟨#[59]⟩) P1).run Tryz.prog W = .ok (.string (S1 ++ ⟨#[59]⟩ ++ B1 ++ ⟨#[59]⟩ ++ L1 ++ ⟨#[59]⟩ ++ P1)) W := fun W => run_string_add W _ _ (by simp only [ByteArray.size_append]; omega) (by omega)
  have HA := hid (And.intro a0 (And.intro a1 (And.intro a2 (And.intro a3 (And.intro a4 a5)))))
  clear a0 a1 a2 a3 a4 a5
  have hB0 : Below w.heap.size w (w.alloc (.cells #[.int .i64 o, .int .i64 ll, .int .i64 m, .slice A N cap, .int .i64 bs, .int .i64 la] 27)) := bel_alloc (Below.refl _ w) _
  have kS := Blk.new w 27 #[.int .i64 o, .int .i64 ll, .int .i64 m, .slice A N cap, .int .i64 bs, .int .i64 la]
  obtain ⟨y0, y1, y2, y3, y4, y5⟩ := kS.cells6
  have KS := hid kS
  clear kS
  go_enter Tryz.func8, Tryz.ntmps8
  go_wp2_with fail
  refine (HV.out _ hB0).mono ?_
  rintro e w1 ⟨rfl, hb1⟩
  have KS1 := hid (KS.out.on hb1)
  have hB1w := hB0.trans (hb1.mono hB0.size)
  have hz1 := hB1w.size
  clear y0 y1 y2 y3 y4 y5 KS hb1 hB0
  go_wp2_with fail
  go_loopw [3, 4] (fun t i wr => ∃ (k' : Nat) (T : ByteArray), k' ≤ N ∧ i = .int .i64 k' ∧ t = .string T ∧ Hid (T = str (jc 44 (k.ps.map pkT) k')) ∧ T.size ≤ 22 * k' ∧ Below w1.heap.size w1 wr) (fun _ i _ => N - (intOf i).toNat)
  case atStart => exact ⟨0, ByteArray.empty, Nat.zero_le _, rfl, rfl, hid rfl, by simp, Below.refl _ _⟩
  case round =>
    obtain ⟨k', T, hk', rfl, rfl, HT, hTz, hbl⟩ := hrel
    rename_i wr _
    have hB0 := hB1w.trans (hbl.mono hz1)
    have kSr := KS1.out.on hbl
    by_cases hlt : k' < N
    · have hlt2 : k' < k.ps.length := by have := HN.out; omega
      obtain ⟨b, off, rfl, hb, hc0, hc1⟩ := prk_at (HH.out.below hB0 hL) k' hlt2
      have hpo := HPO.out k' hlt2
      obtain ⟨p, hp⟩ : ∃ p, p = k.ps[k'] := ⟨_, rfl⟩
      rw [← hp] at hc0 hc1 hpo
      have hgd : (k.ps.map pkT).getD k' ByteArray.empty = pkT p := by rw [List.getD_eq_getElem?_getD, List.getElem?_map, List.getElem?_eq_getElem hlt2, ← hp]; rfl
      obtain ⟨p1, p2⟩ := p
      simp only at hc0 hc1 hpo
      have H1 := hid (fun v => c_l9Dec p1 v (by omega) (by omega))
      have H2 := hid (fun v => c_l9Dec p2 v (by omega) (by omega))
      have zA0 := (dec_len p1 hpo.1.1 (by omega)).2
      have zB0 := (dec_len p2 hpo.2.1 (by omega)).2
      obtain ⟨A1, hA1⟩ : ∃ A1, A1 = str (dec p1) := ⟨_, rfl⟩
      obtain ⟨C1, hC1⟩ : ∃ C1, C1 = str (dec p2) := ⟨_, rfl⟩
      rw [← hA1] at H1
      rw [← hC1] at H2
      have zA : A1.size ≤ 10 := by rw [hA1, str_size]; exact zA0
      have zC : C1.size ≤ 10 := by rw [hC1, str_size]; exact zB0
      have hkN : (k' : Int) < (N : Int) := by omega
      have hpt : pkT (p1, p2) = A1 ++ ⟨#[46]⟩ ++ C1 := by unfold pkT; rw [← hA1, ← hC1]
      have HQ := hid (show jc 44 (k.ps.map pkT) (k' + 1) = (jc 44 (k.ps.map pkT) k' ++ (if 0 < k' then [44] else [])) ++ (A1 ++ ⟨#[46]⟩ ++ C1).data.toList by rw [jc, hgd, hpt])
      have y3 : wr.cell? ⟨w.heap.size, 3, none⟩ = some (.slice (some ⟨b, off, none⟩) N cap) := kSr.cell 3
      have hcap := HH.out.1
      rw [← HN.out] at hcap
      have hS : wr.cell? ⟨w.heap.size, 3, none⟩ = some (.slice (some ⟨b, off, none⟩) N cap) ∧ wr.cell? ⟨b, off + k' * 2, none⟩ = some (.int .i64 p1) ∧ wr.cell? ⟨b, off + k' * 2 + 1, none⟩ = some (.int .i64 p2) ∧ Below wr.heap.size wr wr := ⟨y3, hc0, hc1, Below.refl _ _⟩
      clear hp hgd hpt hA1 hC1 zA0 zB0 hc0 hc1 hpo kSr
      have e2 : (⟨#[46]⟩ : ByteArray).size = 1 := rfl
      by_cases hk0 : k' = 0
      · subst hk0
        have HE := hid (show T ++ A1 ++ ⟨#[46]⟩ ++ C1 = str (jc 44 (k.ps.map pkT) (0 + 1)) by
          rw [HQ.out, if_neg (by omega), HT.out, List.append_nil, ← str_append, str_self]
          simp only [ByteArray.append_assoc])
        have hsz : (T ++ A1 ++ ⟨#[46]⟩ ++ C1).size ≤ 22 * (0 + 1) := by rw [HE.out, str_size]; have := HJL.out 1 (by simp; omega); omega
        have hT0 : T.size = 0 := by omega
        have b0 : ∀ W, (Op.stringOp .add T A1).run Tryz.prog W = .ok (.string (T ++ A1)) W := fun W => run_string_add W _ _ (by omega) (by omega)
        have b1 : ∀ W, (Op.stringOp .add (T ++ A1) ⟨#[46]⟩).run Tryz.prog W = .ok (.string (T ++ A1 ++ ⟨#[46]⟩)) W := fun W => run_string_add W _ _ (by rw [ByteArray.size_append]; omega) (by omega)
        have b2 : ∀ W, (Op.stringOp .add (T ++ A1 ++ ⟨#[46]⟩) C1).run Tryz.prog W = .ok (.string (T ++ A1 ++ ⟨#[46]⟩ ++ C1)) W := fun W => run_string_add W _ _ (by rw [ByteArray.size_append, ByteArray.size_append]; omega) (by omega)
        simp only [Nat.zero_mul, Nat.add_zero] at hS
        have hg0 : decide ((0 : Int) < 0) = false := by decide
        clear HT HQ
        go_wp2_with fail
        refine qB (S := (fun v => v.cell? ⟨w.heap.size, 3, none⟩ = some (.slice (some ⟨b, off, none⟩) N cap) ∧ v.cell? ⟨b, off, none⟩ = some (.int .i64 p1) ∧ v.cell? ⟨b, off + 1, none⟩ = some (.int .i64 p2) ∧ Below wr.heap.size wr v)) (by kernel_rfl) (by kernel_rfl) (s3_drew hS) ?_
        refine qK ?_
        refine qK ?_
        refine qK ?_
        refine qK ?_
        refine qK ?_
        refine qK ?_
        refine qK ?_
        refine qC (fun wq hSq => H1.out wq) (fun wq wr hbr hSq => s3_bel hbr hSq) ?_
        refine qK ?_
        refine qK ?_
        refine qK ?_
        refine qK ?_
        refine qK ?_
        refine qK ?_
        refine qK ?_
        refine qK ?_
        refine qC (fun wq hSq => H2.out wq) (fun wq wr hbr hSq => s3_bel hbr hSq) ?_
        refine qK ?_
        refine qK ?_
        refine qN ?_
        intro wq hSq
        (try dsimp only at hSq)
        have hbq := hbl.trans (hSq.2.2.2.mono hbl.size)
        clear hSq hS
        go_wp2_with fail
        go_roundw
        case rel => exact ⟨0 + 1, _, by omega, by go_num, rfl, HE, hsz, hbq⟩
        case measure => simp [intOf]; omega
      · obtain ⟨T2, hT2⟩ : ∃ T2, T2 = T ++ ⟨#[44]⟩ := ⟨_, rfl⟩
        have zT2 : T2.size ≤ 22 * k' + 1 := by rw [hT2, ByteArray.size_append]; show T.size + 1 ≤ _; omega
        have HE := hid (show T2 ++ A1 ++ ⟨#[46]⟩ ++ C1 = str (jc 44 (k.ps.map pkT) (k' + 1)) by
          rw [HQ.out, if_pos (by omega), ← str_append, ← str_append, ← HT.out, str_self, hT2]
          simp only [ByteArray.append_assoc]
          rfl)
        have hsz : (T2 ++ A1 ++ ⟨#[46]⟩ ++ C1).size ≤ 22 * (k' + 1) := by rw [HE.out, str_size]; have := HJL.out (k' + 1) (by simp; omega); omega
        have e3 : (⟨#[44]⟩ : ByteArray).size = 1 := rfl
        have b9 : ∀ W, (Op.stringOp .add T ⟨#[44]⟩).run Tryz.prog W = .ok (.string T2) W := fun W => by rw [hT2]; exact run_string_add W _ _ (by omega) (by omega)
        have b0 : ∀ W, (Op.stringOp .add T2 A1).run Tryz.prog W = .ok (.string (T2 ++ A1)) W := fun W => run_string_add W _ _ (by omega) (by omega)
        have b1 : ∀ W, (Op.stringOp .add (T2 ++ A1) ⟨#[46]⟩).run Tryz.prog W = .ok (.string (T2 ++ A1 ++ ⟨#[46]⟩)) W := fun W => run_string_add W _ _ (by rw [ByteArray.size_append]; omega) (by omega)
        have b2 : ∀ W, (Op.stringOp .add (T2 ++ A1 ++ ⟨#[46]⟩) C1).run Tryz.prog W = .ok (.string (T2 ++ A1 ++ ⟨#[46]⟩ ++ C1)) W := fun W => run_string_add W _ _ (by rw [ByteArray.size_append, ByteArray.size_append]; omega) (by omega)
        have hg0 : decide ((0 : Int) < (k' : Int)) = true := decide_eq_true (by omega)
        have hkp : 0 < k' := by omega
        have HT2 := hid hT2
        clear HT HQ hT2 hk0
        go_wp2_with fail
        refine qB (S := (fun v => v.cell? ⟨w.heap.size, 3, none⟩ = some (.slice (some ⟨b, off, none⟩) N cap) ∧ v.cell? ⟨b, off + k' * 2, none⟩ = some (.int .i64 p1) ∧ v.cell? ⟨b, off + k' * 2 + 1, none⟩ = some (.int .i64 p2) ∧ Below wr.heap.size wr v)) (by kernel_rfl) (by kernel_rfl) (s3_drew hS) ?_
        refine qK ?_
        refine qK ?_
        refine qK ?_
        refine qK ?_
        refine qK ?_
        refine qK ?_
        refine qK ?_
        refine qC (fun wq hSq => H1.out wq) (fun wq wr hbr hSq => s3_bel hbr hSq) ?_
        refine qK ?_
        refine qK ?_
        refine qK ?_
        refine qK ?_
        refine qK ?_
        refine qK ?_
        refine qK ?_
        refine qK ?_
        refine qC (fun wq hSq => H2.out wq) (fun wq wr hbr hSq => s3_bel hbr hSq) ?_
        refine qK ?_
        refine qK ?_
        refine qN ?_
        intro wq hSq
        (try dsimp only at hSq)
        have hbq := hbl.trans (hSq.2.2.2.mono hbl.size)
        clear hSq hS
        go_wp2_with fail
        go_roundw
        case rel => exact ⟨k' + 1, _, by omega, by go_num, rfl, HE, hsz, hbq⟩
        case measure => simp [intOf]; omega
    · have hkN : k' = N := by omega
      have HE := hid (show T = J by rw [HT.out, HJ.out, hkN, HN.out])
      have hlti : ¬ (k' : Int) < (N : Int) := by omega
      rw [HE.out]
      obtain ⟨y0, y1, y2, y3, y4, y5⟩ := kSr.cells6
      have hS : wr.cell? ⟨w.heap.size, 0, none⟩ = some (.int .i64 o) ∧ wr.cell? ⟨w.heap.size, 1, none⟩ = some (.int .i64 ll) ∧ wr.cell? ⟨w.heap.size, 2, none⟩ = some (.int .i64 m) ∧ wr.cell? ⟨w.heap.size, 4, none⟩ = some (.int .i64 bs) ∧ wr.cell? ⟨w.heap.size, 5, none⟩ = some (.int .i64 la) ∧ Below wr.heap.size wr wr := ⟨y0, y1, y2, y4, y5, Below.refl _ _⟩
      clear HT HE hkN hTz
      go_wp2_with fail
      obtain ⟨a0, a1, a2, a3, a4, a5⟩ := HA.out
      refine qB (S := (fun v => v.cell? ⟨w.heap.size, 0, none⟩ = some (.int .i64 o) ∧ v.cell? ⟨w.heap.size, 1, none⟩ = some (.int .i64 ll) ∧ v.cell? ⟨w.heap.size, 2, none⟩ = some (.int .i64 m) ∧ v.cell? ⟨w.heap.size, 4, none⟩ = some (.int .i64 bs) ∧ v.cell? ⟨w.heap.size, 5, none⟩ = some (.int .i64 la) ∧ Below wr.heap.size wr v)) (by kernel_rfl) (by kernel_rfl) (s5_drew hS) ?_
      refine qK ?_
      refine qK ?_
      refine qC (fun wq hSq => HFS.out wq) (fun wq wr hbr hSq => s5_bel hbr hSq) ?_
      refine qK ?_
      refine qK ?_
      refine qK ?_
      refine qC (fun wq hSq => HB1.out wq) (fun wq wr hbr hSq => s5_bel hbr hSq) ?_
      refine qK ?_
      refine qK ?_
      refine qK ?_
      refine qK ?_
      refine qC (fun wq hSq => HL1.out wq) (fun wq wr hbr hSq => s5_bel hbr hSq) ?_
      refine qK ?_
      refine qK ?_
      refine qK ?_
      refine qC (fun wq hSq => HD.out wq) (fun wq wr hbr hSq => s5_bel hbr hSq) ?_
      refine qK ?_
      refine qK ?_
      refine qN ?_
      intro wq hSq
      (try dsimp only at hSq)
      have hbq := hB0.trans (hSq.2.2.2.2.2.mono hB0.size)
      clear hSq hS
      go_wp2_with fail
      go_ret
      exact ⟨rfl, hbq⟩
end Go.Proofs.YtmfnfheahehpcaaGreatDoor
