/- The contracts of the model's ReaderValid. No condition but that the numbers are int's. -/
import Derived.Test.YtfklkepodpcdgaaRvd
namespace Go.Proofs.Ytfklkepodpcdgaa
open Go.ChangeShapes Go.WideShapes Go.ChangeAt Go.RowKit Go.Joins
set_option linter.unusedVariables false
set_option linter.unusedSimpArgs false

theorem c_sReaderValid_bad (k : Kn) (A : Option Addr) (cap L : Nat) (B : ByteArray) (s c en : Int) (w : World) (h : PsAt w L A cap k.ps) (hL : L ≤ w.heap.size) (hB : B.size ≤ maxLen) (hw : k.Wf) (hk : ¬ k.Ok) : Calls Try.prog 63 #[.agg #[.int .i64 k.o, .int .i64 k.l, .int .i64 k.m, .slice A k.ps.length cap, .int .i64 k.base, .int .i64 k.last, .string B, .int .i64 s, .int .i64 c, .int .i64 en]] w fun e w' => e = .returned (.bool false) ∧ Below w.heap.size w w' := by
  have HV := hid (fun (v : World) (hb : Below w.heap.size w v) => c_sKnownValid_no k A cap L v (h.below hb hL) (Nat.le_trans hL hb.size) hk hw)
  obtain ⟨p0, p1, p2, p3, p4, p5, p6, p7, p8, p9⟩ := (Blk.new w 81 #[.int .i64 k.o, .int .i64 k.l, .int .i64 k.m, .slice A k.ps.length cap, .int .i64 k.base, .int .i64 k.last, .string B, .int .i64 s, .int .i64 c, .int .i64 en]).cells10
  clear h hk hw
  go_enter Try.func63, Try.ntmps63
  go_wp2_with fail
  refine (HV.out _ (by (repeat (first | with_reducible (first | assumption | exact Below.refl _ _ | refine bel_alloc ?_ _ | refine bel_drew ?_ | refine bel_drewN ?_ _ | refine bel_set ?_ (by first | omega | (simp; done) | (simp; omega)) _ | refine bel_trans ?_ (by assumption)) | assumption | refine bel_trans ?_ (by assumption))))).mono ?_
  rintro e w1 ⟨rfl, hb1⟩
  go_wp2
  go_ret
  exact ⟨rfl, by (repeat (first | with_reducible (first | assumption | exact Below.refl _ _ | refine bel_alloc ?_ _ | refine bel_drew ?_ | refine bel_drewN ?_ _ | refine bel_set ?_ (by first | omega | (simp; done) | (simp; omega)) _ | refine bel_trans ?_ (by assumption)) | assumption | refine bel_trans ?_ (by assumption)))⟩

set_option maxHeartbeats 4000000 in
set_option maxRecDepth 100000 in
theorem c_sReaderValid (k : Kn) (A : Option Addr) (cap L : Nat) (B : ByteArray) (s c en : Int) (w : World) (h : PsAt w L A cap k.ps) (hL : L ≤ w.heap.size) (hB : B.size ≤ maxLen) (hw : k.Wf) (hk : k.Ok) (hen : -9223372036854775808 ≤ en ∧ en ≤ 9223372036854775807) : Calls Try.prog 63 #[.agg #[.int .i64 k.o, .int .i64 k.l, .int .i64 k.m, .slice A k.ps.length cap, .int .i64 k.base, .int .i64 k.last, .string B, .int .i64 s, .int .i64 c, .int .i64 en]] w fun e w' => e = .returned (.bool (rdOk k B s c en)) ∧ Below w.heap.size w w' := by
  have HV := hid (fun (v : World) (hb : Below w.heap.size w v) => c_sKnownValid_yes k A cap L v (h.below hb hL) (Nat.le_trans hL hb.size) hk hw)
  have HBv := hid (fun (v : World) => c_sBitsValid B v hB)
  have HWd := hid (fun (v : World) => c_l2Width k A cap v hk)
  have hwb := hk.width_bd
  have HS := hid (fun (v : World) => c_l1In s 0 2000 v)
  have HC := hid (fun (v : World) => c_l1In c 0 3100 v)
  have HE := hid (fun (v : World) => c_l1In en 0 3 v)
  have HKN := hid (Blk.new w 81 #[.int .i64 k.o, .int .i64 k.l, .int .i64 k.m, .slice A k.ps.length cap, .int .i64 k.base, .int .i64 k.last, .string B, .int .i64 s, .int .i64 c, .int .i64 en])
  obtain ⟨p0, p1, p2, p3, p4, p5, p6, p7, p8, p9⟩ := HKN.out.cells10
  unfold maxLen at hB
  clear h hk hw
  cases hb : bitsOk B with
  | false =>
    have HR := hid (show rdOk k B s c en = false by simp [rdOk, hb])
    simp only [hb] at HBv
    rw [HR.out]
    clear hb
    go_enter Try.func63, Try.ntmps63
    go_wp2_with fail
    refine (HV.out _ (by (repeat (first | with_reducible (first | assumption | exact Below.refl _ _ | refine bel_alloc ?_ _ | refine bel_drew ?_ | refine bel_drewN ?_ _ | refine bel_set ?_ (by first | omega | (simp; done) | (simp; omega)) _ | refine bel_trans ?_ (by assumption)) | assumption | refine bel_trans ?_ (by assumption))))).mono ?_
    rintro e w1 ⟨rfl, hb1⟩
    obtain ⟨q0, q1, q2, q3, q4, q5, q6, q7, q8, q9⟩ := (HKN.out.on hb1).cells10
    clear p0 p1 p2 p3 p4 p5 p6 p7 p8 p9
    go_wp2_with fail
    refine (HBv.out _).mono ?_
    rintro e w2 ⟨rfl, rfl⟩
    go_wp2
    go_ret
    exact ⟨rfl, by (repeat (first | with_reducible (first | assumption | exact Below.refl _ _ | refine bel_alloc ?_ _ | refine bel_drew ?_ | refine bel_drewN ?_ _ | refine bel_set ?_ (by first | omega | (simp; done) | (simp; omega)) _ | refine bel_trans ?_ (by assumption)) | assumption | refine bel_trans ?_ (by assumption)))⟩
  | true =>
    simp only [hb] at HBv
    cases h1 : inB s 0 2000 with
    | false =>
      have HR := hid (show rdOk k B s c en = false by
        have : ¬ (0 ≤ s ∧ s ≤ 2000) := fun e => by rw [inB_iff.2 e] at h1; simp at h1
        simp only [rdOk, hb, Bool.true_and]
        rw [decide_eq_false (fun e => this ⟨e.1, e.2.1⟩)]; rfl)
      simp only [h1] at HS
      rw [HR.out]
      clear hb h1
      go_enter Try.func63, Try.ntmps63
      go_wp2_with fail
      refine (HV.out _ (by (repeat (first | with_reducible (first | assumption | exact Below.refl _ _ | refine bel_alloc ?_ _ | refine bel_drew ?_ | refine bel_drewN ?_ _ | refine bel_set ?_ (by first | omega | (simp; done) | (simp; omega)) _ | refine bel_trans ?_ (by assumption)) | assumption | refine bel_trans ?_ (by assumption))))).mono ?_
      rintro e w1 ⟨rfl, hb1⟩
      have HK4 := hid (HKN.out.on hb1)
      obtain ⟨q0, q1, q2, q3, q4, q5, q6, q7, q8, q9⟩ := HK4.out.cells10
      clear p0 p1 p2 p3 p4 p5 p6 p7 p8 p9
      go_wp2_with fail
      refine (HBv.out _).mono ?_
      rintro e w2 ⟨rfl, rfl⟩
      go_wp2_with fail
      refine (HS.out _).mono ?_
      rintro e w2 ⟨rfl, rfl⟩
      go_wp2
      go_ret
      exact ⟨rfl, by (repeat (first | with_reducible (first | assumption | exact Below.refl _ _ | refine bel_alloc ?_ _ | refine bel_drew ?_ | refine bel_drewN ?_ _ | refine bel_set ?_ (by first | omega | (simp; done) | (simp; omega)) _ | refine bel_trans ?_ (by assumption)) | assumption | refine bel_trans ?_ (by assumption)))⟩
    | true =>
      simp only [h1] at HS
      cases h2 : inB c 0 3100 with
      | false =>
        have HR := hid (show rdOk k B s c en = false by
          have : ¬ (0 ≤ c ∧ c ≤ 3100) := fun e => by rw [inB_iff.2 e] at h2; simp at h2
          simp only [rdOk, hb, Bool.true_and]
          rw [decide_eq_false (fun e => this ⟨e.2.2.1, e.2.2.2⟩)]; rfl)
        simp only [h2] at HC
        rw [HR.out]
        clear hb h1 h2
        go_enter Try.func63, Try.ntmps63
        go_wp2_with fail
        refine (HV.out _ (by (repeat (first | with_reducible (first | assumption | exact Below.refl _ _ | refine bel_alloc ?_ _ | refine bel_drew ?_ | refine bel_drewN ?_ _ | refine bel_set ?_ (by first | omega | (simp; done) | (simp; omega)) _ | refine bel_trans ?_ (by assumption)) | assumption | refine bel_trans ?_ (by assumption))))).mono ?_
        rintro e w1 ⟨rfl, hb1⟩
        have HK4 := hid (HKN.out.on hb1)
        obtain ⟨q0, q1, q2, q3, q4, q5, q6, q7, q8, q9⟩ := HK4.out.cells10
        clear p0 p1 p2 p3 p4 p5 p6 p7 p8 p9
        go_wp2_with fail
        refine (HBv.out _).mono ?_
        rintro e w2 ⟨rfl, rfl⟩
        go_wp2_with fail
        refine (HS.out _).mono ?_
        rintro e w2 ⟨rfl, rfl⟩
        go_wp2_with fail
        refine (HC.out _).mono ?_
        rintro e w2 ⟨rfl, rfl⟩
        go_wp2
        go_ret
        exact ⟨rfl, by (repeat (first | with_reducible (first | assumption | exact Below.refl _ _ | refine bel_alloc ?_ _ | refine bel_drew ?_ | refine bel_drewN ?_ _ | refine bel_set ?_ (by first | omega | (simp; done) | (simp; omega)) _ | refine bel_trans ?_ (by assumption)) | assumption | refine bel_trans ?_ (by assumption)))⟩
      | true =>
        simp only [h2] at HC
        have HR0 := hid (show rdOk k B s c en = rvEnd k B c en by
          have e1 := inB_iff.1 h1
          have e2 := inB_iff.1 h2
          simp only [rdOk, hb, Bool.true_and]
          rw [decide_eq_true ⟨e1.1, e1.2, e2.1, e2.2⟩, Bool.true_and])
        have hcb := inB_iff.1 h2
        rw [HR0.out]
        clear hb h1 h2 HR0
        by_cases he : en = 1
        · subst he
          have he1 : ((1 : Int) == 1) = true := rfl
          by_cases hs : (B.size : Int) < k.width
          · have hd : decide ((B.size : Int) < k.width) = true := decide_eq_true hs
            have HR := hid (show rvEnd k B c 1 = decide (c < 3100) by simp [rvEnd, hd])
            rw [HR.out]
            clear hs
            go_enter Try.func63, Try.ntmps63
            go_wp2_with fail
            refine (HV.out _ (by (repeat (first | with_reducible (first | assumption | exact Below.refl _ _ | refine bel_alloc ?_ _ | refine bel_drew ?_ | refine bel_drewN ?_ _ | refine bel_set ?_ (by first | omega | (simp; done) | (simp; omega)) _ | refine bel_trans ?_ (by assumption)) | assumption | refine bel_trans ?_ (by assumption))))).mono ?_
            rintro e w1 ⟨rfl, hb1⟩
            have HK4 := hid (HKN.out.on hb1)
            obtain ⟨q0, q1, q2, q3, q4, q5, q6, q7, q8, q9⟩ := HK4.out.cells10
            clear p0 p1 p2 p3 p4 p5 p6 p7 p8 p9
            go_wp2_with fail
            refine (HBv.out _).mono ?_
            rintro e w2 ⟨rfl, rfl⟩
            go_wp2_with fail
            refine (HS.out _).mono ?_
            rintro e w2 ⟨rfl, rfl⟩
            go_wp2_with fail
            refine (HC.out _).mono ?_
            rintro e w2 ⟨rfl, rfl⟩
            go_wp2_with fail
            have hS := And.intro q0 (And.intro q1 (And.intro q2 (And.intro q3 (And.intro q4 (And.intro q5 (And.intro q6 (And.intro q8 (Below.refl w1.heap.size w1))))))))
            refine wp_region_noPanic ?_
            refine wp_region_held_drew (S := (fun v => v.cell? ⟨w.heap.size, 0, none⟩ = some (.int .i64 k.o) ∧ v.cell? ⟨w.heap.size, 1, none⟩ = some (.int .i64 k.l) ∧ v.cell? ⟨w.heap.size, 2, none⟩ = some (.int .i64 k.m) ∧ v.cell? ⟨w.heap.size, 3, none⟩ = some (.slice A k.ps.length cap) ∧ v.cell? ⟨w.heap.size, 4, none⟩ = some (.int .i64 k.base) ∧ v.cell? ⟨w.heap.size, 5, none⟩ = some (.int .i64 k.last) ∧ v.cell? ⟨w.heap.size, 6, none⟩ = some (.string B) ∧ v.cell? ⟨w.heap.size, 8, none⟩ = some (.int .i64 c) ∧ Below w1.heap.size w1 v)) (by kernel_rfl) (s8_drew hS) (fun hHeld => ?_)
            refine tk 0 ?_
            refine tk 1 ?_
            refine tk 2 ?_
            refine tk 3 ?_
            refine tk 4 ?_
            refine wpAnyH_ready (rs := [5]) (by kernel_rfl) (by simp) ?_
            refine AllReadyH.cons (o := ?or1_5) ?ir1_5 (fun K hK => ?sr1_5) AllReadyH.nil
            case ir1_5 => (simp only [List.getElem?_toArray, List.getElem?_cons_succ, List.getElem?_cons_zero]; rfl)
            (first | (go_simp; (first | (go_at_call 117; refine (HWd.out _).mono ?_; rintro e wQ ⟨rfl, hbQ⟩) | skip)))
            refine hK.out _ _ ?kr1_5 (fun hHeld => ?_)
            case kr1_5 => (try dsimp only); (first | with_reducible assumption | exact s8_bel (by assumption) (by assumption) | assumption | exact s8_alloc (by assumption) _)
            clear hK K
            try simp only [Act.put, List.setIfInBounds_toArray, List.set_cons_zero, List.set_cons_succ]
            refine tk 6 ?_
            refine tk 7 ?_
            refine tk 8 ?_
            refine tk 9 ?_
            refine tk 10 ?_
            refine tk 11 ?_
            refine tk 12 ?_
            refine wpAnyH_done (by kernel_rfl) ?_ _
            refine NoPanic.normal ?_
            go_wp2
            go_ret
            exact ⟨ret_bool (by first | rfl | simp [hd]), by (repeat (first | with_reducible (first | assumption | exact Below.refl _ _ | refine bel_alloc ?_ _ | refine bel_drew ?_ | refine bel_drewN ?_ _ | refine bel_set ?_ (by first | omega | (simp; done) | (simp; omega)) _ | refine bel_trans ?_ (by assumption)) | assumption | refine bel_trans ?_ (by assumption)))⟩
          · have hd : decide ((B.size : Int) < k.width) = false := decide_eq_false hs
            have HR := hid (show rvEnd k B c 1 = false by simp [rvEnd, hd])
            rw [HR.out]
            clear hs
            go_enter Try.func63, Try.ntmps63
            go_wp2_with fail
            refine (HV.out _ (by (repeat (first | with_reducible (first | assumption | exact Below.refl _ _ | refine bel_alloc ?_ _ | refine bel_drew ?_ | refine bel_drewN ?_ _ | refine bel_set ?_ (by first | omega | (simp; done) | (simp; omega)) _ | refine bel_trans ?_ (by assumption)) | assumption | refine bel_trans ?_ (by assumption))))).mono ?_
            rintro e w1 ⟨rfl, hb1⟩
            have HK4 := hid (HKN.out.on hb1)
            obtain ⟨q0, q1, q2, q3, q4, q5, q6, q7, q8, q9⟩ := HK4.out.cells10
            clear p0 p1 p2 p3 p4 p5 p6 p7 p8 p9
            go_wp2_with fail
            refine (HBv.out _).mono ?_
            rintro e w2 ⟨rfl, rfl⟩
            go_wp2_with fail
            refine (HS.out _).mono ?_
            rintro e w2 ⟨rfl, rfl⟩
            go_wp2_with fail
            refine (HC.out _).mono ?_
            rintro e w2 ⟨rfl, rfl⟩
            go_wp2_with fail
            have hS := And.intro q0 (And.intro q1 (And.intro q2 (And.intro q3 (And.intro q4 (And.intro q5 (And.intro q6 (And.intro q8 (Below.refl w1.heap.size w1))))))))
            refine wp_region_noPanic ?_
            refine wp_region_held_drew (S := (fun v => v.cell? ⟨w.heap.size, 0, none⟩ = some (.int .i64 k.o) ∧ v.cell? ⟨w.heap.size, 1, none⟩ = some (.int .i64 k.l) ∧ v.cell? ⟨w.heap.size, 2, none⟩ = some (.int .i64 k.m) ∧ v.cell? ⟨w.heap.size, 3, none⟩ = some (.slice A k.ps.length cap) ∧ v.cell? ⟨w.heap.size, 4, none⟩ = some (.int .i64 k.base) ∧ v.cell? ⟨w.heap.size, 5, none⟩ = some (.int .i64 k.last) ∧ v.cell? ⟨w.heap.size, 6, none⟩ = some (.string B) ∧ v.cell? ⟨w.heap.size, 8, none⟩ = some (.int .i64 c) ∧ Below w1.heap.size w1 v)) (by kernel_rfl) (s8_drew hS) (fun hHeld => ?_)
            refine tk 0 ?_
            refine tk 1 ?_
            refine tk 2 ?_
            refine tk 3 ?_
            refine tk 4 ?_
            refine wpAnyH_ready (rs := [5]) (by kernel_rfl) (by simp) ?_
            refine AllReadyH.cons (o := ?or2_5) ?ir2_5 (fun K hK => ?sr2_5) AllReadyH.nil
            case ir2_5 => (simp only [List.getElem?_toArray, List.getElem?_cons_succ, List.getElem?_cons_zero]; rfl)
            (first | (go_simp; (first | (go_at_call 117; refine (HWd.out _).mono ?_; rintro e wQ ⟨rfl, hbQ⟩) | skip)))
            refine hK.out _ _ ?kr2_5 (fun hHeld => ?_)
            case kr2_5 => (try dsimp only); (first | with_reducible assumption | exact s8_bel (by assumption) (by assumption) | assumption | exact s8_alloc (by assumption) _)
            clear hK K
            try simp only [Act.put, List.setIfInBounds_toArray, List.set_cons_zero, List.set_cons_succ]
            refine tk 6 ?_
            refine tk 7 ?_
            refine tu 8 ?_
            refine tu 9 ?_
            refine tu 10 ?_
            refine tk 11 ?_
            refine tk 12 ?_
            refine wpAnyH_done (by kernel_rfl) ?_ _
            refine NoPanic.normal ?_
            go_wp2
            go_ret
            exact ⟨ret_bool (by first | rfl | simp [hd]), by (repeat (first | with_reducible (first | assumption | exact Below.refl _ _ | refine bel_alloc ?_ _ | refine bel_drew ?_ | refine bel_drewN ?_ _ | refine bel_set ?_ (by first | omega | (simp; done) | (simp; omega)) _ | refine bel_trans ?_ (by assumption)) | assumption | refine bel_trans ?_ (by assumption)))⟩
        · have he1 : (en == 1) = false := by simpa using he
          cases h3 : inB en 0 3 with
          | false =>
            have HR := hid (show rvEnd k B c en = false by
              have : ¬ (en = 0 ∨ en = 2 ∨ en = 3) := fun e => by rw [inB_iff.2 (by omega)] at h3; simp at h3
              simp only [rvEnd, if_neg he]
              rw [decide_eq_false this]; rfl)
            simp only [h3] at HE
            rw [HR.out]
            clear h3 he
            go_enter Try.func63, Try.ntmps63
            go_wp2_with fail
            refine (HV.out _ (by (repeat (first | with_reducible (first | assumption | exact Below.refl _ _ | refine bel_alloc ?_ _ | refine bel_drew ?_ | refine bel_drewN ?_ _ | refine bel_set ?_ (by first | omega | (simp; done) | (simp; omega)) _ | refine bel_trans ?_ (by assumption)) | assumption | refine bel_trans ?_ (by assumption))))).mono ?_
            rintro e w1 ⟨rfl, hb1⟩
            have HK4 := hid (HKN.out.on hb1)
            obtain ⟨q0, q1, q2, q3, q4, q5, q6, q7, q8, q9⟩ := HK4.out.cells10
            clear p0 p1 p2 p3 p4 p5 p6 p7 p8 p9
            go_wp2_with fail
            refine (HBv.out _).mono ?_
            rintro e w2 ⟨rfl, rfl⟩
            go_wp2_with fail
            refine (HS.out _).mono ?_
            rintro e w2 ⟨rfl, rfl⟩
            go_wp2_with fail
            refine (HC.out _).mono ?_
            rintro e w2 ⟨rfl, rfl⟩
            go_wp2_with fail
            refine (HE.out _).mono ?_
            rintro e w2 ⟨rfl, rfl⟩
            go_wp2
            go_ret
            exact ⟨rfl, by (repeat (first | with_reducible (first | assumption | exact Below.refl _ _ | refine bel_alloc ?_ _ | refine bel_drew ?_ | refine bel_drewN ?_ _ | refine bel_set ?_ (by first | omega | (simp; done) | (simp; omega)) _ | refine bel_trans ?_ (by assumption)) | assumption | refine bel_trans ?_ (by assumption)))⟩
          | true =>
            have h4 := inB_iff.1 h3
            simp only [h3] at HE
            have HR := hid (show rvEnd k B c en = decide (B.size = 0) by
              simp only [rvEnd, if_neg he]
              rw [decide_eq_true (show en = 0 ∨ en = 2 ∨ en = 3 by omega), Bool.true_and])
            rw [HR.out]
            clear h3 he h4
            by_cases h0 : B.size = 0
            · have e := empty_of h0
              subst e
              go_enter Try.func63, Try.ntmps63
              go_wp2_with fail
              refine (HV.out _ (by (repeat (first | with_reducible (first | assumption | exact Below.refl _ _ | refine bel_alloc ?_ _ | refine bel_drew ?_ | refine bel_drewN ?_ _ | refine bel_set ?_ (by first | omega | (simp; done) | (simp; omega)) _ | refine bel_trans ?_ (by assumption)) | assumption | refine bel_trans ?_ (by assumption))))).mono ?_
              rintro e w1 ⟨rfl, hb1⟩
              have HK4 := hid (HKN.out.on hb1)
              obtain ⟨q0, q1, q2, q3, q4, q5, q6, q7, q8, q9⟩ := HK4.out.cells10
              clear p0 p1 p2 p3 p4 p5 p6 p7 p8 p9
              go_wp2_with fail
              refine (HBv.out _).mono ?_
              rintro e w2 ⟨rfl, rfl⟩
              go_wp2_with fail
              refine (HS.out _).mono ?_
              rintro e w2 ⟨rfl, rfl⟩
              go_wp2_with fail
              refine (HC.out _).mono ?_
              rintro e w2 ⟨rfl, rfl⟩
              go_wp2_with fail
              refine (HE.out _).mono ?_
              rintro e w2 ⟨rfl, rfl⟩
              go_wp2
              go_ret
              exact ⟨rfl, by (repeat (first | with_reducible (first | assumption | exact Below.refl _ _ | refine bel_alloc ?_ _ | refine bel_drew ?_ | refine bel_drewN ?_ _ | refine bel_set ?_ (by first | omega | (simp; done) | (simp; omega)) _ | refine bel_trans ?_ (by assumption)) | assumption | refine bel_trans ?_ (by assumption)))⟩
            · have hne := not_empty (D := B) (by omega)
              have hd0 := decide_eq_false h0
              go_enter Try.func63, Try.ntmps63
              go_wp2_with fail
              refine (HV.out _ (by (repeat (first | with_reducible (first | assumption | exact Below.refl _ _ | refine bel_alloc ?_ _ | refine bel_drew ?_ | refine bel_drewN ?_ _ | refine bel_set ?_ (by first | omega | (simp; done) | (simp; omega)) _ | refine bel_trans ?_ (by assumption)) | assumption | refine bel_trans ?_ (by assumption))))).mono ?_
              rintro e w1 ⟨rfl, hb1⟩
              have HK4 := hid (HKN.out.on hb1)
              obtain ⟨q0, q1, q2, q3, q4, q5, q6, q7, q8, q9⟩ := HK4.out.cells10
              clear p0 p1 p2 p3 p4 p5 p6 p7 p8 p9
              go_wp2_with fail
              refine (HBv.out _).mono ?_
              rintro e w2 ⟨rfl, rfl⟩
              go_wp2_with fail
              refine (HS.out _).mono ?_
              rintro e w2 ⟨rfl, rfl⟩
              go_wp2_with fail
              refine (HC.out _).mono ?_
              rintro e w2 ⟨rfl, rfl⟩
              go_wp2_with fail
              refine (HE.out _).mono ?_
              rintro e w2 ⟨rfl, rfl⟩
              go_wp2
              go_ret
              exact ⟨ret_bool (by simp [hd0, *]), by (repeat (first | with_reducible (first | assumption | exact Below.refl _ _ | refine bel_alloc ?_ _ | refine bel_drew ?_ | refine bel_drewN ?_ _ | refine bel_set ?_ (by first | omega | (simp; done) | (simp; omega)) _ | refine bel_trans ?_ (by assumption)) | assumption | refine bel_trans ?_ (by assumption)))⟩
end Go.Proofs.Ytfklkepodpcdgaa
