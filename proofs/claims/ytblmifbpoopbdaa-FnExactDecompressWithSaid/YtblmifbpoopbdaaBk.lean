/- Contracts of CodesValid, CodesWidths, CodesData in both programs. No condition but that the numbers are int's. Contracts of CodesValid, CodesWidths, CodesData in the specification. No condition but that the numbers are int's. Plain mathematics: the bits of codes, code by code. No condition. -/
import Derived.Test.YtblmifbpoopbdaaBi
import Derived.Test.YtblmifbpoopbdaaBd
import Derived.Test.YtblmifbpoopbdaaBh
import Derived.Test.YtblmifbpoopbdaaBb
import Derived.Test.YtblmifbpoopbdaaBj
namespace Go.Proofs.Ytblmifbpoopbdaa
section
open Go.ChangeShapes Go.WideShapes Go.ChangeAt Go.RowKit Go.Joins
set_option linter.unusedVariables false
set_option linter.unusedSectionVars false

/-- codes can follow each other from what is known on -/
def CodesOk (k : Kn) (codes : List Int) : Prop := k.Ok ∧ codes.length ≤ 3100 ∧ k.good 0 codes = true
def TYes (k : Kn) (codes : List Int) (w : World) (e : Ending) (w' : World) : Prop :=
  ∃ g T, e = .returned (.tuple #[.pointer (some ⟨g, 0, none⟩), .bool true]) ∧ TrailAt w' w.heap.size g T ∧ T.Ok ∧ T.cs = codes ∧ T.ws = k.widths codes ∧ T.ds = k.dat codes ∧ Below w.heap.size w w'
section
variable (k : Kn) (A : Option Addr) (cap L : Nat) (w : World) (h : PsAt w L A cap k.ps) (hL : L ≤ w.heap.size) (hw : k.Wf) (A2 : Option Addr) (cap2 L2 : Nat) (codes : List Int) (hc : NumsAt w L2 A2 cap2 codes) (hL2 : L2 ≤ w.heap.size) (hn : codes.length ≤ 1048576)
include h hL hw hc hL2 hn
theorem c_trailOf_no (hk : ¬ CodesOk k codes) : Calls Try.prog 99 #[.agg #[.int .i64 k.o, .int .i64 k.l, .int .i64 k.m, .slice A k.ps.length cap, .int .i64 k.base, .int .i64 k.last], .slice A2 codes.length cap2] w (TDone k w) := by
  by_cases h1 : k.Ok
  · by_cases h2 : codes.length ≤ 3100
    · refine (c_trailOf k A cap L w h hL h1 hw A2 cap2 L2 codes hc hL2 h2).mono ?_
      rintro e w' (⟨h3, _⟩ | ⟨_, h4, h5⟩)
      · exact absurd ⟨h1, h2, h3⟩ hk
      · exact ⟨h4, h5⟩
    · exact c_trailOf_bad k A cap L w h hL hw A2 cap2 _ hn (.inr ⟨h1, by omega⟩)
  · exact c_trailOf_bad k A cap L w h hL hw A2 cap2 _ hn (.inl h1)

theorem c_trailOf_yes (hk : CodesOk k codes) : Calls Try.prog 99 #[.agg #[.int .i64 k.o, .int .i64 k.l, .int .i64 k.m, .slice A k.ps.length cap, .int .i64 k.base, .int .i64 k.last], .slice A2 codes.length cap2] w (TYes k codes w) := by
  refine (c_trailOf k A cap L w h hL hk.1 hw A2 cap2 L2 codes hc hL2 hk.2.1).mono ?_
  rintro e w' (⟨_, h4⟩ | ⟨h3, _⟩)
  · exact h4
  · rw [hk.2.2] at h3; cases h3

theorem c_CodesValid_no (hk : ¬ CodesOk k codes) : Calls Try.prog 26 #[.agg #[.int .i64 k.o, .int .i64 k.l, .int .i64 k.m, .slice A k.ps.length cap, .int .i64 k.base, .int .i64 k.last], .slice A2 codes.length cap2] w fun e w' => e = .returned (.bool false) ∧ Below w.heap.size w w' := by
  have HT := hid (fun (v : World) (hb : Below w.heap.size w v) => c_trailOf_no k A cap L v (h.below hb hL) (Nat.le_trans hL hb.size) hw A2 cap2 L2 codes (hc.below hb hL2) (Nat.le_trans hL2 hb.size) hn hk)
  obtain ⟨p0, p1, p2, p3, p4, p5⟩ := (Blk.new w 27 #[.int .i64 k.o, .int .i64 k.l, .int .i64 k.m, .slice A k.ps.length cap, .int .i64 k.base, .int .i64 k.last]).cells6
  clear h hc hw hk
  go_enter Try.func26, Try.ntmps26
  go_wp2_with fail
  refine (HT.out _ (by (repeat (first | with_reducible (first | assumption | exact Below.refl _ _ | refine bel_alloc ?_ _ | refine bel_drew ?_ | refine bel_drewN ?_ _ | refine bel_set ?_ (by first | omega | (simp; done) | (simp; omega)) _ | refine bel_trans ?_ (by assumption)) | assumption | refine bel_trans ?_ (by assumption))))).mono ?_
  rintro e w1 ⟨rfl, hb1⟩
  go_wp2
  go_ret
  exact ⟨rfl, by (repeat (first | with_reducible (first | assumption | exact Below.refl _ _ | refine bel_alloc ?_ _ | refine bel_drew ?_ | refine bel_drewN ?_ _ | refine bel_set ?_ (by first | omega | (simp; done) | (simp; omega)) _ | refine bel_trans ?_ (by assumption)) | assumption | refine bel_trans ?_ (by assumption)))⟩

theorem c_CodesValid_yes (hk : CodesOk k codes) : Calls Try.prog 26 #[.agg #[.int .i64 k.o, .int .i64 k.l, .int .i64 k.m, .slice A k.ps.length cap, .int .i64 k.base, .int .i64 k.last], .slice A2 codes.length cap2] w fun e w' => e = .returned (.bool true) ∧ Below w.heap.size w w' := by
  have HT := hid (fun (v : World) (hb : Below w.heap.size w v) => c_trailOf_yes k A cap L v (h.below hb hL) (Nat.le_trans hL hb.size) hw A2 cap2 L2 codes (hc.below hb hL2) (Nat.le_trans hL2 hb.size) hn hk)
  obtain ⟨p0, p1, p2, p3, p4, p5⟩ := (Blk.new w 27 #[.int .i64 k.o, .int .i64 k.l, .int .i64 k.m, .slice A k.ps.length cap, .int .i64 k.base, .int .i64 k.last]).cells6
  clear h hc hw hk
  go_enter Try.func26, Try.ntmps26
  go_wp2_with fail
  refine (HT.out _ (by (repeat (first | with_reducible (first | assumption | exact Below.refl _ _ | refine bel_alloc ?_ _ | refine bel_drew ?_ | refine bel_drewN ?_ _ | refine bel_set ?_ (by first | omega | (simp; done) | (simp; omega)) _ | refine bel_trans ?_ (by assumption)) | assumption | refine bel_trans ?_ (by assumption))))).mono ?_
  rintro e w1 ⟨g, T, rfl, _, _, _, _, _, hb1⟩
  go_wp2
  go_ret
  exact ⟨rfl, by (repeat (first | with_reducible (first | assumption | exact Below.refl _ _ | refine bel_alloc ?_ _ | refine bel_drew ?_ | refine bel_drewN ?_ _ | refine bel_set ?_ (by first | omega | (simp; done) | (simp; omega)) _ | refine bel_trans ?_ (by assumption)) | assumption | refine bel_trans ?_ (by assumption)))⟩

theorem c_CodesWidths_no (hk : ¬ CodesOk k codes) : Calls Try.prog 27 #[.agg #[.int .i64 k.o, .int .i64 k.l, .int .i64 k.m, .slice A k.ps.length cap, .int .i64 k.base, .int .i64 k.last], .slice A2 codes.length cap2] w fun e w' => e = .returned (.tuple #[.slice none 0 0, .bool false]) ∧ Below w.heap.size w w' := by
  have HT := hid (fun (v : World) (hb : Below w.heap.size w v) => c_trailOf_no k A cap L v (h.below hb hL) (Nat.le_trans hL hb.size) hw A2 cap2 L2 codes (hc.below hb hL2) (Nat.le_trans hL2 hb.size) hn hk)
  obtain ⟨p0, p1, p2, p3, p4, p5⟩ := (Blk.new w 27 #[.int .i64 k.o, .int .i64 k.l, .int .i64 k.m, .slice A k.ps.length cap, .int .i64 k.base, .int .i64 k.last]).cells6
  clear h hc hw hk
  go_enter Try.func27, Try.ntmps27
  go_wp2_with fail
  refine (HT.out _ (by (repeat (first | with_reducible (first | assumption | exact Below.refl _ _ | refine bel_alloc ?_ _ | refine bel_drew ?_ | refine bel_drewN ?_ _ | refine bel_set ?_ (by first | omega | (simp; done) | (simp; omega)) _ | refine bel_trans ?_ (by assumption)) | assumption | refine bel_trans ?_ (by assumption))))).mono ?_
  rintro e w1 ⟨rfl, hb1⟩
  go_wp2
  go_ret2
  exact ⟨rfl, by (repeat (first | with_reducible (first | assumption | exact Below.refl _ _ | refine bel_alloc ?_ _ | refine bel_drew ?_ | refine bel_drewN ?_ _ | refine bel_set ?_ (by first | omega | (simp; done) | (simp; omega)) _ | refine bel_trans ?_ (by assumption)) | assumption | refine bel_trans ?_ (by assumption)))⟩

theorem c_CodesWidths_yes (hk : CodesOk k codes) : Calls Try.prog 27 #[.agg #[.int .i64 k.o, .int .i64 k.l, .int .i64 k.m, .slice A k.ps.length cap, .int .i64 k.base, .int .i64 k.last], .slice A2 codes.length cap2] w fun e w' => ∃ A' cap', e = .returned (.tuple #[.slice A' (k.widths codes).length cap', .bool true]) ∧ w'.ownsRow w.heap.size 3 1 (.slice A' (k.widths codes).length cap') (k.widths codes).length ((k.widths codes).map iv) ∧ Below w.heap.size w w' := by
  have HT := hid (fun (v : World) (hb : Below w.heap.size w v) => c_trailOf_yes k A cap L v (h.below hb hL) (Nat.le_trans hL hb.size) hw A2 cap2 L2 codes (hc.below hb hL2) (Nat.le_trans hL2 hb.size) hn hk)
  obtain ⟨p0, p1, p2, p3, p4, p5⟩ := (Blk.new w 27 #[.int .i64 k.o, .int .i64 k.l, .int .i64 k.m, .slice A k.ps.length cap, .int .i64 k.base, .int .i64 k.last]).cells6
  clear h hc hw hk
  obtain ⟨Ws, hWs⟩ : ∃ Ws, Ws = k.widths codes := ⟨_, rfl⟩
  rw [← hWs]
  have HWs := hid hWs
  clear hWs
  go_enter Try.func27, Try.ntmps27
  go_wp2_with fail
  refine (HT.out _ (by (repeat (first | with_reducible (first | assumption | exact Below.refl _ _ | refine bel_alloc ?_ _ | refine bel_drew ?_ | refine bel_drewN ?_ _ | refine bel_set ?_ (by first | omega | (simp; done) | (simp; omega)) _ | refine bel_trans ?_ (by assumption)) | assumption | refine bel_trans ?_ (by assumption))))).mono ?_
  rintro e w1 ⟨g, T, rfl, ⟨A1, c1, vc, vw, vd, hT⟩, _, _, hw2, _, hb1⟩
  have e1 : T.ws = Ws := hw2.trans HWs.out.symm
  have ho := hT.ws
  rw [e1] at ho
  obtain ⟨A3, c3, rfl⟩ := own_sl ho
  have q9 := hT.blk.cell 9
  have HO := hid (own_mono (B' := w.heap.size) ho (by simp))
  clear ho e1 hw2 hT
  go_wp2
  go_ret2
  exact ⟨A3, c3, rfl, HO.out, by (repeat (first | with_reducible (first | assumption | exact Below.refl _ _ | refine bel_alloc ?_ _ | refine bel_drew ?_ | refine bel_drewN ?_ _ | refine bel_set ?_ (by first | omega | (simp; done) | (simp; omega)) _ | refine bel_trans ?_ (by assumption)) | assumption | refine bel_trans ?_ (by assumption)))⟩

theorem c_CodesData_no (hk : ¬ CodesOk k codes) : Calls Try.prog 24 #[.agg #[.int .i64 k.o, .int .i64 k.l, .int .i64 k.m, .slice A k.ps.length cap, .int .i64 k.base, .int .i64 k.last], .slice A2 codes.length cap2] w fun e w' => e = .returned (.tuple #[.string ByteArray.empty, .bool false]) ∧ Below w.heap.size w w' := by
  have HT := hid (fun (v : World) (hb : Below w.heap.size w v) => c_trailOf_no k A cap L v (h.below hb hL) (Nat.le_trans hL hb.size) hw A2 cap2 L2 codes (hc.below hb hL2) (Nat.le_trans hL2 hb.size) hn hk)
  obtain ⟨p0, p1, p2, p3, p4, p5⟩ := (Blk.new w 27 #[.int .i64 k.o, .int .i64 k.l, .int .i64 k.m, .slice A k.ps.length cap, .int .i64 k.base, .int .i64 k.last]).cells6
  clear h hc hw hk
  go_enter Try.func24, Try.ntmps24
  go_wp2_with fail
  refine (HT.out _ (by (repeat (first | with_reducible (first | assumption | exact Below.refl _ _ | refine bel_alloc ?_ _ | refine bel_drew ?_ | refine bel_drewN ?_ _ | refine bel_set ?_ (by first | omega | (simp; done) | (simp; omega)) _ | refine bel_trans ?_ (by assumption)) | assumption | refine bel_trans ?_ (by assumption))))).mono ?_
  rintro e w1 ⟨rfl, hb1⟩
  go_wp2
  go_ret2
  exact ⟨rfl, by (repeat (first | with_reducible (first | assumption | exact Below.refl _ _ | refine bel_alloc ?_ _ | refine bel_drew ?_ | refine bel_drewN ?_ _ | refine bel_set ?_ (by first | omega | (simp; done) | (simp; omega)) _ | refine bel_trans ?_ (by assumption)) | assumption | refine bel_trans ?_ (by assumption)))⟩

theorem c_CodesData_yes (hk : CodesOk k codes) : Calls Try.prog 24 #[.agg #[.int .i64 k.o, .int .i64 k.l, .int .i64 k.m, .slice A k.ps.length cap, .int .i64 k.base, .int .i64 k.last], .slice A2 codes.length cap2] w fun e w' => e = .returned (.tuple #[.string (str (k.dat codes)), .bool true]) ∧ Below w.heap.size w w' := by
  have HT := hid (fun (v : World) (hb : Below w.heap.size w v) => c_trailOf_yes k A cap L v (h.below hb hL) (Nat.le_trans hL hb.size) hw A2 cap2 L2 codes (hc.below hb hL2) (Nat.le_trans hL2 hb.size) hn hk)
  obtain ⟨p0, p1, p2, p3, p4, p5⟩ := (Blk.new w 27 #[.int .i64 k.o, .int .i64 k.l, .int .i64 k.m, .slice A k.ps.length cap, .int .i64 k.base, .int .i64 k.last]).cells6
  clear h hc hw hk
  obtain ⟨Ws, hWs⟩ : ∃ Ws, Ws = k.dat codes := ⟨_, rfl⟩
  rw [← hWs]
  have HWs := hid hWs
  clear hWs
  go_enter Try.func24, Try.ntmps24
  go_wp2_with fail
  refine (HT.out _ (by (repeat (first | with_reducible (first | assumption | exact Below.refl _ _ | refine bel_alloc ?_ _ | refine bel_drew ?_ | refine bel_drewN ?_ _ | refine bel_set ?_ (by first | omega | (simp; done) | (simp; omega)) _ | refine bel_trans ?_ (by assumption)) | assumption | refine bel_trans ?_ (by assumption))))).mono ?_
  rintro e w1 ⟨g, T, rfl, ⟨A1, c1, vc, vw, vd, hT⟩, _, _, _, hw2, hb1⟩
  have e1 : T.ds = Ws := hw2.trans HWs.out.symm
  have ho := hT.ds
  rw [e1] at ho
  have q10 := hT.blk.cell 10
  have hcv := run_own_str (P := Try.prog) Try.underlying22 Try.underlying5 Try.underlying9 ho
  obtain ⟨A3, c3, rfl⟩ := own_sl ho
  clear ho e1 hw2 hT
  go_wp2
  go_ret2
  exact ⟨rfl, by (repeat (first | with_reducible (first | assumption | exact Below.refl _ _ | refine bel_alloc ?_ _ | refine bel_drew ?_ | refine bel_drewN ?_ _ | refine bel_set ?_ (by first | omega | (simp; done) | (simp; omega)) _ | refine bel_trans ?_ (by assumption)) | assumption | refine bel_trans ?_ (by assumption)))⟩
omit hw hn

theorem c_l2All_no (hw : k.Wf) (hn : codes.length ≤ 1048576) (hk : ¬ CodesOk k codes) : Calls Try.prog 100 #[.agg #[.int .i64 k.o, .int .i64 k.l, .int .i64 k.m, .slice A k.ps.length cap, .int .i64 k.base, .int .i64 k.last], .slice A2 codes.length cap2] w fun e w' => e = .returned (.bool false) ∧ Below w.heap.size w w' := by
  obtain ⟨p0, p1, p2, p3, p4, p5⟩ := (Blk.new w 27 #[.int .i64 k.o, .int .i64 k.l, .int .i64 k.m, .slice A k.ps.length cap, .int .i64 k.base, .int .i64 k.last]).cells6
  have kN := Blk.new w 27 #[.int .i64 k.o, .int .i64 k.l, .int .i64 k.m, .slice A k.ps.length cap, .int .i64 k.base, .int .i64 k.last]
  by_cases h1 : k.Ok
  · have HV := hid (fun (v : World) (hb : Below w.heap.size w v) => c_sKnownValid_yes k A cap L v (h.below hb hL) (Nat.le_trans hL hb.size) h1 hw)
    by_cases h2 : codes.length ≤ 3100
    · have hg : k.good 0 codes = false := by
        cases hg : k.good 0 codes with
        | false => rfl
        | true => exact absurd ⟨h1, h2, hg⟩ hk
      have HWk := hid (fun (v : World) (hb : Below w.heap.size w v) => c_l2Walk k A cap L v (h.below hb hL) (Nat.le_trans hL hb.size) h1 A2 cap2 L2 codes (hc.below hb hL2) (Nat.le_trans hL2 hb.size) hn)
      have HG := hid hg
      clear h hc hw hk h1 hg
      go_enter Try.func100, Try.ntmps100
      go_wp2_with fail
      refine (HV.out _ (by (repeat (first | with_reducible (first | assumption | exact Below.refl _ _ | refine bel_alloc ?_ _ | refine bel_drew ?_ | refine bel_drewN ?_ _ | refine bel_set ?_ (by first | omega | (simp; done) | (simp; omega)) _ | refine bel_trans ?_ (by assumption)) | assumption | refine bel_trans ?_ (by assumption))))).mono ?_
      rintro e w1 ⟨rfl, hb1⟩
      have hB1 : Below w.heap.size w w1 := by (repeat (first | with_reducible (first | assumption | exact Below.refl _ _ | refine bel_alloc ?_ _ | refine bel_drew ?_ | refine bel_drewN ?_ _ | refine bel_set ?_ (by first | omega | (simp; done) | (simp; omega)) _ | refine bel_trans ?_ (by assumption)) | assumption | refine bel_trans ?_ (by assumption)))
      clear p0 p1 p2 p3 p4 p5
      obtain ⟨p0, p1, p2, p3, p4, p5⟩ := (kN.on hb1).cells6
      clear hb1
      go_wp2_with fail
      refine (HWk.out _ hB1).mono ?_
      rintro e w2 ⟨k', A', cap', v, s, b, rfl, _, hbad, ⟨A3, c3, n3, rfl⟩, hb2⟩
      have HB := hid (hbad HG.out)
      clear hbad p0 p1 p2 p3 p4 p5
      cases b with
      | false =>
        go_wp2
        go_ret
        exact ⟨rfl, by (repeat (first | with_reducible (first | assumption | exact Below.refl _ _ | refine bel_alloc ?_ _ | refine bel_drew ?_ | refine bel_drewN ?_ _ | refine bel_set ?_ (by first | omega | (simp; done) | (simp; omega)) _ | refine bel_trans ?_ (by assumption)) | assumption | refine bel_trans ?_ (by assumption)))⟩
      | true =>
        have hss : (2000 : Int) < (s.size : Int) := by
          have := HB.out
          rw [Bool.true_and, decide_eq_false_iff_not] at this
          omega
        go_wp2
        go_ret
        exact ⟨ret_bool (decide_eq_false (by omega)), by (repeat (first | with_reducible (first | assumption | exact Below.refl _ _ | refine bel_alloc ?_ _ | refine bel_drew ?_ | refine bel_drewN ?_ _ | refine bel_set ?_ (by first | omega | (simp; done) | (simp; omega)) _ | refine bel_trans ?_ (by assumption)) | assumption | refine bel_trans ?_ (by assumption)))⟩
    · clear h hc hw hk h1
      go_enter Try.func100, Try.ntmps100
      go_wp2_with fail
      refine (HV.out _ (by (repeat (first | with_reducible (first | assumption | exact Below.refl _ _ | refine bel_alloc ?_ _ | refine bel_drew ?_ | refine bel_drewN ?_ _ | refine bel_set ?_ (by first | omega | (simp; done) | (simp; omega)) _ | refine bel_trans ?_ (by assumption)) | assumption | refine bel_trans ?_ (by assumption))))).mono ?_
      rintro e w1 ⟨rfl, hb1⟩
      go_wp2
      go_ret
      exact ⟨rfl, by (repeat (first | with_reducible (first | assumption | exact Below.refl _ _ | refine bel_alloc ?_ _ | refine bel_drew ?_ | refine bel_drewN ?_ _ | refine bel_set ?_ (by first | omega | (simp; done) | (simp; omega)) _ | refine bel_trans ?_ (by assumption)) | assumption | refine bel_trans ?_ (by assumption)))⟩
  · have HV := hid (fun (v : World) (hb : Below w.heap.size w v) => c_sKnownValid_no k A cap L v (h.below hb hL) (Nat.le_trans hL hb.size) h1 hw)
    clear h hc hw hk h1
    go_enter Try.func100, Try.ntmps100
    go_wp2_with fail
    refine (HV.out _ (by (repeat (first | with_reducible (first | assumption | exact Below.refl _ _ | refine bel_alloc ?_ _ | refine bel_drew ?_ | refine bel_drewN ?_ _ | refine bel_set ?_ (by first | omega | (simp; done) | (simp; omega)) _ | refine bel_trans ?_ (by assumption)) | assumption | refine bel_trans ?_ (by assumption))))).mono ?_
    rintro e w1 ⟨rfl, hb1⟩
    go_wp2
    go_ret
    exact ⟨rfl, by (repeat (first | with_reducible (first | assumption | exact Below.refl _ _ | refine bel_alloc ?_ _ | refine bel_drew ?_ | refine bel_drewN ?_ _ | refine bel_set ?_ (by first | omega | (simp; done) | (simp; omega)) _ | refine bel_trans ?_ (by assumption)) | assumption | refine bel_trans ?_ (by assumption)))⟩

theorem c_l2All_yes (hw : k.Wf) (hk : CodesOk k codes) : Calls Try.prog 100 #[.agg #[.int .i64 k.o, .int .i64 k.l, .int .i64 k.m, .slice A k.ps.length cap, .int .i64 k.base, .int .i64 k.last], .slice A2 codes.length cap2] w fun e w' => e = .returned (.bool true) ∧ Below w.heap.size w w' := by
  obtain ⟨p0, p1, p2, p3, p4, p5⟩ := (Blk.new w 27 #[.int .i64 k.o, .int .i64 k.l, .int .i64 k.m, .slice A k.ps.length cap, .int .i64 k.base, .int .i64 k.last]).cells6
  have kN := Blk.new w 27 #[.int .i64 k.o, .int .i64 k.l, .int .i64 k.m, .slice A k.ps.length cap, .int .i64 k.base, .int .i64 k.last]
  obtain ⟨h1, h2, hg⟩ := hk
  have HV := hid (fun (v : World) (hb : Below w.heap.size w v) => c_sKnownValid_yes k A cap L v (h.below hb hL) (Nat.le_trans hL hb.size) h1 hw)
  have HWk := hid (fun (v : World) (hb : Below w.heap.size w v) => c_l2Walk k A cap L v (h.below hb hL) (Nat.le_trans hL hb.size) h1 A2 cap2 L2 codes (hc.below hb hL2) (Nat.le_trans hL2 hb.size) (by omega))
  have HG := hid hg
  have HD := hid (show (str (k.dat codes)).size ≤ 2000 by rw [str_size]; have := h1.dat_len (Nat.zero_le _) hg; omega)
  clear h hc hw h1 hg
  go_enter Try.func100, Try.ntmps100
  go_wp2_with fail
  refine (HV.out _ (by (repeat (first | with_reducible (first | assumption | exact Below.refl _ _ | refine bel_alloc ?_ _ | refine bel_drew ?_ | refine bel_drewN ?_ _ | refine bel_set ?_ (by first | omega | (simp; done) | (simp; omega)) _ | refine bel_trans ?_ (by assumption)) | assumption | refine bel_trans ?_ (by assumption))))).mono ?_
  rintro e w1 ⟨rfl, hb1⟩
  have hB1 : Below w.heap.size w w1 := by (repeat (first | with_reducible (first | assumption | exact Below.refl _ _ | refine bel_alloc ?_ _ | refine bel_drew ?_ | refine bel_drewN ?_ _ | refine bel_set ?_ (by first | omega | (simp; done) | (simp; omega)) _ | refine bel_trans ?_ (by assumption)) | assumption | refine bel_trans ?_ (by assumption)))
  clear p0 p1 p2 p3 p4 p5
  obtain ⟨p0, p1, p2, p3, p4, p5⟩ := (kN.on hb1).cells6
  clear hb1
  go_wp2_with fail
  refine (HWk.out _ hB1).mono ?_
  rintro e w2 ⟨k', A', cap', v, s, b, rfl, hgood, _, ⟨A3, c3, n3, rfl⟩, hb2⟩
  obtain ⟨rfl, hs, _⟩ := hgood HG.out
  have hss : (s.size : Int) ≤ 2000 := by rw [hs]; have := HD.out; omega
  clear hs p0 p1 p2 p3 p4 p5
  go_wp2
  go_ret
  exact ⟨rfl, by (repeat (first | with_reducible (first | assumption | exact Below.refl _ _ | refine bel_alloc ?_ _ | refine bel_drew ?_ | refine bel_drewN ?_ _ | refine bel_set ?_ (by first | omega | (simp; done) | (simp; omega)) _ | refine bel_trans ?_ (by assumption)) | assumption | refine bel_trans ?_ (by assumption)))⟩

end
end

section
open Go.ChangeShapes Go.WideShapes Go.ChangeAt Go.RowKit Go.Joins
set_option linter.unusedVariables false
set_option linter.unusedSectionVars false

def WYes (k : Kn) (codes : List Int) (w : World) (e : Ending) (w' : World) : Prop :=
  ∃ (k' : Kn) (A : Option Addr) (cap : Nat) (A2 : Option Addr) (cap2 : Nat), e = .returned (.tuple #[.agg #[.int .i64 k'.o, .int .i64 k'.l, .int .i64 k'.m, .slice A k'.ps.length cap, .int .i64 k'.base, .int .i64 k'.last], .slice A2 (k.widths codes).length cap2, .string (str (k.dat codes)), .bool true]) ∧ w'.ownsRow w.heap.size 3 1 (.slice A2 (k.widths codes).length cap2) (k.widths codes).length ((k.widths codes).map iv) ∧ Below w.heap.size w w'
section
variable (k : Kn) (A : Option Addr) (cap L : Nat) (w : World) (h : PsAt w L A cap k.ps) (hL : L ≤ w.heap.size) (A2 : Option Addr) (cap2 L2 : Nat) (codes : List Int) (hc : NumsAt w L2 A2 cap2 codes) (hL2 : L2 ≤ w.heap.size)
include h hL hc hL2
theorem c_l2Walk_yes (hk : CodesOk k codes) : Calls Try.prog 101 #[.agg #[.int .i64 k.o, .int .i64 k.l, .int .i64 k.m, .slice A k.ps.length cap, .int .i64 k.base, .int .i64 k.last], .slice A2 codes.length cap2] w (WYes k codes w) := by
  refine (c_l2Walk k A cap L w h hL hk.1 A2 cap2 L2 codes hc hL2 (by have := hk.2.1; omega)).mono ?_
  rintro e w' ⟨k', A', cap', v, s, b, rfl, hgood, _, ⟨A3, c3, n3, rfl⟩, hb2⟩
  obtain ⟨rfl, rfl, ho⟩ := hgood hk.2.2
  have h2 := own_ilen ho
  rw [Kn.widths_length] at h2
  obtain ⟨A4, c4, e4⟩ := own_sl ho
  simp at e4
  obtain ⟨rfl, rfl, rfl⟩ := e4
  exact ⟨k', A', cap', A3, c3, by rw [Kn.widths_length], by rw [Kn.widths_length]; exact ho, hb2⟩

theorem c_sCodesData_no (hw : k.Wf) (hn : codes.length ≤ 1048576) (hk : ¬ CodesOk k codes) : Calls Try.prog 25 #[.agg #[.int .i64 k.o, .int .i64 k.l, .int .i64 k.m, .slice A k.ps.length cap, .int .i64 k.base, .int .i64 k.last], .slice A2 codes.length cap2] w fun e w' => e = .returned (.tuple #[.string ByteArray.empty, .bool false]) ∧ Below w.heap.size w w' := by
  have HA := hid (fun (v : World) (hb : Below w.heap.size w v) => c_l2All_no k A cap L v (h.below hb hL) (Nat.le_trans hL hb.size) A2 cap2 L2 codes (hc.below hb hL2) (Nat.le_trans hL2 hb.size) hw hn hk)
  obtain ⟨p0, p1, p2, p3, p4, p5⟩ := (Blk.new w 27 #[.int .i64 k.o, .int .i64 k.l, .int .i64 k.m, .slice A k.ps.length cap, .int .i64 k.base, .int .i64 k.last]).cells6
  clear h hc hw hk
  go_enter Try.func25, Try.ntmps25
  go_wp2_with fail
  refine (HA.out _ (by (repeat (first | with_reducible (first | assumption | exact Below.refl _ _ | refine bel_alloc ?_ _ | refine bel_drew ?_ | refine bel_drewN ?_ _ | refine bel_set ?_ (by first | omega | (simp; done) | (simp; omega)) _ | refine bel_trans ?_ (by assumption)) | assumption | refine bel_trans ?_ (by assumption))))).mono ?_
  rintro e w1 ⟨rfl, hb1⟩
  go_wp2
  go_ret2
  exact ⟨rfl, by (repeat (first | with_reducible (first | assumption | exact Below.refl _ _ | refine bel_alloc ?_ _ | refine bel_drew ?_ | refine bel_drewN ?_ _ | refine bel_set ?_ (by first | omega | (simp; done) | (simp; omega)) _ | refine bel_trans ?_ (by assumption)) | assumption | refine bel_trans ?_ (by assumption)))⟩

theorem c_sCodesData_yes (hw : k.Wf) (hk : CodesOk k codes) : Calls Try.prog 25 #[.agg #[.int .i64 k.o, .int .i64 k.l, .int .i64 k.m, .slice A k.ps.length cap, .int .i64 k.base, .int .i64 k.last], .slice A2 codes.length cap2] w fun e w' => e = .returned (.tuple #[.string (str (k.dat codes)), .bool true]) ∧ Below w.heap.size w w' := by
  have HA := hid (fun (v : World) (hb : Below w.heap.size w v) => c_l2All_yes k A cap L v (h.below hb hL) (Nat.le_trans hL hb.size) A2 cap2 L2 codes (hc.below hb hL2) (Nat.le_trans hL2 hb.size) hw hk)
  have HWk := hid (fun (v : World) (hb : Below w.heap.size w v) => c_l2Walk_yes k A cap L v (h.below hb hL) (Nat.le_trans hL hb.size) A2 cap2 L2 codes (hc.below hb hL2) (Nat.le_trans hL2 hb.size) hk)
  have kN := Blk.new w 27 #[.int .i64 k.o, .int .i64 k.l, .int .i64 k.m, .slice A k.ps.length cap, .int .i64 k.base, .int .i64 k.last]
  obtain ⟨p0, p1, p2, p3, p4, p5⟩ := kN.cells6
  clear h hc hw hk
  unfold WYes at HWk
  obtain ⟨Ws, hWs⟩ : ∃ Ws, Ws = k.widths codes := ⟨_, rfl⟩
  obtain ⟨Ds, hDs⟩ : ∃ Ds, Ds = str (k.dat codes) := ⟨_, rfl⟩
  simp only [← hWs, ← hDs] at HWk
  rw [← hDs]
  clear hWs hDs
  go_enter Try.func25, Try.ntmps25
  go_wp2_with fail
  refine (HA.out _ (by (repeat (first | with_reducible (first | assumption | exact Below.refl _ _ | refine bel_alloc ?_ _ | refine bel_drew ?_ | refine bel_drewN ?_ _ | refine bel_set ?_ (by first | omega | (simp; done) | (simp; omega)) _ | refine bel_trans ?_ (by assumption)) | assumption | refine bel_trans ?_ (by assumption))))).mono ?_
  rintro e w1 ⟨rfl, hb1⟩
  have hB1 : Below w.heap.size w w1 := by (repeat (first | with_reducible (first | assumption | exact Below.refl _ _ | refine bel_alloc ?_ _ | refine bel_drew ?_ | refine bel_drewN ?_ _ | refine bel_set ?_ (by first | omega | (simp; done) | (simp; omega)) _ | refine bel_trans ?_ (by assumption)) | assumption | refine bel_trans ?_ (by assumption)))
  clear p0 p1 p2 p3 p4 p5
  obtain ⟨p0, p1, p2, p3, p4, p5⟩ := (kN.on hb1).cells6
  clear hb1
  go_wp2_with fail
  refine (HWk.out _ hB1).mono ?_
  rintro e w2 ⟨k', A', cap', A3, c3, rfl, ho, hb2⟩
  clear ho p0 p1 p2 p3 p4 p5
  go_wp2
  go_ret2
  exact ⟨rfl, by (repeat (first | with_reducible (first | assumption | exact Below.refl _ _ | refine bel_alloc ?_ _ | refine bel_drew ?_ | refine bel_drewN ?_ _ | refine bel_set ?_ (by first | omega | (simp; done) | (simp; omega)) _ | refine bel_trans ?_ (by assumption)) | assumption | refine bel_trans ?_ (by assumption)))⟩

end
end

section
/-- the bits of numbers with their widths -/
def packL (o : Int) : List Int → List Int → List UInt8
  | c :: cs, x :: ws => M.codeBits (o == 1) c.toNat x.toNat ++ packL o cs ws
  | _, _ => []
theorem packL_nil (o : Int) (ws : List Int) : packL o [] ws = [] := by cases ws <;> rfl
theorem bits_packL (k : Kn) (cs : List Int) : k.bits cs = packL k.o cs (k.widths cs) := by
  induction cs generalizing k with
  | nil => rfl
  | cons c t ih =>
    simp only [Kn.bits, Kn.widths, packL]
    rw [ih, Kn.step_o]
theorem packL_snoc (o : Int) (cs ws : List Int) (n : Nat) (c x : Int) (hc : cs[n]? = some c) (hx : ws[n]? = some x) : packL o (cs.take (n + 1)) (ws.take (n + 1)) = packL o (cs.take n) (ws.take n) ++ M.codeBits (o == 1) c.toNat x.toNat := by
  induction n generalizing cs ws with
  | zero =>
    cases cs with
    | nil => simp at hc
    | cons a t =>
      cases ws with
      | nil => simp at hx
      | cons b u =>
        simp at hc hx
        subst hc hx
        simp [packL]
  | succ n ih =>
    cases cs with
    | nil => simp at hc
    | cons a t =>
      cases ws with
      | nil => simp at hx
      | cons b u =>
        rw [List.getElem?_cons_succ] at hc hx
        simp only [List.take_succ_cons, packL]
        rw [ih t u hc hx, List.append_assoc]
theorem packL_len (o : Int) (cs ws : List Int) (h : ∀ x ∈ ws, x ≤ 10) : (packL o cs ws).length ≤ 10 * cs.length := by
  induction cs generalizing ws with
  | nil => rw [packL_nil]; simp
  | cons c t ih =>
    cases ws with
    | nil => simp [packL]
    | cons x u =>
      have := ih u (fun y hy => h y (by simp [hy]))
      have hx := h x (by simp)
      simp only [packL, List.length_append, codeBits_len, List.length_cons]
      omega
theorem chr_bit (b : Bool) : isBit (M.chr b) = true := by cases b <;> rfl
theorem codeBits_bit (h : Bool) (n k : Nat) : (M.codeBits h n k).all isBit = true := by
  rw [List.all_eq_true]
  intro x hx
  simp only [M.codeBits, M.asc, List.mem_map] at hx
  obtain ⟨b, _, rfl⟩ := hx
  exact chr_bit b
theorem packL_bit (o : Int) (cs ws : List Int) : (packL o cs ws).all isBit = true := by
  induction cs generalizing ws with
  | nil => rw [packL_nil]; rfl
  | cons c t ih =>
    cases ws with
    | nil => rfl
    | cons x u => simp only [packL, List.all_append, codeBits_bit, ih, Bool.and_self]
/-- codes that follow each other, and their widths, are small -/
theorem Kn.Ok.good_each {k : Kn} (h : k.Ok) {n : Nat} {cs : List Int} (hg : k.good n cs = true) : (∀ (i : Nat) (c : Int), cs[i]? = some c → 0 ≤ c ∧ c ≤ 1023) ∧ (∀ (i : Nat) (x : Int), (k.widths cs)[i]? = some x → 2 ≤ x ∧ x ≤ 10) := by
  induction cs generalizing k n with
  | nil => simp [Kn.widths]
  | cons c t ih =>
    have hw := h.width_bd
    have hb := h.great_bd
    have hcb := h.cbd
    have h0 := h.good_code0 hg
    by_cases h1 : c = k.c + 1
    · subst h1
      rw [Kn.good_end] at hg
      have : t = [] := by simpa using hg
      subst this
      refine ⟨fun i x hx => ?_, fun i x hx => ?_⟩
      · cases i with
        | zero => simp at hx; omega
        | succ i => simp at hx
      · cases i with
        | zero => simp [Kn.widths] at hx; omega
        | succ i => simp [Kn.widths] at hx
    · have hs := h.good_step hg h1
      have := ih hs.1 hs.2.2.2
      refine ⟨fun i x hx => ?_, fun i x hx => ?_⟩
      · cases i with
        | zero => simp at hx; omega
        | succ i => rw [List.getElem?_cons_succ] at hx; exact this.1 i x hx
      · cases i with
        | zero => simp [Kn.widths] at hx; omega
        | succ i => rw [Kn.widths, List.getElem?_cons_succ] at hx; exact this.2 i x hx
theorem Kn.Ok.bits_ok {k : Kn} (h : k.Ok) {cs : List Int} (hg : k.good 0 cs = true) (hl : cs.length ≤ 3100) : packOk k.o (str (k.bits cs)) = true := by
  have h1 := h.bits_len hg
  have h2 : orderOk k.o = true := by
    have := h.set
    simp only [setOk, Bool.and_eq_true] at this
    exact this.1.1
  simp only [packOk, bitsOk, h2, Bool.true_and, Bool.and_eq_true, decide_eq_true_eq, str_size, str_list]
  exact ⟨by omega, by rw [bits_packL]; exact packL_bit _ _ _⟩
/-- the stream of codes -/
def Kn.packed (k : Kn) (cs : List Int) : ByteArray := packS k.o (str (k.bits cs))
end
end Go.Proofs.Ytblmifbpoopbdaa
