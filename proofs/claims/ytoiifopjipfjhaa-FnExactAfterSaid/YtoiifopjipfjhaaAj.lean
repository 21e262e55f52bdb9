/- The contract of After in the program, where it says yes. No condition but that the numbers are int's. -/
import Derived.Test.YtoiifopjipfjhaaAi
namespace Go.Proofs.Ytoiifopjipfjhaa
open Go.ChangeShapes Go.WideShapes Go.ChangeAt Go.RowKit Go.Joins
set_option linter.unusedVariables false

theorem c_After_clear (k : Kn) (A : Option Addr) (cap L : Nat) (w : World) (h : PsAt w L A cap k.ps) (hL : L ≤ w.heap.size) (hk : k.Ok) (hw : k.Wf) : Calls Try.prog 43 #[.agg #[.int .i64 k.o, .int .i64 k.l, .int .i64 k.m, .slice A k.ps.length cap, .int .i64 k.base, .int .i64 k.last], .int .i64 (pow2 k.l)] w fun e w' => ∃ A' cap', e = .returned (.tuple #[.agg #[.int .i64 k.o, .int .i64 k.l, .int .i64 k.m, .slice A' k.cleared.ps.length cap', .int .i64 k.base, .int .i64 (-1)], .bool true]) ∧ w'.ownsRow w.heap.size 41 2 (.slice A' k.cleared.ps.length cap') k.cleared.ps.length (prs k.cleared.ps) ∧ Below w.heap.size w w' := by
  have hbd := hk.cbd
  have hgr := hk.great_bd
  have hg : 0 ≤ pow2 k.l ∧ pow2 k.l ≤ k.great := by unfold Kn.c at hbd hgr; omega
  have hne : ¬ pow2 k.l = pow2 k.l + 1 := by omega
  have hne2 : (pow2 k.l == pow2 k.l + 1) = false := by rw [beq_eq_false_iff_ne]; exact hne
  clear hbd hgr
  have hlen := hk.len
  have HV := hid (fun (v : World) (hb : Below w.heap.size w v) => c_KnownValid_yes k A cap L v (h.below hb hL) (Nat.le_trans hL hb.size) hk hw)
  have HF := hid (fun (v : World) (hv : KAt v w.heap.size k (.slice A k.ps.length cap)) => c_canFollow w.heap.size k A cap v hk hv (pow2 k.l))
  have HE := hid (fun (v : World) => c_EndCode_yes k.o k.l k.m v hk.set)
  simp only [decide_eq_true hg] at HF
  have HO := hid (fun (v : World) (hb : Below w.heap.size w v) => c_ownCopy k A cap w.heap.size v ((h.below hb hL).mono hL) hb.size (by omega))
  have HW := hid (fun (b B : Nat) (t : TypeId) (cs : Array Value) (A4 : Option Addr) (c4 : Nat) (v : World) (h1 : Blk v b t cs) (h2 : KAt v b k (.slice A4 k.ps.length c4)) (h3 : PsAt v v.heap.size A4 c4 k.ps) (h4 : v.ownsRow B 41 2 (.slice A4 k.ps.length c4) k.ps.length (prs k.ps)) (h5 : ∀ g, A4 = some ⟨g, 0, none⟩ → g ≠ b) (h6 : B ≤ v.heap.size) (h7 : t ≠ 41) => c_follow_clear b B t cs k A4 c4 v hk h1 h2 h3 h4 h5)
  have kN0 := (Blk.new w 28 #[.int .i64 k.o, .int .i64 k.l, .int .i64 k.m, .slice A k.ps.length cap, .int .i64 k.base, .int .i64 k.last]).alloc (.cells #[.int .i64 0, .int .i64 0, .int .i64 0, .slice none 0 0, .int .i64 0, .int .i64 0] 28)
  have kR0 := Blk.top w (.cells #[.int .i64 k.o, .int .i64 k.l, .int .i64 k.m, .slice A k.ps.length cap, .int .i64 k.base, .int .i64 k.last] 28) 28 #[.int .i64 0, .int .i64 0, .int .i64 0, .slice none 0 0, .int .i64 0, .int .i64 0]
  clear h hk hw hg
  go_enter Try.func43, Try.ntmps43
  obtain ⟨p0, p1, p2, p3, p4, p5⟩ := kN0.cells6
  go_wp2_with fail
  refine (HV.out _ (by (repeat (first | with_reducible assumption | with_reducible exact Below.refl _ _ | with_reducible refine bel_alloc ?_ _ | with_reducible refine bel_drew ?_ | with_reducible refine bel_drewN ?_ _ | with_reducible refine bel_set ?_ (by first | omega | (simp; done) | (simp; omega)) _ | with_reducible refine bel_trans ?_ (by with_reducible assumption) | exact Below.refl _ _ | assumption | refine bel_alloc ?_ _ | refine bel_drew ?_ | refine bel_drewN ?_ _ | refine bel_set ?_ (by first | omega | (simp; done) | (simp; omega)) _ | refine bel_trans ?_ (by assumption))))).mono ?_
  rintro e w1 ⟨rfl, hb1⟩
  have kN1 := kN0.on hb1
  have kR1 := kR0.on hb1
  have hB1 : Below w.heap.size w w1 := by (repeat (first | with_reducible assumption | with_reducible exact Below.refl _ _ | with_reducible refine bel_alloc ?_ _ | with_reducible refine bel_drew ?_ | with_reducible refine bel_drewN ?_ _ | with_reducible refine bel_set ?_ (by first | omega | (simp; done) | (simp; omega)) _ | with_reducible refine bel_trans ?_ (by with_reducible assumption) | exact Below.refl _ _ | assumption | refine bel_alloc ?_ _ | refine bel_drew ?_ | refine bel_drewN ?_ _ | refine bel_set ?_ (by first | omega | (simp; done) | (simp; omega)) _ | refine bel_trans ?_ (by assumption)))
  clear hb1 p0 p1 p2 p3 p4 p5 kN0 kR0
  obtain ⟨p0, p1, p2, p3, p4, p5⟩ := kN1.cells6
  go_wp2_with fail
  refine (HF.out _ kN1.kat).mono ?_
  rintro e w2 ⟨rfl, hb2⟩
  have kN2 := kN1.on hb2
  have kR2 := kR1.on hb2
  have hB2 : Below w.heap.size w w2 := by (repeat (first | with_reducible assumption | with_reducible exact Below.refl _ _ | with_reducible refine bel_alloc ?_ _ | with_reducible refine bel_drew ?_ | with_reducible refine bel_drewN ?_ _ | with_reducible refine bel_set ?_ (by first | omega | (simp; done) | (simp; omega)) _ | with_reducible refine bel_trans ?_ (by with_reducible assumption) | exact Below.refl _ _ | assumption | refine bel_alloc ?_ _ | refine bel_drew ?_ | refine bel_drewN ?_ _ | refine bel_set ?_ (by first | omega | (simp; done) | (simp; omega)) _ | refine bel_trans ?_ (by assumption)))
  clear hb2 p0 p1 p2 p3 p4 p5 kN1 kR1
  obtain ⟨p0, p1, p2, p3, p4, p5⟩ := kN2.cells6
  go_wp2_with fail
  refine (HE.out _).mono ?_
  rintro e w3 ⟨rfl, hb3⟩
  have kN3 := kN2.on hb3
  have kR3 := kR2.on hb3
  have hB3 : Below w.heap.size w w3 := by (repeat (first | with_reducible assumption | with_reducible exact Below.refl _ _ | with_reducible refine bel_alloc ?_ _ | with_reducible refine bel_drew ?_ | with_reducible refine bel_drewN ?_ _ | with_reducible refine bel_set ?_ (by first | omega | (simp; done) | (simp; omega)) _ | with_reducible refine bel_trans ?_ (by with_reducible assumption) | exact Below.refl _ _ | assumption | refine bel_alloc ?_ _ | refine bel_drew ?_ | refine bel_drewN ?_ _ | refine bel_set ?_ (by first | omega | (simp; done) | (simp; omega)) _ | refine bel_trans ?_ (by assumption)))
  clear hb3 p0 p1 p2 p3 p4 p5 kN2 kR2
  obtain ⟨p0, p1, p2, p3, p4, p5⟩ := kN3.cells6
  go_wp2_with fail
  refine (HO.out _ hB3).mono ?_
  rintro e w4 ⟨A4, c4, rfl, hown4, hb4⟩
  have kR4 := kR3.on hb4
  have hR3 := kR3.lt
  have hz4 := hb4.size
  have hB4 : Below w.heap.size w w4 := by (repeat (first | with_reducible assumption | with_reducible exact Below.refl _ _ | with_reducible refine bel_alloc ?_ _ | with_reducible refine bel_drew ?_ | with_reducible refine bel_drewN ?_ _ | with_reducible refine bel_set ?_ (by first | omega | (simp; done) | (simp; omega)) _ | with_reducible refine bel_trans ?_ (by with_reducible assumption) | exact Below.refl _ _ | assumption | refine bel_alloc ?_ _ | refine bel_drew ?_ | refine bel_drewN ?_ _ | refine bel_set ?_ (by first | omega | (simp; done) | (simp; omega)) _ | refine bel_trans ?_ (by assumption)))
  clear hb4 p0 p1 p2 p3 p4 p5 kN3 kR3
  obtain ⟨A5, c5, e5, hps5, _, hA5⟩ := own_ps hown4
  simp at e5
  obtain ⟨rfl, rfl⟩ := e5
  have kM5 := Blk.new w4 28 #[.int .i64 k.o, .int .i64 k.l, .int .i64 k.m, .slice A4 k.ps.length c4, .int .i64 k.base, .int .i64 k.last]
  have kR5 := kR4.alloc (.cells #[.int .i64 k.o, .int .i64 k.l, .int .i64 k.m, .slice A4 k.ps.length c4, .int .i64 k.base, .int .i64 k.last] 28)
  have hown5 := hown4.alloc (.cells #[.int .i64 k.o, .int .i64 k.l, .int .i64 k.m, .slice A4 k.ps.length c4, .int .i64 k.base, .int .i64 k.last] 28)
  have hps6 : PsAt (w4.alloc (.cells #[.int .i64 k.o, .int .i64 k.l, .int .i64 k.m, .slice A4 k.ps.length c4, .int .i64 k.base, .int .i64 k.last] 28)) (w4.alloc (.cells #[.int .i64 k.o, .int .i64 k.l, .int .i64 k.m, .slice A4 k.ps.length c4, .int .i64 k.base, .int .i64 k.last] 28)).heap.size A4 c4 k.ps := (hps5.alloc (Nat.le_refl _) _).mono (by simp)
  have hne5 : ∀ g, A4 = some ⟨g, 0, none⟩ → g ≠ w4.heap.size := by
    intro g hg
    rcases hA5 with e | ⟨g2, e, _, h2⟩
    · rw [e] at hg; simp at hg
    · rw [e] at hg; simp at hg; omega
  have hge5 : ∀ g, (Value.slice A4 k.ps.length c4).ownBlock = some g → w3.heap.size ≤ g := by
    intro g hg
    rcases hA5 with e | ⟨g2, e, h1, _⟩
    · rw [e] at hg; simp [Value.ownBlock] at hg
    · rw [e] at hg; simp [Value.ownBlock] at hg; omega
  have HWW := hid (HW.out w4.heap.size w3.heap.size _ _ A4 c4 _ kM5 kM5.kat hps6 hown5 hne5 (by simp; omega) (by decide))
  clear hps5 hps6 hA5 hown4 hown5 hne5 kR4
  go_wp2_with fail
  refine HWW.out.mono ?_
  rintro e w6 ⟨rfl, A6, c6, hblk6, hown6, hnear⟩
  have kM6 : Blk w6 w4.heap.size 28 #[.int .i64 k.o, .int .i64 k.l, .int .i64 k.m, .slice A6 k.cleared.ps.length c6, .int .i64 k.base, .int .i64 (-1)] := hblk6
  have kR6 : Blk w6 (w.heap.size + 1) _ _ := (hnear.block (w.heap.size + 1) kR5.lt (by omega) (fun e => by have := hge5 _ e.symm; omega)).trans kR5
  have hB6 : Below w.heap.size w w6 := (bel_alloc hB4 _).trans (hnear.below (B := w.heap.size) (by have := hB4.size; omega) (fun g hg => by have := hge5 g hg; have := hB3.size; omega) (by have := hB4.size; simp; omega))
  clear hblk6 hnear kM5 kR5 hge5
  obtain ⟨p0, p1, p2, p3, p4, p5⟩ := kM6.cells6
  obtain ⟨t0, t1, t2, t3, t4, t5⟩ := kR6.cells6
  obtain ⟨v0, v1, v2, v3, v4, v5⟩ := kR6.free6
  obtain ⟨j0, j1, j2, j3, j4, j5⟩ := (kR6.put6 (.int .i64 k.o) (.int .i64 k.l) (.int .i64 k.m) (.slice A6 k.cleared.ps.length c6) (.int .i64 k.base) (.int .i64 (-1))).cells6
  have HO6 := hid hown6
  clear hown6
  go_wp2
  refine bodyPost_ret (v := .tuple #[.agg #[.int .i64 k.o, .int .i64 k.l, .int .i64 k.m, .slice A6 k.cleared.ps.length c6, .int .i64 k.base, .int .i64 (-1)], .bool true]) (by simp [results, Try.results43, go_sem, j0, j1, j2, j3, j4, j5]) rfl ⟨A6, c6, rfl, ?_, by (repeat (first | with_reducible assumption | with_reducible exact Below.refl _ _ | with_reducible refine bel_alloc ?_ _ | with_reducible refine bel_drew ?_ | with_reducible refine bel_drewN ?_ _ | with_reducible refine bel_set ?_ (by first | omega | (simp; done) | (simp; omega)) _ | with_reducible refine bel_trans ?_ (by with_reducible assumption) | exact Below.refl _ _ | assumption | refine bel_alloc ?_ _ | refine bel_drew ?_ | refine bel_drewN ?_ _ | refine bel_set ?_ (by first | omega | (simp; done) | (simp; omega)) _ | refine bel_trans ?_ (by assumption)))⟩
  refine own_mono (B := w3.heap.size) ?_ (by have := hB3.size; omega)
  iterate 6 refine ownsRow_setCell_below ?_ (by simp; omega) _
  exact HO6.out

theorem c_After_code (k : Kn) (A : Option Addr) (cap L : Nat) (w : World) (h : PsAt w L A cap k.ps) (hL : L ≤ w.heap.size) (hk : k.Ok) (code : Int) (hc : k.Fol code) (hw : k.Wf) : Calls Try.prog 43 #[.agg #[.int .i64 k.o, .int .i64 k.l, .int .i64 k.m, .slice A k.ps.length cap, .int .i64 k.base, .int .i64 k.last], .int .i64 code] w fun e w' => ∃ A' cap', e = .returned (.tuple #[.agg #[.int .i64 k.o, .int .i64 k.l, .int .i64 k.m, .slice A' (k.after code).ps.length cap', .int .i64 k.base, .int .i64 code], .bool true]) ∧ w'.ownsRow w.heap.size 41 2 (.slice A' (k.after code).ps.length cap') (k.after code).ps.length (prs (k.after code).ps) ∧ Below w.heap.size w w' := by
  have hfi := (hk.fol_iff code).1 hc
  have hg : 0 ≤ code ∧ code ≤ k.great := ⟨hfi.1, hfi.2.1⟩
  have hne : ¬ code = pow2 k.l + 1 := hfi.2.2.2
  have hne2 : (code == pow2 k.l + 1) = false := by rw [beq_eq_false_iff_ne]; exact hne
  have hlen := hk.len
  have HV := hid (fun (v : World) (hb : Below w.heap.size w v) => c_KnownValid_yes k A cap L v (h.below hb hL) (Nat.le_trans hL hb.size) hk hw)
  have HF := hid (fun (v : World) (hv : KAt v w.heap.size k (.slice A k.ps.length cap)) => c_canFollow w.heap.size k A cap v hk hv code)
  have HE := hid (fun (v : World) => c_EndCode_yes k.o k.l k.m v hk.set)
  simp only [decide_eq_true hg] at HF
  have HO := hid (fun (v : World) (hb : Below w.heap.size w v) => c_ownCopy k A cap w.heap.size v ((h.below hb hL).mono hL) hb.size (by omega))
  have HW := hid (fun (b B : Nat) (t : TypeId) (cs : Array Value) (A4 : Option Addr) (c4 : Nat) (v : World) (h1 : Blk v b t cs) (h2 : KAt v b k (.slice A4 k.ps.length c4)) (h3 : PsAt v v.heap.size A4 c4 k.ps) (h4 : v.ownsRow B 41 2 (.slice A4 k.ps.length c4) k.ps.length (prs k.ps)) (h5 : ∀ g, A4 = some ⟨g, 0, none⟩ → g ≠ b) (h6 : B ≤ v.heap.size) (h7 : t ≠ 41) => c_follow_code b B t cs k A4 c4 v hk h1 h2 h3 h4 h6 h5 h7 code hc)
  have kN0 := (Blk.new w 28 #[.int .i64 k.o, .int .i64 k.l, .int .i64 k.m, .slice A k.ps.length cap, .int .i64 k.base, .int .i64 k.last]).alloc (.cells #[.int .i64 0, .int .i64 0, .int .i64 0, .slice none 0 0, .int .i64 0, .int .i64 0] 28)
  have kR0 := Blk.top w (.cells #[.int .i64 k.o, .int .i64 k.l, .int .i64 k.m, .slice A k.ps.length cap, .int .i64 k.base, .int .i64 k.last] 28) 28 #[.int .i64 0, .int .i64 0, .int .i64 0, .slice none 0 0, .int .i64 0, .int .i64 0]
  clear h hk hw hg hc hfi
  go_enter Try.func43, Try.ntmps43
  obtain ⟨p0, p1, p2, p3, p4, p5⟩ := kN0.cells6
  go_wp2_with fail
  refine (HV.out _ (by (repeat (first | with_reducible assumption | with_reducible exact Below.refl _ _ | with_reducible refine bel_alloc ?_ _ | with_reducible refine bel_drew ?_ | with_reducible refine bel_drewN ?_ _ | with_reducible refine bel_set ?_ (by first | omega | (simp; done) | (simp; omega)) _ | with_reducible refine bel_trans ?_ (by with_reducible assumption) | exact Below.refl _ _ | assumption | refine bel_alloc ?_ _ | refine bel_drew ?_ | refine bel_drewN ?_ _ | refine bel_set ?_ (by first | omega | (simp; done) | (simp; omega)) _ | refine bel_trans ?_ (by assumption))))).mono ?_
  rintro e w1 ⟨rfl, hb1⟩
  have kN1 := kN0.on hb1
  have kR1 := kR0.on hb1
  have hB1 : Below w.heap.size w w1 := by (repeat (first | with_reducible assumption | with_reducible exact Below.refl _ _ | with_reducible refine bel_alloc ?_ _ | with_reducible refine bel_drew ?_ | with_reducible refine bel_drewN ?_ _ | with_reducible refine bel_set ?_ (by first | omega | (simp; done) | (simp; omega)) _ | with_reducible refine bel_trans ?_ (by with_reducible assumption) | exact Below.refl _ _ | assumption | refine bel_alloc ?_ _ | refine bel_drew ?_ | refine bel_drewN ?_ _ | refine bel_set ?_ (by first | omega | (simp; done) | (simp; omega)) _ | refine bel_trans ?_ (by assumption)))
  clear hb1 p0 p1 p2 p3 p4 p5 kN0 kR0
  obtain ⟨p0, p1, p2, p3, p4, p5⟩ := kN1.cells6
  go_wp2_with fail
  refine (HF.out _ kN1.kat).mono ?_
  rintro e w2 ⟨rfl, hb2⟩
  have kN2 := kN1.on hb2
  have kR2 := kR1.on hb2
  have hB2 : Below w.heap.size w w2 := by (repeat (first | with_reducible assumption | with_reducible exact Below.refl _ _ | with_reducible refine bel_alloc ?_ _ | with_reducible refine bel_drew ?_ | with_reducible refine bel_drewN ?_ _ | with_reducible refine bel_set ?_ (by first | omega | (simp; done) | (simp; omega)) _ | with_reducible refine bel_trans ?_ (by with_reducible assumption) | exact Below.refl _ _ | assumption | refine bel_alloc ?_ _ | refine bel_drew ?_ | refine bel_drewN ?_ _ | refine bel_set ?_ (by first | omega | (simp; done) | (simp; omega)) _ | refine bel_trans ?_ (by assumption)))
  clear hb2 p0 p1 p2 p3 p4 p5 kN1 kR1
  obtain ⟨p0, p1, p2, p3, p4, p5⟩ := kN2.cells6
  go_wp2_with fail
  refine (HE.out _).mono ?_
  rintro e w3 ⟨rfl, hb3⟩
  have kN3 := kN2.on hb3
  have kR3 := kR2.on hb3
  have hB3 : Below w.heap.size w w3 := by (repeat (first | with_reducible assumption | with_reducible exact Below.refl _ _ | with_reducible refine bel_alloc ?_ _ | with_reducible refine bel_drew ?_ | with_reducible refine bel_drewN ?_ _ | with_reducible refine bel_set ?_ (by first | omega | (simp; done) | (simp; omega)) _ | with_reducible refine bel_trans ?_ (by with_reducible assumption) | exact Below.refl _ _ | assumption | refine bel_alloc ?_ _ | refine bel_drew ?_ | refine bel_drewN ?_ _ | refine bel_set ?_ (by first | omega | (simp; done) | (simp; omega)) _ | refine bel_trans ?_ (by assumption)))
  clear hb3 p0 p1 p2 p3 p4 p5 kN2 kR2
  obtain ⟨p0, p1, p2, p3, p4, p5⟩ := kN3.cells6
  go_wp2_with fail
  refine (HO.out _ hB3).mono ?_
  rintro e w4 ⟨A4, c4, rfl, hown4, hb4⟩
  have kR4 := kR3.on hb4
  have hR3 := kR3.lt
  have hz4 := hb4.size
  have hB4 : Below w.heap.size w w4 := by (repeat (first | with_reducible assumption | with_reducible exact Below.refl _ _ | with_reducible refine bel_alloc ?_ _ | with_reducible refine bel_drew ?_ | with_reducible refine bel_drewN ?_ _ | with_reducible refine bel_set ?_ (by first | omega | (simp; done) | (simp; omega)) _ | with_reducible refine bel_trans ?_ (by with_reducible assumption) | exact Below.refl _ _ | assumption | refine bel_alloc ?_ _ | refine bel_drew ?_ | refine bel_drewN ?_ _ | refine bel_set ?_ (by first | omega | (simp; done) | (simp; omega)) _ | refine bel_trans ?_ (by assumption)))
  clear hb4 p0 p1 p2 p3 p4 p5 kN3 kR3
  obtain ⟨A5, c5, e5, hps5, _, hA5⟩ := own_ps hown4
  simp at e5
  obtain ⟨rfl, rfl⟩ := e5
  have kM5 := Blk.new w4 28 #[.int .i64 k.o, .int .i64 k.l, .int .i64 k.m, .slice A4 k.ps.length c4, .int .i64 k.base, .int .i64 k.last]
  have kR5 := kR4.alloc (.cells #[.int .i64 k.o, .int .i64 k.l, .int .i64 k.m, .slice A4 k.ps.length c4, .int .i64 k.base, .int .i64 k.last] 28)
  have hown5 := hown4.alloc (.cells #[.int .i64 k.o, .int .i64 k.l, .int .i64 k.m, .slice A4 k.ps.length c4, .int .i64 k.base, .int .i64 k.last] 28)
  have hps6 : PsAt (w4.alloc (.cells #[.int .i64 k.o, .int .i64 k.l, .int .i64 k.m, .slice A4 k.ps.length c4, .int .i64 k.base, .int .i64 k.last] 28)) (w4.alloc (.cells #[.int .i64 k.o, .int .i64 k.l, .int .i64 k.m, .slice A4 k.ps.length c4, .int .i64 k.base, .int .i64 k.last] 28)).heap.size A4 c4 k.ps := (hps5.alloc (Nat.le_refl _) _).mono (by simp)
  have hne5 : ∀ g, A4 = some ⟨g, 0, none⟩ → g ≠ w4.heap.size := by
    intro g hg
    rcases hA5 with e | ⟨g2, e, _, h2⟩
    · rw [e] at hg; simp at hg
    · rw [e] at hg; simp at hg; omega
  have hge5 : ∀ g, (Value.slice A4 k.ps.length c4).ownBlock = some g → w3.heap.size ≤ g := by
    intro g hg
    rcases hA5 with e | ⟨g2, e, h1, _⟩
    · rw [e] at hg; simp [Value.ownBlock] at hg
    · rw [e] at hg; simp [Value.ownBlock] at hg; omega
  have HWW := hid (HW.out w4.heap.size w3.heap.size _ _ A4 c4 _ kM5 kM5.kat hps6 hown5 hne5 (by simp; omega) (by decide))
  clear hps5 hps6 hA5 hown4 hown5 hne5 kR4
  go_wp2_with fail
  refine HWW.out.mono ?_
  rintro e w6 ⟨rfl, A6, c6, hblk6, hown6, hnear⟩
  have kM6 : Blk w6 w4.heap.size 28 #[.int .i64 k.o, .int .i64 k.l, .int .i64 k.m, .slice A6 (k.after code).ps.length c6, .int .i64 k.base, .int .i64 code] := hblk6
  have kR6 : Blk w6 (w.heap.size + 1) _ _ := (hnear.block (w.heap.size + 1) kR5.lt (by omega) (fun e => by have := hge5 _ e.symm; omega)).trans kR5
  have hB6 : Below w.heap.size w w6 := (bel_alloc hB4 _).trans (hnear.below (B := w.heap.size) (by have := hB4.size; omega) (fun g hg => by have := hge5 g hg; have := hB3.size; omega) (by have := hB4.size; simp; omega))
  clear hblk6 hnear kM5 kR5 hge5
  obtain ⟨p0, p1, p2, p3, p4, p5⟩ := kM6.cells6
  obtain ⟨t0, t1, t2, t3, t4, t5⟩ := kR6.cells6
  obtain ⟨v0, v1, v2, v3, v4, v5⟩ := kR6.free6
  obtain ⟨j0, j1, j2, j3, j4, j5⟩ := (kR6.put6 (.int .i64 k.o) (.int .i64 k.l) (.int .i64 k.m) (.slice A6 (k.after code).ps.length c6) (.int .i64 k.base) (.int .i64 code)).cells6
  have HO6 := hid hown6
  clear hown6
  go_wp2
  refine bodyPost_ret (v := .tuple #[.agg #[.int .i64 k.o, .int .i64 k.l, .int .i64 k.m, .slice A6 (k.after code).ps.length c6, .int .i64 k.base, .int .i64 code], .bool true]) (by simp [results, Try.results43, go_sem, j0, j1, j2, j3, j4, j5]) rfl ⟨A6, c6, rfl, ?_, by (repeat (first | with_reducible assumption | with_reducible exact Below.refl _ _ | with_reducible refine bel_alloc ?_ _ | with_reducible refine bel_drew ?_ | with_reducible refine bel_drewN ?_ _ | with_reducible refine bel_set ?_ (by first | omega | (simp; done) | (simp; omega)) _ | with_reducible refine bel_trans ?_ (by with_reducible assumption) | exact Below.refl _ _ | assumption | refine bel_alloc ?_ _ | refine bel_drew ?_ | refine bel_drewN ?_ _ | refine bel_set ?_ (by first | omega | (simp; done) | (simp; omega)) _ | refine bel_trans ?_ (by assumption)))⟩
  refine own_mono (B := w3.heap.size) ?_ (by have := hB3.size; omega)
  iterate 6 refine ownsRow_setCell_below ?_ (by simp; omega) _
  exact HO6.out

end Go.Proofs.Ytoiifopjipfjhaa
