/- The contract of After in the specification, where it says yes. No condition but that the numbers are int's. -/
import Derived.Test.YtoiifopjipfjhaaAs
import Derived.Test.YtoiifopjipfjhaaAp
namespace Go.Proofs.Ytoiifopjipfjhaa
open Go.ChangeShapes Go.WideShapes Go.ChangeAt Go.RowKit Go.Joins
set_option linter.unusedVariables false

theorem c_sAfter_yes (k : Kn) (A : Option Addr) (cap L : Nat) (w : World) (h : PsAt w L A cap k.ps) (hL : L ≤ w.heap.size) (hk : k.Ok) (code : Int) (hc : code = k.c ∨ k.Fol code) (hw : k.Wf) : Calls Try.prog 44 #[.agg #[.int .i64 k.o, .int .i64 k.l, .int .i64 k.m, .slice A k.ps.length cap, .int .i64 k.base, .int .i64 k.last], .int .i64 code] w fun e w' => ∃ A' cap', e = .returned (.tuple #[.agg #[.int .i64 k.o, .int .i64 k.l, .int .i64 k.m, .slice A' (k.step code).ps.length cap', .int .i64 k.base, .int .i64 (k.step code).last], .bool true]) ∧ w'.ownsRow w.heap.size 41 2 (.slice A' (k.step code).ps.length cap') (k.step code).ps.length (prs (k.step code).ps) ∧ Below w.heap.size w w' := by
  obtain ⟨_, ⟨hl1, hl2⟩, hm1, hm2⟩ := setOk_iff.1 hk.set
  have HV := hid (fun (v : World) (hb : Below w.heap.size w v) => c_sKnownValid_yes k A cap L v (h.below hb hL) (Nat.le_trans hL hb.size) hk hw)
  have HC := hid (fun (v : World) => c_l1Clear k.o k.l k.m v (by omega) (by omega))
  have HF := hid (fun (v : World) => c_l2Follows k A cap v hk code)
  have HS := hid (fun (v : World) (hb : Below w.heap.size w v) => c_l2Step k A cap w.heap.size v ((h.below hb hL).mono hL) hb.size hk code hc)
  have kN0 := (Blk.new w 28 #[.int .i64 k.o, .int .i64 k.l, .int .i64 k.m, .slice A k.ps.length cap, .int .i64 k.base, .int .i64 k.last]).alloc (.cells #[.int .i64 0, .int .i64 0, .int .i64 0, .slice none 0 0, .int .i64 0, .int .i64 0] 28)
  have kR0 := Blk.top w (.cells #[.int .i64 k.o, .int .i64 k.l, .int .i64 k.m, .slice A k.ps.length cap, .int .i64 k.base, .int .i64 k.last] 28) 28 #[.int .i64 0, .int .i64 0, .int .i64 0, .slice none 0 0, .int .i64 0, .int .i64 0]
  obtain ⟨k', hk'⟩ : ∃ k', k' = k.step code := ⟨_, rfl⟩
  rw [← hk'] at HS
  rw [← hk']
  clear h hw hk'
  by_cases he : code = pow2 k.l
  · subst he
    have hne2 : (pow2 k.l != pow2 k.l) = false := by simp
    clear hc
    go_enter Try.func44, Try.ntmps44
    obtain ⟨p0, p1, p2, p3, p4, p5⟩ := kN0.cells6
    go_wp2_with fail
    refine (HV.out _ (by (repeat (first | with_reducible assumption | with_reducible exact Below.refl _ _ | with_reducible refine bel_alloc ?_ _ | with_reducible refine bel_drew ?_ | with_reducible refine bel_drewN ?_ _ | with_reducible refine bel_set ?_ (by first | omega | (simp; done) | (simp; omega)) _ | with_reducible refine bel_trans ?_ (by with_reducible assumption) | exact Below.refl _ _ | assumption | refine bel_alloc ?_ _ | refine bel_drew ?_ | refine bel_drewN ?_ _ | refine bel_set ?_ (by first | omega | (simp; done) | (simp; omega)) _ | refine bel_trans ?_ (by assumption))))).mono ?_
    rintro e w1 ⟨rfl, hb1⟩
    have kN1 := kN0.on hb1
    have kR1 := kR0.on hb1
    have hB1 : Below w.heap.size w w1 := by (repeat (first | with_reducible assumption | with_reducible exact Below.refl _ _ | with_reducible refine bel_alloc ?_ _ | with_reducible refine bel_drew ?_ | with_reducible refine bel_drewN ?_ _ | with_reducible refine bel_set ?_ (by first | omega | (simp; done) | (simp; omega)) _ | with_reducible refine bel_trans ?_ (by with_reducible assumption) | exact Below.refl _ _ | assumption | refine bel_alloc ?_ _ | refine bel_drew ?_ | refine bel_drewN ?_ _ | refine bel_set ?_ (by first | omega | (simp; done) | (simp; omega)) _ | refine bel_trans ?_ (by assumption)))
    clear hb1 p0 p1 p2 p3 p4 p5 kN0 kR0
    obtain ⟨p0, p1, p2, p3, p4, p5⟩ := kN1.cells6
    go_wp2_with fail
    refine (HC.out _).mono ?_
    rintro e w2 ⟨rfl, hb2⟩
    have kN2 := kN1.on hb2
    have kR2 := kR1.on hb2
    have hB2 : Below w.heap.size w w2 := by (repeat (first | with_reducible assumption | with_reducible exact Below.refl _ _ | with_reducible refine bel_alloc ?_ _ | with_reducible refine bel_drew ?_ | with_reducible refine bel_drewN ?_ _ | with_reducible refine bel_set ?_ (by first | omega | (simp; done) | (simp; omega)) _ | with_reducible refine bel_trans ?_ (by with_reducible assumption) | exact Below.refl _ _ | assumption | refine bel_alloc ?_ _ | refine bel_drew ?_ | refine bel_drewN ?_ _ | refine bel_set ?_ (by first | omega | (simp; done) | (simp; omega)) _ | refine bel_trans ?_ (by assumption)))
    clear hb2 p0 p1 p2 p3 p4 p5 kN1 kR1
    obtain ⟨p0, p1, p2, p3, p4, p5⟩ := kN2.cells6
    go_wp2_with fail
    refine (HS.out _ hB2).mono ?_
    rintro e w3 ⟨A2, c2, rfl, hown2, hb3⟩
    have kR3 := kR2.on hb3
    have hR1 := kR2.lt
    have hB3 : Below w.heap.size w w3 := by (repeat (first | with_reducible assumption | with_reducible exact Below.refl _ _ | with_reducible refine bel_alloc ?_ _ | with_reducible refine bel_drew ?_ | with_reducible refine bel_drewN ?_ _ | with_reducible refine bel_set ?_ (by first | omega | (simp; done) | (simp; omega)) _ | with_reducible refine bel_trans ?_ (by with_reducible assumption) | exact Below.refl _ _ | assumption | refine bel_alloc ?_ _ | refine bel_drew ?_ | refine bel_drewN ?_ _ | refine bel_set ?_ (by first | omega | (simp; done) | (simp; omega)) _ | refine bel_trans ?_ (by assumption)))
    clear hb3 p0 p1 p2 p3 p4 p5 kN2 kR2
    obtain ⟨t0, t1, t2, t3, t4, t5⟩ := kR3.cells6
    obtain ⟨v0, v1, v2, v3, v4, v5⟩ := kR3.free6
    obtain ⟨j0, j1, j2, j3, j4, j5⟩ := (kR3.put6 (.int .i64 k.o) (.int .i64 k.l) (.int .i64 k.m) (.slice A2 k'.ps.length c2) (.int .i64 k.base) (.int .i64 k'.last)).cells6
    have HO := hid hown2
    clear hown2
    go_wp2
    refine bodyPost_ret (v := .tuple #[.agg #[.int .i64 k.o, .int .i64 k.l, .int .i64 k.m, .slice A2 k'.ps.length c2, .int .i64 k.base, .int .i64 k'.last], .bool true]) (by simp [results, Try.results44, go_sem, j0, j1, j2, j3, j4, j5]) rfl ⟨A2, c2, rfl, ?_, by (repeat (first | with_reducible assumption | with_reducible exact Below.refl _ _ | with_reducible refine bel_alloc ?_ _ | with_reducible refine bel_drew ?_ | with_reducible refine bel_drewN ?_ _ | with_reducible refine bel_set ?_ (by first | omega | (simp; done) | (simp; omega)) _ | with_reducible refine bel_trans ?_ (by with_reducible assumption) | exact Below.refl _ _ | assumption | refine bel_alloc ?_ _ | refine bel_drew ?_ | refine bel_drewN ?_ _ | refine bel_set ?_ (by first | omega | (simp; done) | (simp; omega)) _ | refine bel_trans ?_ (by assumption)))⟩
    refine own_mono (B := w2.heap.size) ?_ (by omega)
    iterate 6 refine ownsRow_setCell_below ?_ (by simp; omega) _
    exact HO.out
  · have hf : k.Fol code := hc.resolve_left he
    have hne2 : (code != pow2 k.l) = true := bne_iff_ne.2 he
    simp only [decide_eq_true hf] at HF
    clear hc hf hk
    go_enter Try.func44, Try.ntmps44
    obtain ⟨p0, p1, p2, p3, p4, p5⟩ := kN0.cells6
    go_wp2_with fail
    refine (HV.out _ (by (repeat (first | with_reducible assumption | with_reducible exact Below.refl _ _ | with_reducible refine bel_alloc ?_ _ | with_reducible refine bel_drew ?_ | with_reducible refine bel_drewN ?_ _ | with_reducible refine bel_set ?_ (by first | omega | (simp; done) | (simp; omega)) _ | with_reducible refine bel_trans ?_ (by with_reducible assumption) | exact Below.refl _ _ | assumption | refine bel_alloc ?_ _ | refine bel_drew ?_ | refine bel_drewN ?_ _ | refine bel_set ?_ (by first | omega | (simp; done) | (simp; omega)) _ | refine bel_trans ?_ (by assumption))))).mono ?_
    rintro e w1 ⟨rfl, hb1⟩
    have kN1 := kN0.on hb1
    have kR1 := kR0.on hb1
    have hB1 : Below w.heap.size w w1 := by (repeat (first | with_reducible assumption | with_reducible exact Below.refl _ _ | with_reducible refine bel_alloc ?_ _ | with_reducible refine bel_drew ?_ | with_reducible refine bel_drewN ?_ _ | with_reducible refine bel_set ?_ (by first | omega | (simp; done) | (simp; omega)) _ | with_reducible refine bel_trans ?_ (by with_reducible assumption) | exact Below.refl _ _ | assumption | refine bel_alloc ?_ _ | refine bel_drew ?_ | refine bel_drewN ?_ _ | refine bel_set ?_ (by first | omega | (simp; done) | (simp; omega)) _ | refine bel_trans ?_ (by assumption)))
    clear hb1 p0 p1 p2 p3 p4 p5 kN0 kR0
    obtain ⟨p0, p1, p2, p3, p4, p5⟩ := kN1.cells6
    go_wp2_with fail
    refine (HC.out _).mono ?_
    rintro e w2 ⟨rfl, hb2⟩
    have kN2 := kN1.on hb2
    have kR2 := kR1.on hb2
    have hB2 : Below w.heap.size w w2 := by (repeat (first | with_reducible assumption | with_reducible exact Below.refl _ _ | with_reducible refine bel_alloc ?_ _ | with_reducible refine bel_drew ?_ | with_reducible refine bel_drewN ?_ _ | with_reducible refine bel_set ?_ (by first | omega | (simp; done) | (simp; omega)) _ | with_reducible refine bel_trans ?_ (by with_reducible assumption) | exact Below.refl _ _ | assumption | refine bel_alloc ?_ _ | refine bel_drew ?_ | refine bel_drewN ?_ _ | refine bel_set ?_ (by first | omega | (simp; done) | (simp; omega)) _ | refine bel_trans ?_ (by assumption)))
    clear hb2 p0 p1 p2 p3 p4 p5 kN1 kR1
    obtain ⟨p0, p1, p2, p3, p4, p5⟩ := kN2.cells6
    go_wp2_with fail
    refine (HF.out _).mono ?_
    rintro e w3 ⟨rfl, hb3⟩
    have kN3 := kN2.on hb3
    have kR3 := kR2.on hb3
    have hB3 : Below w.heap.size w w3 := by (repeat (first | with_reducible assumption | with_reducible exact Below.refl _ _ | with_reducible refine bel_alloc ?_ _ | with_reducible refine bel_drew ?_ | with_reducible refine bel_drewN ?_ _ | with_reducible refine bel_set ?_ (by first | omega | (simp; done) | (simp; omega)) _ | with_reducible refine bel_trans ?_ (by with_reducible assumption) | exact Below.refl _ _ | assumption | refine bel_alloc ?_ _ | refine bel_drew ?_ | refine bel_drewN ?_ _ | refine bel_set ?_ (by first | omega | (simp; done) | (simp; omega)) _ | refine bel_trans ?_ (by assumption)))
    clear hb3 p0 p1 p2 p3 p4 p5 kN2 kR2
    obtain ⟨p0, p1, p2, p3, p4, p5⟩ := kN3.cells6
    go_wp2_with fail
    refine (HS.out _ hB3).mono ?_
    rintro e w4 ⟨A2, c2, rfl, hown2, hb4⟩
    have kR4 := kR3.on hb4
    have hR1 := kR3.lt
    have hB4 : Below w.heap.size w w4 := by (repeat (first | with_reducible assumption | with_reducible exact Below.refl _ _ | with_reducible refine bel_alloc ?_ _ | with_reducible refine bel_drew ?_ | with_reducible refine bel_drewN ?_ _ | with_reducible refine bel_set ?_ (by first | omega | (simp; done) | (simp; omega)) _ | with_reducible refine bel_trans ?_ (by with_reducible assumption) | exact Below.refl _ _ | assumption | refine bel_alloc ?_ _ | refine bel_drew ?_ | refine bel_drewN ?_ _ | refine bel_set ?_ (by first | omega | (simp; done) | (simp; omega)) _ | refine bel_trans ?_ (by assumption)))
    clear hb4 p0 p1 p2 p3 p4 p5 kN3 kR3
    obtain ⟨t0, t1, t2, t3, t4, t5⟩ := kR4.cells6
    obtain ⟨v0, v1, v2, v3, v4, v5⟩ := kR4.free6
    obtain ⟨j0, j1, j2, j3, j4, j5⟩ := (kR4.put6 (.int .i64 k.o) (.int .i64 k.l) (.int .i64 k.m) (.slice A2 k'.ps.length c2) (.int .i64 k.base) (.int .i64 k'.last)).cells6
    have HO := hid hown2
    clear hown2
    go_wp2
    refine bodyPost_ret (v := .tuple #[.agg #[.int .i64 k.o, .int .i64 k.l, .int .i64 k.m, .slice A2 k'.ps.length c2, .int .i64 k.base, .int .i64 k'.last], .bool true]) (by simp [results, Try.results44, go_sem, j0, j1, j2, j3, j4, j5]) rfl ⟨A2, c2, rfl, ?_, by (repeat (first | with_reducible assumption | with_reducible exact Below.refl _ _ | with_reducible refine bel_alloc ?_ _ | with_reducible refine bel_drew ?_ | with_reducible refine bel_drewN ?_ _ | with_reducible refine bel_set ?_ (by first | omega | (simp; done) | (simp; omega)) _ | with_reducible refine bel_trans ?_ (by with_reducible assumption) | exact Below.refl _ _ | assumption | refine bel_alloc ?_ _ | refine bel_drew ?_ | refine bel_drewN ?_ _ | refine bel_set ?_ (by first | omega | (simp; done) | (simp; omega)) _ | refine bel_trans ?_ (by assumption)))⟩
    refine own_mono (B := w3.heap.size) ?_ (by omega)
    iterate 6 refine ownsRow_setCell_below ?_ (by simp; omega) _
    exact HO.out
end Go.Proofs.Ytoiifopjipfjhaa
