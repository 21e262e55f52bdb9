/- Contracts of what can follow, and of WordOf, in both programs. No condition but that the numbers are int's. -/
import Derived.Test.YtoiifopjipfjhaaWf
import Derived.Test.YtoiifopjipfjhaaKg
namespace Go.Proofs.Ytoiifopjipfjhaa
open Go.ChangeShapes Go.WideShapes Go.ChangeAt Go.RowKit Go.Joins
set_option linter.unusedVariables false

theorem has_ne {k : Kn} {code : Int} (hc : HasW (pow2 k.l) code k.ps.length) : (code == k.next) = false := by
  have := next_eq k
  unfold HasW at hc
  rw [beq_eq_false_iff_ne]; omega
theorem c_l2Any (k : Kn) (A : Option Addr) (cap L : Nat) (w : World) (h : k.Ok) (hps : PsAt w L A cap k.ps) (hL : L ≤ w.heap.size) (code : Int) (hc : k.Fol code) :
    Calls Try.prog 129 #[.agg #[.int .i64 k.o, .int .i64 k.l, .int .i64 k.m, .slice A k.ps.length cap, .int .i64 k.base, .int .i64 k.last], .int .i64 code] w fun e w' => e = .returned (.string (str (k.any code))) ∧ Below w.heap.size w w' := by
  have HN := hid (fun (v : World) => c_l2Next k A cap v h)
  have HWd := hid (fun (v : World) (hb : Below w.heap.size w v) (cd : Int) (hcd : HasW (pow2 k.l) cd k.ps.length) => c_l2Word k A cap L v h (hps.below hb hL) (Nat.le_trans hL hb.size) cd hcd)
  rcases hc with hc | ⟨hg, rfl⟩
  · have hne := has_ne hc
    rw [Kn.any_has hc]
    have HC := hid hc
    clear hc hps h
    go_enter Try.func129, Try.ntmps129
    go_wp2_with fail
    refine (HN.out _).mono ?_
    rintro e w1 ⟨rfl, hb1⟩
    have hc1 := bcell hb1
    have hz1_0 : w.heap.size < w1.heap.size := (by have := hb1.size; first | omega | (simp at this; omega))
    go_wp2_with fail
    refine (HWd.out _ (by (repeat (first | with_reducible assumption | with_reducible exact Below.refl _ _ | with_reducible refine bel_alloc ?_ _ | with_reducible refine bel_drew ?_ | with_reducible refine bel_drewN ?_ _ | with_reducible refine bel_set ?_ (by first | omega | (simp; done) | (simp; omega)) _ | with_reducible refine bel_trans ?_ (by with_reducible assumption) | exact Below.refl _ _ | assumption | refine bel_alloc ?_ _ | refine bel_drew ?_ | refine bel_drewN ?_ _ | refine bel_set ?_ (by first | omega | (simp; done) | (simp; omega)) _ | refine bel_trans ?_ (by assumption)))) code HC.out).mono ?_
    rintro e w2 ⟨rfl, hb2⟩
    have hc2 := bcell hb2
    go_wp2
    go_ret
    exact ⟨rfl, by (repeat (first | with_reducible assumption | with_reducible exact Below.refl _ _ | with_reducible refine bel_alloc ?_ _ | with_reducible refine bel_drew ?_ | with_reducible refine bel_drewN ?_ _ | with_reducible refine bel_set ?_ (by first | omega | (simp; done) | (simp; omega)) _ | with_reducible refine bel_trans ?_ (by with_reducible assumption) | exact Below.refl _ _ | assumption | refine bel_alloc ?_ _ | refine bel_drew ?_ | refine bel_drewN ?_ _ | refine bel_set ?_ (by first | omega | (simp; done) | (simp; omega)) _ | refine bel_trans ?_ (by assumption)))⟩
  · have hlw := h.lastW hg
    have hlen := h.len
    obtain ⟨T, hT⟩ : ∃ T, T = str (k.word k.last) := ⟨_, rfl⟩
    have hTl := word_len _ _ h.pairs _ hlw
    have hTn := word_ne _ _ h.pairs _ hlw
    have hT1 : 1 ≤ T.size := by rw [hT, str_size]; have := List.length_pos_iff.2 hTn; unfold Kn.word; omega
    have hT2 : T.size ≤ 1021 := by rw [hT, str_size]; unfold Kn.word; omega
    have HA := hid (show str (k.any k.next) = T ++ T.extract 0 1 by rw [Kn.any_next, ← str_append, str_take _ 1 T hT, hT])
    have HW := hid (fun (v : World) (hb : Below w.heap.size w v) => HWd.out v hb k.last hlw)
    rw [← hT] at HW
    clear hT hTl hTn hlw hps h HWd
    go_enter Try.func129, Try.ntmps129
    go_wp2_with fail
    refine (HN.out _).mono ?_
    rintro e w1 ⟨rfl, hb1⟩
    have hc1 := bcell hb1
    have hz1_0 : w.heap.size < w1.heap.size := (by have := hb1.size; first | omega | (simp at this; omega))
    go_wp2_with fail
    refine (HW.out _ (by (repeat (first | with_reducible assumption | with_reducible exact Below.refl _ _ | with_reducible refine bel_alloc ?_ _ | with_reducible refine bel_drew ?_ | with_reducible refine bel_drewN ?_ _ | with_reducible refine bel_set ?_ (by first | omega | (simp; done) | (simp; omega)) _ | with_reducible refine bel_trans ?_ (by with_reducible assumption) | exact Below.refl _ _ | assumption | refine bel_alloc ?_ _ | refine bel_drew ?_ | refine bel_drewN ?_ _ | refine bel_set ?_ (by first | omega | (simp; done) | (simp; omega)) _ | refine bel_trans ?_ (by assumption))))).mono ?_
    rintro e w2 ⟨rfl, hb2⟩
    have hc2 := bcell hb2
    go_wp2
    go_ret
    exact ⟨ret_str HA.out.symm, by (repeat (first | with_reducible assumption | with_reducible exact Below.refl _ _ | with_reducible refine bel_alloc ?_ _ | with_reducible refine bel_drew ?_ | with_reducible refine bel_drewN ?_ _ | with_reducible refine bel_set ?_ (by first | omega | (simp; done) | (simp; omega)) _ | with_reducible refine bel_trans ?_ (by with_reducible assumption) | exact Below.refl _ _ | assumption | refine bel_alloc ?_ _ | refine bel_drew ?_ | refine bel_drewN ?_ _ | refine bel_set ?_ (by first | omega | (simp; done) | (simp; omega)) _ | refine bel_trans ?_ (by assumption)))⟩

theorem c_l2Follows (k : Kn) (A : Option Addr) (cap : Nat) (w : World) (h : k.Ok) (code : Int) :
    Calls Try.prog 113 #[.agg #[.int .i64 k.o, .int .i64 k.l, .int .i64 k.m, .slice A k.ps.length cap, .int .i64 k.base, .int .i64 k.last], .int .i64 code] w fun e w' => e = .returned (.bool (decide (k.Fol code))) ∧ Below w.heap.size w w' := by
  have hlen := h.len
  have HN := hid (fun (v : World) => c_l2Next k A cap v h)
  have HG := hid (fun (v : World) => c_l2Grows k A cap v h)
  have HC := hid (fun (v : World) => c_l2Code k.o k.l k.m code k.ps.length v h.set (by omega))
  by_cases h1 : HasW (pow2 k.l) code k.ps.length
  · simp only [decide_eq_true h1] at HC
    have HR := hid (show decide (k.Fol code) = true from decide_eq_true (Or.inl h1))
    clear h1 h
    go_enter Try.func113, Try.ntmps113
    go_wp2_with fail
    refine (HC.out _).mono ?_
    rintro e w1 ⟨rfl, hb1⟩
    have hc1 := bcell hb1
    go_wp2
    go_ret
    exact ⟨ret_bool HR.out.symm, by (repeat (first | with_reducible assumption | with_reducible exact Below.refl _ _ | with_reducible refine bel_alloc ?_ _ | with_reducible refine bel_drew ?_ | with_reducible refine bel_drewN ?_ _ | with_reducible refine bel_set ?_ (by first | omega | (simp; done) | (simp; omega)) _ | with_reducible refine bel_trans ?_ (by with_reducible assumption) | exact Below.refl _ _ | assumption | refine bel_alloc ?_ _ | refine bel_drew ?_ | refine bel_drewN ?_ _ | refine bel_set ?_ (by first | omega | (simp; done) | (simp; omega)) _ | refine bel_trans ?_ (by assumption)))⟩
  · simp only [decide_eq_false h1] at HC
    cases hg : k.grows with
    | false =>
      rw [hg] at HG
      have HR := hid (show decide (k.Fol code) = false from decide_eq_false (by rintro (h2 | ⟨h2, _⟩); exact h1 h2; rw [hg] at h2; cases h2))
      clear h1 h hg
      go_enter Try.func113, Try.ntmps113
      go_wp2_with fail
      refine (HC.out _).mono ?_
      rintro e w1 ⟨rfl, hb1⟩
      have hc1 := bcell hb1
      have hz1_0 : w.heap.size < w1.heap.size := (by have := hb1.size; first | omega | (simp at this; omega))
      go_wp2_with fail
      refine (HG.out _).mono ?_
      rintro e w2 ⟨rfl, hb2⟩
      have hc2 := bcell hb2
      go_wp2
      go_ret
      exact ⟨ret_bool HR.out.symm, by (repeat (first | with_reducible assumption | with_reducible exact Below.refl _ _ | with_reducible refine bel_alloc ?_ _ | with_reducible refine bel_drew ?_ | with_reducible refine bel_drewN ?_ _ | with_reducible refine bel_set ?_ (by first | omega | (simp; done) | (simp; omega)) _ | with_reducible refine bel_trans ?_ (by with_reducible assumption) | exact Below.refl _ _ | assumption | refine bel_alloc ?_ _ | refine bel_drew ?_ | refine bel_drewN ?_ _ | refine bel_set ?_ (by first | omega | (simp; done) | (simp; omega)) _ | refine bel_trans ?_ (by assumption)))⟩
    | true =>
      rw [hg] at HG
      have HR := hid (show decide (k.Fol code) = (code == k.next) by
        rw [Bool.eq_iff_iff, decide_eq_true_eq, beq_iff_eq]
        exact ⟨fun h2 => h2.elim (fun h3 => absurd h3 h1) (·.2), fun h2 => Or.inr ⟨hg, h2⟩⟩)
      clear h1 h hg
      go_enter Try.func113, Try.ntmps113
      go_wp2_with fail
      refine (HC.out _).mono ?_
      rintro e w1 ⟨rfl, hb1⟩
      have hc1 := bcell hb1
      have hz1_0 : w.heap.size < w1.heap.size := (by have := hb1.size; first | omega | (simp at this; omega))
      go_wp2_with fail
      refine (HG.out _).mono ?_
      rintro e w2 ⟨rfl, hb2⟩
      have hc2 := bcell hb2
      have hz2_0 : w.heap.size < w2.heap.size := (by have := hb2.size; first | omega | (simp at this; omega))
      go_wp2_with fail
      refine (HN.out _).mono ?_
      rintro e w3 ⟨rfl, hb3⟩
      have hc3 := bcell hb3
      go_wp2
      go_ret
      exact ⟨ret_bool HR.out.symm, by (repeat (first | with_reducible assumption | with_reducible exact Below.refl _ _ | with_reducible refine bel_alloc ?_ _ | with_reducible refine bel_drew ?_ | with_reducible refine bel_drewN ?_ _ | with_reducible refine bel_set ?_ (by first | omega | (simp; done) | (simp; omega)) _ | with_reducible refine bel_trans ?_ (by with_reducible assumption) | exact Below.refl _ _ | assumption | refine bel_alloc ?_ _ | refine bel_drew ?_ | refine bel_drewN ?_ _ | refine bel_set ?_ (by first | omega | (simp; done) | (simp; omega)) _ | refine bel_trans ?_ (by assumption)))⟩

theorem c_canFollow (b : Nat) (k : Kn) (A : Option Addr) (cap : Nat) (w : World) (h : k.Ok) (hk : KAt w b k (.slice A k.ps.length cap)) (code : Int) : Calls Try.prog 109 #[.pointer (some ⟨b, 0, none⟩), .int .i64 code] w fun e w' => e = .returned (.bool (decide (0 ≤ code ∧ code ≤ k.great))) ∧ Below w.heap.size w w' := by
  have HG := hid (c_greatest b k A cap w h hk)
  clear hk h
  by_cases h0 : 0 ≤ code
  · go_enter Try.func109, Try.ntmps109
    go_wp2_with fail
    refine (HG.out).mono ?_
    rintro e w1 ⟨rfl, hb1⟩
    have hc1 := bcell hb1
    go_wp2
    go_ret
    exact ⟨ret_bool (by simp [h0]), by (repeat (first | with_reducible assumption | with_reducible exact Below.refl _ _ | with_reducible refine bel_alloc ?_ _ | with_reducible refine bel_drew ?_ | with_reducible refine bel_drewN ?_ _ | with_reducible refine bel_set ?_ (by first | omega | (simp; done) | (simp; omega)) _ | with_reducible refine bel_trans ?_ (by with_reducible assumption) | exact Below.refl _ _ | assumption | refine bel_alloc ?_ _ | refine bel_drew ?_ | refine bel_drewN ?_ _ | refine bel_set ?_ (by first | omega | (simp; done) | (simp; omega)) _ | refine bel_trans ?_ (by assumption)))⟩
  · go_enter Try.func109, Try.ntmps109
    go_wp2
    go_ret
    exact ⟨ret_bool (by simp; omega), by (repeat (first | with_reducible assumption | with_reducible exact Below.refl _ _ | with_reducible refine bel_alloc ?_ _ | with_reducible refine bel_drew ?_ | with_reducible refine bel_drewN ?_ _ | with_reducible refine bel_set ?_ (by first | omega | (simp; done) | (simp; omega)) _ | with_reducible refine bel_trans ?_ (by with_reducible assumption) | exact Below.refl _ _ | assumption | refine bel_alloc ?_ _ | refine bel_drew ?_ | refine bel_drewN ?_ _ | refine bel_set ?_ (by first | omega | (simp; done) | (simp; omega)) _ | refine bel_trans ?_ (by assumption)))⟩

theorem c_standsForWord (b : Nat) (k : Kn) (A : Option Addr) (cap : Nat) (w : World) (h : k.Ok) (hk : KAt w b k (.slice A k.ps.length cap)) (code : Int) : Calls Try.prog 120 #[.pointer (some ⟨b, 0, none⟩), .int .i64 code] w fun e w' => e = .returned (.bool (decide (k.Fol code))) ∧ Below w.heap.size w w' := by
  have HF := hid (c_canFollow b k A cap w h hk code)
  have HCl := hid (fun (v : World) => c_ClearCode_yes k.o k.l k.m v h.set)
  have HE := hid (fun (v : World) => c_EndCode_yes k.o k.l k.m v h.set)
  have hfi := h.fol_iff code
  have hc : k.c = pow2 k.l := rfl
  rw [hc] at hfi
  have HK := hid hk
  obtain ⟨hb, q0, q1, q2, q3, q4, q5⟩ := hk
  clear h hc
  by_cases h1 : 0 ≤ code ∧ code ≤ k.great
  · rw [decide_eq_true h1] at HF
    by_cases h2 : code = pow2 k.l
    · have HR := hid (show decide (k.Fol code) = false by rw [decide_eq_false_iff_not, hfi]; omega)
      have e2 : (code != pow2 k.l) = false := by simp [h2]
      clear h1 h2 hfi
      go_enter Try.func120, Try.ntmps120
      go_wp2_with fail
      refine (HF.out).mono ?_
      rintro e w1 ⟨rfl, hb1⟩
      have hc1 := bcell hb1
      have hz1_0 : b < w1.heap.size := (by have := hb1.size; first | omega | (simp at this; omega))
      go_wp2_with fail
      refine (HCl.out _).mono ?_
      rintro e w2 ⟨rfl, hb2⟩
      have hc2 := bcell hb2
      have hz2_0 : b < w2.heap.size := (by have := hb2.size; first | omega | (simp at this; omega))
      go_wp2
      go_ret
      exact ⟨ret_bool HR.out.symm, by (repeat (first | with_reducible assumption | with_reducible exact Below.refl _ _ | with_reducible refine bel_alloc ?_ _ | with_reducible refine bel_drew ?_ | with_reducible refine bel_drewN ?_ _ | with_reducible refine bel_set ?_ (by first | omega | (simp; done) | (simp; omega)) _ | with_reducible refine bel_trans ?_ (by with_reducible assumption) | exact Below.refl _ _ | assumption | refine bel_alloc ?_ _ | refine bel_drew ?_ | refine bel_drewN ?_ _ | refine bel_set ?_ (by first | omega | (simp; done) | (simp; omega)) _ | refine bel_trans ?_ (by assumption)))⟩
    · have e2 : (code != pow2 k.l) = true := by simp [h2]
      have HR := hid (show decide (k.Fol code) = (code != pow2 k.l + 1) by rw [Bool.eq_iff_iff]; simp [hfi, h1.1, h1.2, h2])
      clear h1 h2 hfi
      go_enter Try.func120, Try.ntmps120
      go_wp2_with fail
      refine (HF.out).mono ?_
      rintro e w1 ⟨rfl, hb1⟩
      have hc1 := bcell hb1
      have hz1_0 : b < w1.heap.size := (by have := hb1.size; first | omega | (simp at this; omega))
      go_wp2_with fail
      refine (HCl.out _).mono ?_
      rintro e w2 ⟨rfl, hb2⟩
      have hc2 := bcell hb2
      have hz2_0 : b < w2.heap.size := (by have := hb2.size; first | omega | (simp at this; omega))
      go_wp2_with fail
      refine (HE.out _).mono ?_
      rintro e w3 ⟨rfl, hb3⟩
      have hc3 := bcell hb3
      go_wp2
      go_ret
      exact ⟨ret_bool HR.out.symm, by (repeat (first | with_reducible assumption | with_reducible exact Below.refl _ _ | with_reducible refine bel_alloc ?_ _ | with_reducible refine bel_drew ?_ | with_reducible refine bel_drewN ?_ _ | with_reducible refine bel_set ?_ (by first | omega | (simp; done) | (simp; omega)) _ | with_reducible refine bel_trans ?_ (by with_reducible assumption) | exact Below.refl _ _ | assumption | refine bel_alloc ?_ _ | refine bel_drew ?_ | refine bel_drewN ?_ _ | refine bel_set ?_ (by first | omega | (simp; done) | (simp; omega)) _ | refine bel_trans ?_ (by assumption)))⟩
  · rw [decide_eq_false h1] at HF
    have HR := hid (show decide (k.Fol code) = false by rw [decide_eq_false_iff_not, hfi]; omega)
    clear h1 hfi
    go_enter Try.func120, Try.ntmps120
    go_wp2_with fail
    refine (HF.out).mono ?_
    rintro e w1 ⟨rfl, hb1⟩
    have hc1 := bcell hb1
    have hz1_0 : b < w1.heap.size := (by have := hb1.size; first | omega | (simp at this; omega))
    go_wp2
    go_ret
    exact ⟨ret_bool HR.out.symm, by (repeat (first | with_reducible assumption | with_reducible exact Below.refl _ _ | with_reducible refine bel_alloc ?_ _ | with_reducible refine bel_drew ?_ | with_reducible refine bel_drewN ?_ _ | with_reducible refine bel_set ?_ (by first | omega | (simp; done) | (simp; omega)) _ | with_reducible refine bel_trans ?_ (by with_reducible assumption) | exact Below.refl _ _ | assumption | refine bel_alloc ?_ _ | refine bel_drew ?_ | refine bel_drewN ?_ _ | refine bel_set ?_ (by first | omega | (simp; done) | (simp; omega)) _ | refine bel_trans ?_ (by assumption)))⟩
end Go.Proofs.Ytoiifopjipfjhaa
