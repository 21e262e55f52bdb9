/- The laws' own comparison of what is known, and their look-up of a word. No condition but that the numbers are int's. -/
import Derived.Test.YtoiifopjipfjhaaBc
import Derived.Test.YtoiifopjipfjhaaBf
namespace Go.Proofs.Ytoiifopjipfjhaa
open Go.ChangeShapes Go.WideShapes Go.ChangeAt Go.RowKit Go.Joins
set_option linter.unusedVariables false

theorem c_soKnown (k : Kn) (A A2 : Option Addr) (cap cap2 L L2 : Nat) (w : World) (h : PsAt w L A cap k.ps) (h2 : PsAt w L2 A2 cap2 k.ps) (hL : L ≤ w.heap.size) (hL2 : L2 ≤ w.heap.size) (hn : k.ps.length ≤ 1048576) : Calls Try.prog 34 #[.agg #[.int .i64 k.o, .int .i64 k.l, .int .i64 k.m, .slice A k.ps.length cap, .int .i64 k.base, .int .i64 k.last], .agg #[.int .i64 k.o, .int .i64 k.l, .int .i64 k.m, .slice A2 k.ps.length cap2, .int .i64 k.base, .int .i64 k.last]] w fun e w' => e = .returned (.bool true) ∧ Below w.heap.size w w' := by
  have HP := hid h
  have HP2 := hid h2
  have kA := (Blk.new w 28 #[.int .i64 k.o, .int .i64 k.l, .int .i64 k.m, .slice A k.ps.length cap, .int .i64 k.base, .int .i64 k.last]).alloc (.cells #[.int .i64 k.o, .int .i64 k.l, .int .i64 k.m, .slice A2 k.ps.length cap2, .int .i64 k.base, .int .i64 k.last] 28)
  have kB := Blk.top w (.cells #[.int .i64 k.o, .int .i64 k.l, .int .i64 k.m, .slice A k.ps.length cap, .int .i64 k.base, .int .i64 k.last] 28) 28 #[.int .i64 k.o, .int .i64 k.l, .int .i64 k.m, .slice A2 k.ps.length cap2, .int .i64 k.base, .int .i64 k.last]
  obtain ⟨p0, p1, p2, p3, p4, p5⟩ := kA.cells6
  obtain ⟨q0, q1, q2, q3, q4, q5⟩ := kB.cells6
  clear h h2
  go_enter Try.func34, Try.ntmps34
  go_wp2_with fail
  go_loopw [5] (fun i wr => ∃ n : Nat, n ≤ k.ps.length ∧ i = .int .i64 n ∧ Blk wr w.heap.size 28 #[.int .i64 k.o, .int .i64 k.l, .int .i64 k.m, .slice A k.ps.length cap, .int .i64 k.base, .int .i64 k.last] ∧ Blk wr (w.heap.size + 1) 28 #[.int .i64 k.o, .int .i64 k.l, .int .i64 k.m, .slice A2 k.ps.length cap2, .int .i64 k.base, .int .i64 k.last] ∧ Below w.heap.size w wr) (fun i _ => k.ps.length - (intOf i).toNat)
  case atStart => exact ⟨0, Nat.zero_le _, rfl, kA, kB, by (repeat (first | with_reducible (first | assumption | exact Below.refl _ _ | refine bel_alloc ?_ _ | refine bel_drew ?_ | refine bel_drewN ?_ _ | refine bel_set ?_ (by first | omega | (simp; done) | (simp; omega)) _ | refine bel_trans ?_ (by assumption)) | assumption | refine bel_trans ?_ (by assumption)))⟩
  case round =>
    obtain ⟨n, hn2, rfl, kA', kB', hbl⟩ := hrel
    clear kA kB p0 p1 p2 p3 p4 p5 q0 q1 q2 q3 q4 q5
    obtain ⟨p0, p1, p2, p3, p4, p5⟩ := kA'.cells6
    obtain ⟨q0, q1, q2, q3, q4, q5⟩ := kB'.cells6
    by_cases hlt : n < k.ps.length
    · obtain ⟨b, off, rfl, hb, c0, c1⟩ := pair_at (HP.out.below hbl hL) n hlt
      obtain ⟨b2, off2, rfl, hb2, d0, d1⟩ := pair_at (HP2.out.below hbl hL2) n hlt
      obtain ⟨x, hx⟩ : ∃ x, x = k.ps[n] := ⟨_, rfl⟩
      rw [← hx] at c0 c1 d0 d1
      clear hx
      go_wp2_with fail
      go_quiet (fail)
      go_wp2
      go_roundw
      case rel => exact ⟨n + 1, by omega, by go_num, kA'.drewN _, kB'.drewN _, by (repeat (first | with_reducible (first | assumption | exact Below.refl _ _ | refine bel_alloc ?_ _ | refine bel_drew ?_ | refine bel_drewN ?_ _ | refine bel_set ?_ (by first | omega | (simp; done) | (simp; omega)) _ | refine bel_trans ?_ (by assumption)) | assumption | refine bel_trans ?_ (by assumption)))⟩
      case measure => simp [intOf]; omega
    · go_wp2
      go_ret
      exact ⟨rfl, hbl⟩
theorem c_soWord (k : Kn) (A : Option Addr) (cap L : Nat) (w : World) (h : PsAt w L A cap k.ps) (hL : L ≤ w.heap.size) (code : Int) (hk : k.Ok) (hf : k.Fol code) (hw : k.Wf) : Calls Try.prog 46 #[.agg #[.int .i64 k.o, .int .i64 k.l, .int .i64 k.m, .slice A k.ps.length cap, .int .i64 k.base, .int .i64 k.last], .int .i64 code] w fun e w' => e = .returned (.string (str (k.any code))) ∧ Below w.heap.size w w' := by
  have HW := hid (fun (v : World) (hb : Below w.heap.size w v) => c_WordOf_yes k A cap L v (h.below hb hL) (Nat.le_trans hL hb.size) code hk hf hw)
  obtain ⟨p0, p1, p2, p3, p4, p5⟩ := (Blk.new w 28 #[.int .i64 k.o, .int .i64 k.l, .int .i64 k.m, .slice A k.ps.length cap, .int .i64 k.base, .int .i64 k.last]).cells6
  obtain ⟨S, hS⟩ : ∃ S, S = str (k.any code) := ⟨_, rfl⟩
  simp only [← hS] at HW
  rw [← hS]
  clear h hk hf hw hS
  go_enter Try.func46, Try.ntmps46
  go_wp2_with fail
  refine (HW.out _ (by (repeat (first | with_reducible (first | assumption | exact Below.refl _ _ | refine bel_alloc ?_ _ | refine bel_drew ?_ | refine bel_drewN ?_ _ | refine bel_set ?_ (by first | omega | (simp; done) | (simp; omega)) _ | refine bel_trans ?_ (by assumption)) | assumption | refine bel_trans ?_ (by assumption))))).mono ?_
  rintro e w1 ⟨rfl, hb1⟩
  go_wp2
  go_ret
  exact ⟨rfl, by (repeat (first | with_reducible (first | assumption | exact Below.refl _ _ | refine bel_alloc ?_ _ | refine bel_drew ?_ | refine bel_drewN ?_ _ | refine bel_set ?_ (by first | omega | (simp; done) | (simp; omega)) _ | refine bel_trans ?_ (by assumption)) | assumption | refine bel_trans ?_ (by assumption)))⟩
end Go.Proofs.Ytoiifopjipfjhaa
