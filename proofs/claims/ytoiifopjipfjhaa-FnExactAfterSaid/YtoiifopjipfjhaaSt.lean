/- Contracts of Start in both programs; the laws' marks on what is known; the walk of FnExactStart. No condition. -/
import Derived.Test.YtoiifopjipfjhaaLk
namespace Go.Proofs.Ytoiifopjipfjhaa
open Go.ChangeShapes Go.WideShapes Go.ChangeAt Go.RowKit Go.Joins
set_option linter.unusedVariables false

theorem c_sStart_yes (o l m : Int) (w : World) (h : setOk o l m = true) : Calls Try.prog 33 #[.agg #[.int .i64 o, .int .i64 l, .int .i64 m]] w fun e w' => e = .returned (.tuple #[.agg #[.int .i64 o, .int .i64 l, .int .i64 m, .slice none 0 0, .int .i64 0, .int .i64 (-1)], .bool true]) ∧ Below w.heap.size w w' := by
  have hs2 : ∀ (o1 o2 : Obj), ((w.alloc o1).alloc o2).heap.size = w.heap.size + 2 := fun o1 o2 => by simp
  go_enter Try.func33, Try.ntmps33
  go_wp2_with fail
  refine (c_sSettingValid _ _ _ _).mono ?_
  rintro e w1 ⟨rfl, hb1⟩
  have kN := ((Blk.new w 24 #[.int .i64 o, .int .i64 l, .int .i64 m]).alloc _).on hb1
  have kR := (Blk.top w _ _ _).on hb1
  have hz1 := hb1.size
  rw [hs2] at hz1
  have hB1 : Below w.heap.size w w1 := by (repeat (first | with_reducible assumption | with_reducible exact Below.refl _ _ | with_reducible refine bel_alloc ?_ _ | with_reducible refine bel_drew ?_ | with_reducible refine bel_drewN ?_ _ | with_reducible refine bel_set ?_ (by first | omega | (simp; done) | (simp; omega)) _ | with_reducible refine bel_trans ?_ (by with_reducible assumption) | exact Below.refl _ _ | assumption | refine bel_alloc ?_ _ | refine bel_drew ?_ | refine bel_drewN ?_ _ | refine bel_set ?_ (by first | omega | (simp; done) | (simp; omega)) _ | refine bel_trans ?_ (by assumption)))
  clear hb1
  obtain ⟨p0, p1, p2⟩ := kN.cells3
  obtain ⟨t0, t1, t2, t3, t4, t5⟩ := kR.cells6
  obtain ⟨u0, u1, u2, u3, u4, u5⟩ := kR.free6
  obtain ⟨j0, j1, j2, j3, j4, j5⟩ := (kR.put6 (.int .i64 o) (.int .i64 l) (.int .i64 m) (.slice none 0 0) (.int .i64 0) (.int .i64 (-1))).cells6
  clear kN kR
  go_wp2
  exact bodyPost_ret (v := .tuple #[.agg #[.int .i64 o, .int .i64 l, .int .i64 m, .slice none 0 0, .int .i64 0, .int .i64 (-1)], .bool true]) (by simp [results, Try.results33, go_sem, j0, j1, j2, j3, j4, j5]) rfl ⟨rfl, by (repeat (first | with_reducible assumption | with_reducible exact Below.refl _ _ | with_reducible refine bel_alloc ?_ _ | with_reducible refine bel_drew ?_ | with_reducible refine bel_drewN ?_ _ | with_reducible refine bel_set ?_ (by first | omega | (simp; done) | (simp; omega)) _ | with_reducible refine bel_trans ?_ (by with_reducible assumption) | exact Below.refl _ _ | assumption | refine bel_alloc ?_ _ | refine bel_drew ?_ | refine bel_drewN ?_ _ | refine bel_set ?_ (by first | omega | (simp; done) | (simp; omega)) _ | refine bel_trans ?_ (by assumption)))⟩

theorem c_sStart_no (o l m : Int) (w : World) (h : setOk o l m = false) : Calls Try.prog 33 #[.agg #[.int .i64 o, .int .i64 l, .int .i64 m]] w fun e w' => e = .returned (.tuple #[.agg #[.int .i64 0, .int .i64 0, .int .i64 0, .slice none 0 0, .int .i64 0, .int .i64 0], .bool false]) ∧ Below w.heap.size w w' := by
  have hs2 : ∀ (o1 o2 : Obj), ((w.alloc o1).alloc o2).heap.size = w.heap.size + 2 := fun o1 o2 => by simp
  go_enter Try.func33, Try.ntmps33
  go_wp2_with fail
  refine (c_sSettingValid _ _ _ _).mono ?_
  rintro e w1 ⟨rfl, hb1⟩
  have kR := (Blk.top w _ _ _).on hb1
  have hz1 := hb1.size
  rw [hs2] at hz1
  have hB1 : Below w.heap.size w w1 := by (repeat (first | with_reducible assumption | with_reducible exact Below.refl _ _ | with_reducible refine bel_alloc ?_ _ | with_reducible refine bel_drew ?_ | with_reducible refine bel_drewN ?_ _ | with_reducible refine bel_set ?_ (by first | omega | (simp; done) | (simp; omega)) _ | with_reducible refine bel_trans ?_ (by with_reducible assumption) | exact Below.refl _ _ | assumption | refine bel_alloc ?_ _ | refine bel_drew ?_ | refine bel_drewN ?_ _ | refine bel_set ?_ (by first | omega | (simp; done) | (simp; omega)) _ | refine bel_trans ?_ (by assumption)))
  clear hb1
  obtain ⟨t0, t1, t2, t3, t4, t5⟩ := kR.cells6
  obtain ⟨u0, u1, u2, u3, u4, u5⟩ := kR.free6
  obtain ⟨j0, j1, j2, j3, j4, j5⟩ := (kR.put6 (.int .i64 0) (.int .i64 0) (.int .i64 0) (.slice none 0 0) (.int .i64 0) (.int .i64 0)).cells6
  clear kR
  go_wp2
  exact bodyPost_ret (v := .tuple #[.agg #[.int .i64 0, .int .i64 0, .int .i64 0, .slice none 0 0, .int .i64 0, .int .i64 0], .bool false]) (by simp [results, Try.results33, go_sem, j0, j1, j2, j3, j4, j5]) rfl ⟨rfl, by (repeat (first | with_reducible assumption | with_reducible exact Below.refl _ _ | with_reducible refine bel_alloc ?_ _ | with_reducible refine bel_drew ?_ | with_reducible refine bel_drewN ?_ _ | with_reducible refine bel_set ?_ (by first | omega | (simp; done) | (simp; omega)) _ | with_reducible refine bel_trans ?_ (by with_reducible assumption) | exact Below.refl _ _ | assumption | refine bel_alloc ?_ _ | refine bel_drew ?_ | refine bel_drewN ?_ _ | refine bel_set ?_ (by first | omega | (simp; done) | (simp; omega)) _ | refine bel_trans ?_ (by assumption)))⟩

theorem c_Start_yes (o l m : Int) (w : World) (h : setOk o l m = true) : Calls Try.prog 32 #[.agg #[.int .i64 o, .int .i64 l, .int .i64 m]] w fun e w' => e = .returned (.tuple #[.agg #[.int .i64 o, .int .i64 l, .int .i64 m, .slice none 0 0, .int .i64 0, .int .i64 (-1)], .bool true]) ∧ Below w.heap.size w w' := by
  have hs2 : ∀ (o1 o2 : Obj), ((w.alloc o1).alloc o2).heap.size = w.heap.size + 2 := fun o1 o2 => by simp
  go_enter Try.func32, Try.ntmps32
  go_wp2_with fail
  refine (c_SettingValid _ _ _ _).mono ?_
  rintro e w1 ⟨rfl, hb1⟩
  have kN := ((Blk.new w 24 #[.int .i64 o, .int .i64 l, .int .i64 m]).alloc _).on hb1
  have kR := (Blk.top w _ _ _).on hb1
  have hz1 := hb1.size
  rw [hs2] at hz1
  have hB1 : Below w.heap.size w w1 := by (repeat (first | with_reducible assumption | with_reducible exact Below.refl _ _ | with_reducible refine bel_alloc ?_ _ | with_reducible refine bel_drew ?_ | with_reducible refine bel_drewN ?_ _ | with_reducible refine bel_set ?_ (by first | omega | (simp; done) | (simp; omega)) _ | with_reducible refine bel_trans ?_ (by with_reducible assumption) | exact Below.refl _ _ | assumption | refine bel_alloc ?_ _ | refine bel_drew ?_ | refine bel_drewN ?_ _ | refine bel_set ?_ (by first | omega | (simp; done) | (simp; omega)) _ | refine bel_trans ?_ (by assumption)))
  clear hb1
  obtain ⟨p0, p1, p2⟩ := kN.cells3
  obtain ⟨t0, t1, t2, t3, t4, t5⟩ := kR.cells6
  obtain ⟨u0, u1, u2, u3, u4, u5⟩ := kR.free6
  obtain ⟨j0, j1, j2, j3, j4, j5⟩ := (kR.put6 (.int .i64 o) (.int .i64 l) (.int .i64 m) (.slice none 0 0) (.int .i64 0) (.int .i64 (-1))).cells6
  clear kN kR
  go_wp2
  exact bodyPost_ret (v := .tuple #[.agg #[.int .i64 o, .int .i64 l, .int .i64 m, .slice none 0 0, .int .i64 0, .int .i64 (-1)], .bool true]) (by simp [results, Try.results32, go_sem, j0, j1, j2, j3, j4, j5]) rfl ⟨rfl, by (repeat (first | with_reducible assumption | with_reducible exact Below.refl _ _ | with_reducible refine bel_alloc ?_ _ | with_reducible refine bel_drew ?_ | with_reducible refine bel_drewN ?_ _ | with_reducible refine bel_set ?_ (by first | omega | (simp; done) | (simp; omega)) _ | with_reducible refine bel_trans ?_ (by with_reducible assumption) | exact Below.refl _ _ | assumption | refine bel_alloc ?_ _ | refine bel_drew ?_ | refine bel_drewN ?_ _ | refine bel_set ?_ (by first | omega | (simp; done) | (simp; omega)) _ | refine bel_trans ?_ (by assumption)))⟩

theorem c_Start_no (o l m : Int) (w : World) (h : setOk o l m = false) : Calls Try.prog 32 #[.agg #[.int .i64 o, .int .i64 l, .int .i64 m]] w fun e w' => e = .returned (.tuple #[.agg #[.int .i64 0, .int .i64 0, .int .i64 0, .slice none 0 0, .int .i64 0, .int .i64 0], .bool false]) ∧ Below w.heap.size w w' := by
  have hs2 : ∀ (o1 o2 : Obj), ((w.alloc o1).alloc o2).heap.size = w.heap.size + 2 := fun o1 o2 => by simp
  go_enter Try.func32, Try.ntmps32
  go_wp2_with fail
  refine (c_SettingValid _ _ _ _).mono ?_
  rintro e w1 ⟨rfl, hb1⟩
  have kR := (Blk.top w _ _ _).on hb1
  have hz1 := hb1.size
  rw [hs2] at hz1
  have hB1 : Below w.heap.size w w1 := by (repeat (first | with_reducible assumption | with_reducible exact Below.refl _ _ | with_reducible refine bel_alloc ?_ _ | with_reducible refine bel_drew ?_ | with_reducible refine bel_drewN ?_ _ | with_reducible refine bel_set ?_ (by first | omega | (simp; done) | (simp; omega)) _ | with_reducible refine bel_trans ?_ (by with_reducible assumption) | exact Below.refl _ _ | assumption | refine bel_alloc ?_ _ | refine bel_drew ?_ | refine bel_drewN ?_ _ | refine bel_set ?_ (by first | omega | (simp; done) | (simp; omega)) _ | refine bel_trans ?_ (by assumption)))
  clear hb1
  obtain ⟨t0, t1, t2, t3, t4, t5⟩ := kR.cells6
  obtain ⟨u0, u1, u2, u3, u4, u5⟩ := kR.free6
  obtain ⟨j0, j1, j2, j3, j4, j5⟩ := (kR.put6 (.int .i64 0) (.int .i64 0) (.int .i64 0) (.slice none 0 0) (.int .i64 0) (.int .i64 0)).cells6
  clear kR
  go_wp2
  exact bodyPost_ret (v := .tuple #[.agg #[.int .i64 0, .int .i64 0, .int .i64 0, .slice none 0 0, .int .i64 0, .int .i64 0], .bool false]) (by simp [results, Try.results32, go_sem, j0, j1, j2, j3, j4, j5]) rfl ⟨rfl, by (repeat (first | with_reducible assumption | with_reducible exact Below.refl _ _ | with_reducible refine bel_alloc ?_ _ | with_reducible refine bel_drew ?_ | with_reducible refine bel_drewN ?_ _ | with_reducible refine bel_set ?_ (by first | omega | (simp; done) | (simp; omega)) _ | with_reducible refine bel_trans ?_ (by with_reducible assumption) | exact Below.refl _ _ | assumption | refine bel_alloc ?_ _ | refine bel_drew ?_ | refine bel_drewN ?_ _ | refine bel_set ?_ (by first | omega | (simp; done) | (simp; omega)) _ | refine bel_trans ?_ (by assumption)))⟩

/-- a mark on nothing -/
theorem c_markKnown_nil (o l m b t : Int) (w : World) : Calls Try.prog 89 #[.agg #[.int .i64 o, .int .i64 l, .int .i64 m, .slice none 0 0, .int .i64 b, .int .i64 t], .int .i64 1] w fun e w' => e = .returned (.int .i64 1) ∧ Below w.heap.size w w' := by
  go_enter Try.func89, Try.ntmps89
  go_wp2_with (go_at_call 162; refine (c_markPairS_nil _).mono ?_; rintro e w' ⟨rfl, rfl⟩)
  go_ret
  exact ⟨rfl, by (repeat (first | with_reducible assumption | with_reducible exact Below.refl _ _ | with_reducible refine bel_alloc ?_ _ | with_reducible refine bel_drew ?_ | with_reducible refine bel_drewN ?_ _ | with_reducible refine bel_set ?_ (by first | omega | (simp; done) | (simp; omega)) _ | with_reducible refine bel_trans ?_ (by with_reducible assumption) | exact Below.refl _ _ | assumption | refine bel_alloc ?_ _ | refine bel_drew ?_ | refine bel_drewN ?_ _ | refine bel_set ?_ (by first | omega | (simp; done) | (simp; omega)) _ | refine bel_trans ?_ (by assumption)))⟩
theorem c_markKnown (k : Kn) (B G cap : Nat) (w : World) (h : w.ownsRow B 41 2 (.slice (some ⟨G, 0, none⟩) k.ps.length cap) k.ps.length (prs k.ps)) (hB : B ≤ w.heap.size) (hn : k.ps.length ≤ 1048576) : Calls Try.prog 89 #[.agg #[.int .i64 k.o, .int .i64 k.l, .int .i64 k.m, .slice (some ⟨G, 0, none⟩) k.ps.length cap, .int .i64 k.base, .int .i64 k.last], .int .i64 1] w fun e w' => e = .returned (.int .i64 (1 + 2 * k.ps.length)) ∧ w'.ownsRow B 41 2 (.slice (some ⟨G, 0, none⟩) k.ps.length cap) k.ps.length (prs (mk k.ps.length 1)) ∧ w.grownBy w' (some G) := by
  have HH := hid h
  clear h
  go_enter Try.func89, Try.ntmps89
  go_wp2_with fail
  refine (c_markPairS B G cap k.ps _ (HH.out.alloc _) hn).mono ?_
  rintro e w1 ⟨rfl, hown, hg⟩
  have hg2 := grown_trans (World.grownBy_alloc w (.cells #[.int .i64 k.o, .int .i64 k.l, .int .i64 k.m, .slice (some ⟨G, 0, none⟩) k.ps.length cap, .int .i64 k.base, .int .i64 k.last] 28) (some G)) hg
  clear hg
  go_wp2
  go_ret
  exact ⟨rfl, hown, hg2⟩
theorem c_heldKnown (o l m b t : Int) (A : Option Addr) (cap n L : Nat) (w : World) (h : PsAt w L A cap (mk n 1)) (hL : L ≤ w.heap.size) (hn : n ≤ 1048576) : Calls Try.prog 90 #[.agg #[.int .i64 o, .int .i64 l, .int .i64 m, .slice A n cap, .int .i64 b, .int .i64 t], .int .i64 1] w fun e w' => e = .returned (.int .i64 (1 + 2 * n)) ∧ Below w.heap.size w w' := by
  have HH := hid h
  clear h
  go_enter Try.func90, Try.ntmps90
  go_wp2_with (go_at_call 163; refine (c_heldPairS L A cap n _ (HH.out.alloc hL _) hn).mono ?_; rintro e w' ⟨rfl, rfl⟩)
  go_ret
  exact ⟨rfl, by (repeat (first | with_reducible assumption | with_reducible exact Below.refl _ _ | with_reducible refine bel_alloc ?_ _ | with_reducible refine bel_drew ?_ | with_reducible refine bel_drewN ?_ _ | with_reducible refine bel_set ?_ (by first | omega | (simp; done) | (simp; omega)) _ | with_reducible refine bel_trans ?_ (by with_reducible assumption) | exact Below.refl _ _ | assumption | refine bel_alloc ?_ _ | refine bel_drew ?_ | refine bel_drewN ?_ _ | refine bel_set ?_ (by first | omega | (simp; done) | (simp; omega)) _ | refine bel_trans ?_ (by assumption)))⟩
end Go.Proofs.Ytoiifopjipfjhaa
