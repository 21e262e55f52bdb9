/- Contracts of Start in both programs; the laws' marks on what is known; the walk of FnExactStart. No condition. -/
import Derived.Test.YtghfhnfmbohoeaaLk
namespace Go.Proofs.Ytghfhnfmbohoeaa
open Go.ChangeShapes Go.WideShapes Go.ChangeAt Go.RowKit Go.Joins
set_option linter.unusedVariables false

theorem c_sStart_yes (o l m : Int) (w : World) (h : setOk o l m = true) : Calls Try.prog 27 #[.agg #[.int .i64 o, .int .i64 l, .int .i64 m]] w fun e w' => e = .returned (.tuple #[.agg #[.int .i64 o, .int .i64 l, .int .i64 m, .slice none 0 0, .int .i64 0, .int .i64 (-1)], .bool true]) ∧ Below w.heap.size w w' := by
  have hs2 : ∀ (o1 o2 : Obj), ((w.alloc o1).alloc o2).heap.size = w.heap.size + 2 := fun o1 o2 => by simp
  go_enter Try.func27, Try.ntmps27
  go_wp2_with fail
  refine (c_sSettingValid _ _ _ _).mono ?_
  rintro e w1 ⟨rfl, hb1⟩
  have kN := ((Blk.new w 29 #[.int .i64 o, .int .i64 l, .int .i64 m]).alloc _).on hb1
  have kR := (Blk.top w _ _ _).on hb1
  have hz1 := hb1.size
  rw [hs2] at hz1
  have hB1 : Below w.heap.size w w1 := by (repeat (first | with_reducible assumption | with_reducible exact Below.refl _ _ | with_reducible refine bel_alloc ?_ _ | with_reducible refine bel_drew ?_ | with_reducible refine bel_drewN ?_ _ | with_reducible refine bel_set ?_ (by first | omega | (simp; done) | (simp; omega)) _ | with_reducible refine bel_trans ?_ (by with_reducible assumption) | exact Below.refl _ _ | assumption | refine bel_alloc ?_ _ | refine bel_drew ?_ | refine bel_drewN ?_ _ | refine bel_set ?_ (by first | omega | (simp; done) | (simp; omega)) _ | refine bel_trans ?_ (by assumption)))
  clear hb1
  obtain ⟨p0, p1, p2⟩ := kN.cells3
  obtain ⟨t0, t1, t2, t3, t4, t5⟩ := kR.cells6
  obtain ⟨u0, u1, u2, u3, u4, u5⟩ := kR.free6
  obtain ⟨j0, j1, j2, j3, j4, j5⟩ := (kR.put6 (.int .i64 o) (.int .i64 l) (.int .i64 m) (.slice none 0 0) (.int .i64 0) (.int .i64 (-1))).cells6
  clear kN kR
  go_wp2
  exact bodyPost_ret (v := .tuple #[.agg #[.int .i64 o, .int .i64 l, .int .i64 m, .slice none 0 0, .int .i64 0, .int .i64 (-1)], .bool true]) (by simp [results, Try.results27, go_sem, j0, j1, j2, j3, j4, j5]) rfl ⟨rfl, by (repeat (first | with_reducible assumption | with_reducible exact Below.refl _ _ | with_reducible refine bel_alloc ?_ _ | with_reducible refine bel_drew ?_ | with_reducible refine bel_drewN ?_ _ | with_reducible refine bel_set ?_ (by first | omega | (simp; done) | (simp; omega)) _ | with_reducible refine bel_trans ?_ (by with_reducible assumption) | exact Below.refl _ _ | assumption | refine bel_alloc ?_ _ | refine bel_drew ?_ | refine bel_drewN ?_ _ | refine bel_set ?_ (by first | omega | (simp; done) | (simp; omega)) _ | refine bel_trans ?_ (by assumption)))⟩

theorem c_sStart_no (o l m : Int) (w : World) (h : setOk o l m = false) : Calls Try.prog 27 #[.agg #[.int .i64 o, .int .i64 l, .int .i64 m]] w fun e w' => e = .returned (.tuple #[.agg #[.int .i64 0, .int .i64 0, .int .i64 0, .slice none 0 0, .int .i64 0, .int .i64 0], .bool false]) ∧ Below w.heap.size w w' := by
  have hs2 : ∀ (o1 o2 : Obj), ((w.alloc o1).alloc o2).heap.size = w.heap.size + 2 := fun o1 o2 => by simp
  go_enter Try.func27, Try.ntmps27
  go_wp2_with fail
  refine (c_sSettingValid _ _ _ _).mono ?_
  rintro e w1 ⟨rfl, hb1⟩
  have kR := (Blk.top w _ _ _).on hb1
  have hz1 := hb1.size
  rw [hs2] at hz1
  have hB1 : Below w.heap.size w w1 := by (repeat (first | with_reducible assumption | with_reducible exact Below.refl _ _ | with_reducible refine bel_alloc ?_ _ | with_reducible refine bel_drew ?_ | with_reducible refine bel_drewN ?_ _ | with_reducible refine bel_set ?_ (by first | omega | (simp; done) | (simp; omega)) _ | with_reducible refine bel_trans ?_ (by with_reducible assumption) | exact Below.refl _ _ | assumption | refine bel_alloc ?_ _ | refine bel_drew ?_ | refine bel_drewN ?_ _ | refine bel_set ?_ (by first | omega | (simp; done) | (simp; omega)) _ | refine bel_trans ?_ (by assumption)))
  clear hb1
  obtain ⟨t0, t1, t2, t3, t4, t5⟩ := kR.cells6
  obtain ⟨u0, u1, u2, u3, u4, u5⟩ := kR.free6
  obtain ⟨j0, j1, j2, j3, j4, j5⟩ := (kR.put6 (.int .i64 0) (.int .i64 0) (.int .i64 0) (.slice none 0 0) (.int .i64 0) (.int .i64 0)).cells6
  clear kR
  go_wp2
  exact bodyPost_ret (v := .tuple #[.agg #[.int .i64 0, .int .i64 0, .int .i64 0, .slice none 0 0, .int .i64 0, .int .i64 0], .bool false]) (by simp [results, Try.results27, go_sem, j0, j1, j2, j3, j4, j5]) rfl ⟨rfl, by (repeat (first | with_reducible assumption | with_reducible exact Below.refl _ _ | with_reducible refine bel_alloc ?_ _ | with_reducible refine bel_drew ?_ | with_reducible refine bel_drewN ?_ _ | with_reducible refine bel_set ?_ (by first | omega | (simp; done) | (simp; omega)) _ | with_reducible refine bel_trans ?_ (by with_reducible assumption) | exact Below.refl _ _ | assumption | refine bel_alloc ?_ _ | refine bel_drew ?_ | refine bel_drewN ?_ _ | refine bel_set ?_ (by first | omega | (simp; done) | (simp; omega)) _ | refine bel_trans ?_ (by assumption)))⟩

theorem c_Start_yes (o l m : Int) (w : World) (h : setOk o l m = true) : Calls Try.prog 29 #[.agg #[.int .i64 o, .int .i64 l, .int .i64 m]] w fun e w' => e = .returned (.tuple #[.agg #[.int .i64 o, .int .i64 l, .int .i64 m, .slice none 0 0, .int .i64 0, .int .i64 (-1)], .bool true]) ∧ Below w.heap.size w w' := by
  have hs2 : ∀ (o1 o2 : Obj), ((w.alloc o1).alloc o2).heap.size = w.heap.size + 2 := fun o1 o2 => by simp
  go_enter Try.func29, Try.ntmps29
  go_wp2_with fail
  refine (c_SettingValid _ _ _ _).mono ?_
  rintro e w1 ⟨rfl, hb1⟩
  have kN := ((Blk.new w 29 #[.int .i64 o, .int .i64 l, .int .i64 m]).alloc _).on hb1
  have kR := (Blk.top w _ _ _).on hb1
  have hz1 := hb1.size
  rw [hs2] at hz1
  have hB1 : Below w.heap.size w w1 := by (repeat (first | with_reducible assumption | with_reducible exact Below.refl _ _ | with_reducible refine bel_alloc ?_ _ | with_reducible refine bel_drew ?_ | with_reducible refine bel_drewN ?_ _ | with_reducible refine bel_set ?_ (by first | omega | (simp; done) | (simp; omega)) _ | with_reducible refine bel_trans ?_ (by with_reducible assumption) | exact Below.refl _ _ | assumption | refine bel_alloc ?_ _ | refine bel_drew ?_ | refine bel_drewN ?_ _ | refine bel_set ?_ (by first | omega | (simp; done) | (simp; omega)) _ | refine bel_trans ?_ (by assumption)))
  clear hb1
  obtain ⟨p0, p1, p2⟩ := kN.cells3
  obtain ⟨t0, t1, t2, t3, t4, t5⟩ := kR.cells6
  obtain ⟨u0, u1, u2, u3, u4, u5⟩ := kR.free6
  obtain ⟨j0, j1, j2, j3, j4, j5⟩ := (kR.put6 (.int .i64 o) (.int .i64 l) (.int .i64 m) (.slice none 0 0) (.int .i64 0) (.int .i64 (-1))).cells6
  clear kN kR
  go_wp2
  exact bodyPost_ret (v := .tuple #[.agg #[.int .i64 o, .int .i64 l, .int .i64 m, .slice none 0 0, .int .i64 0, .int .i64 (-1)], .bool true]) (by simp [results, Try.results29, go_sem, j0, j1, j2, j3, j4, j5]) rfl ⟨rfl, by (repeat (first | with_reducible assumption | with_reducible exact Below.refl _ _ | with_reducible refine bel_alloc ?_ _ | with_reducible refine bel_drew ?_ | with_reducible refine bel_drewN ?_ _ | with_reducible refine bel_set ?_ (by first | omega | (simp; done) | (simp; omega)) _ | with_reducible refine bel_trans ?_ (by with_reducible assumption) | exact Below.refl _ _ | assumption | refine bel_alloc ?_ _ | refine bel_drew ?_ | refine bel_drewN ?_ _ | refine bel_set ?_ (by first | omega | (simp; done) | (simp; omega)) _ | refine bel_trans ?_ (by assumption)))⟩

theorem c_Start_no (o l m : Int) (w : World) (h : setOk o l m = false) : Calls Try.prog 29 #[.agg #[.int .i64 o, .int .i64 l, .int .i64 m]] w fun e w' => e = .returned (.tuple #[.agg #[.int .i64 0, .int .i64 0, .int .i64 0, .slice none 0 0, .int .i64 0, .int .i64 0], .bool false]) ∧ Below w.heap.size w w' := by
  have hs2 : ∀ (o1 o2 : Obj), ((w.alloc o1).alloc o2).heap.size = w.heap.size + 2 := fun o1 o2 => by simp
  go_enter Try.func29, Try.ntmps29
  go_wp2_with fail
  refine (c_SettingValid _ _ _ _).mono ?_
  rintro e w1 ⟨rfl, hb1⟩
  have kR := (Blk.top w _ _ _).on hb1
  have hz1 := hb1.size
  rw [hs2] at hz1
  have hB1 : Below w.heap.size w w1 := by (repeat (first | with_reducible assumption | with_reducible exact Below.refl _ _ | with_reducible refine bel_alloc ?_ _ | with_reducible refine bel_drew ?_ | with_reducible refine bel_drewN ?_ _ | with_reducible refine bel_set ?_ (by first | omega | (simp; done) | (simp; omega)) _ | with_reducible refine bel_trans ?_ (by with_reducible assumption) | exact Below.refl _ _ | assumption | refine bel_alloc ?_ _ | refine bel_drew ?_ | refine bel_drewN ?_ _ | refine bel_set ?_ (by first | omega | (simp; done) | (simp; omega)) _ | refine bel_trans ?_ (by assumption)))
  clear hb1
  obtain ⟨t0, t1, t2, t3, t4, t5⟩ := kR.cells6
  obtain ⟨u0, u1, u2, u3, u4, u5⟩ := kR.free6
  obtain ⟨j0, j1, j2, j3, j4, j5⟩ := (kR.put6 (.int .i64 0) (.int .i64 0) (.int .i64 0) (.slice none 0 0) (.int .i64 0) (.int .i64 0)).cells6
  clear kR
  go_wp2
  exact bodyPost_ret (v := .tuple #[.agg #[.int .i64 0, .int .i64 0, .int .i64 0, .slice none 0 0, .int .i64 0, .int .i64 0], .bool false]) (by simp [results, Try.results29, go_sem, j0, j1, j2, j3, j4, j5]) rfl ⟨rfl, by (repeat (first | with_reducible assumption | with_reducible exact Below.refl _ _ | with_reducible refine bel_alloc ?_ _ | with_reducible refine bel_drew ?_ | with_reducible refine bel_drewN ?_ _ | with_reducible refine bel_set ?_ (by first | omega | (simp; done) | (simp; omega)) _ | with_reducible refine bel_trans ?_ (by with_reducible assumption) | exact Below.refl _ _ | assumption | refine bel_alloc ?_ _ | refine bel_drew ?_ | refine bel_drewN ?_ _ | refine bel_set ?_ (by first | omega | (simp; done) | (simp; omega)) _ | refine bel_trans ?_ (by assumption)))⟩

/-- a mark on nothing -/
theorem c_markKnown_nil (o l m b t : Int) (w : World) : Calls Try.prog 30 #[.agg #[.int .i64 o, .int .i64 l, .int .i64 m, .slice none 0 0, .int .i64 b, .int .i64 t], .int .i64 1] w fun e w' => e = .returned (.int .i64 1) ∧ Below w.heap.size w w' := by
  go_enter Try.func30, Try.ntmps30
  go_wp2_with (go_at_call 85; refine (c_markPairS_nil _).mono ?_; rintro e w' ⟨rfl, rfl⟩)
  go_ret
  exact ⟨rfl, by (repeat (first | with_reducible assumption | with_reducible exact Below.refl _ _ | with_reducible refine bel_alloc ?_ _ | with_reducible refine bel_drew ?_ | with_reducible refine bel_drewN ?_ _ | with_reducible refine bel_set ?_ (by first | omega | (simp; done) | (simp; omega)) _ | with_reducible refine bel_trans ?_ (by with_reducible assumption) | exact Below.refl _ _ | assumption | refine bel_alloc ?_ _ | refine bel_drew ?_ | refine bel_drewN ?_ _ | refine bel_set ?_ (by first | omega | (simp; done) | (simp; omega)) _ | refine bel_trans ?_ (by assumption)))⟩
theorem c_markKnown (k : Kn) (B G cap : Nat) (w : World) (h : w.ownsRow B 71 2 (.slice (some ⟨G, 0, none⟩) k.ps.length cap) k.ps.length (prs k.ps)) (hB : B ≤ w.heap.size) (hn : k.ps.length ≤ 1048576) : Calls Try.prog 30 #[.agg #[.int .i64 k.o, .int .i64 k.l, .int .i64 k.m, .slice (some ⟨G, 0, none⟩) k.ps.length cap, .int .i64 k.base, .int .i64 k.last], .int .i64 1] w fun e w' => e = .returned (.int .i64 (1 + 2 * k.ps.length)) ∧ w'.ownsRow B 71 2 (.slice (some ⟨G, 0, none⟩) k.ps.length cap) k.ps.length (prs (mk k.ps.length 1)) ∧ w.grownBy w' (some G) := by
  have HH := hid h
  clear h
  go_enter Try.func30, Try.ntmps30
  go_wp2_with fail
  refine (c_markPairS B G cap k.ps _ (HH.out.alloc _) hn).mono ?_
  rintro e w1 ⟨rfl, hown, hg⟩
  have hg2 := grown_trans (World.grownBy_alloc w (.cells #[.int .i64 k.o, .int .i64 k.l, .int .i64 k.m, .slice (some ⟨G, 0, none⟩) k.ps.length cap, .int .i64 k.base, .int .i64 k.last] 32) (some G)) hg
  clear hg
  go_wp2
  go_ret
  exact ⟨rfl, hown, hg2⟩
theorem c_heldKnown (o l m b t : Int) (A : Option Addr) (cap n L : Nat) (w : World) (h : PsAt w L A cap (mk n 1)) (hL : L ≤ w.heap.size) (hn : n ≤ 1048576) : Calls Try.prog 31 #[.agg #[.int .i64 o, .int .i64 l, .int .i64 m, .slice A n cap, .int .i64 b, .int .i64 t], .int .i64 1] w fun e w' => e = .returned (.int .i64 (1 + 2 * n)) ∧ Below w.heap.size w w' := by
  have HH := hid h
  clear h
  go_enter Try.func31, Try.ntmps31
  go_wp2_with (go_at_call 86; refine (c_heldPairS L A cap n _ (HH.out.alloc hL _) hn).mono ?_; rintro e w' ⟨rfl, rfl⟩)
  go_ret
  exact ⟨rfl, by (repeat (first | with_reducible assumption | with_reducible exact Below.refl _ _ | with_reducible refine bel_alloc ?_ _ | with_reducible refine bel_drew ?_ | with_reducible refine bel_drewN ?_ _ | with_reducible refine bel_set ?_ (by first | omega | (simp; done) | (simp; omega)) _ | with_reducible refine bel_trans ?_ (by with_reducible assumption) | exact Below.refl _ _ | assumption | refine bel_alloc ?_ _ | refine bel_drew ?_ | refine bel_drewN ?_ _ | refine bel_set ?_ (by first | omega | (simp; done) | (simp; omega)) _ | refine bel_trans ?_ (by assumption)))⟩

theorem walk_FnExactStart (o l m : Int) (w : World) (h_o : -9223372036854775808 ≤ o ∧ o ≤ 9223372036854775807) (h_l : -9223372036854775808 ≤ l ∧ l ≤ 9223372036854775807) (h_m : -9223372036854775808 ≤ m ∧ m ≤ 9223372036854775807) :
    Calls Try.prog 4 #[.agg #[.int .i64 o, .int .i64 l, .int .i64 m]] w fun e w' => e = .returned (.bool true) ∧ Below w.heap.size w w' := by
  cases h : setOk o l m with
  | false =>
    have HE := hid (fun (w : World) => c_eqKnown ⟨0, 0, 0, [], 0, 0⟩ none none 0 0 0 0 w (PsAt.nil _ _) (PsAt.nil _ _) (Nat.zero_le _) (Nat.zero_le _) (by simp))
    have HK := hid (fun (w : World) => c_heldKnown 0 0 0 0 0 none 0 0 0 w (PsAt.nil _ _) (Nat.zero_le _) (by simp))
    go_enter Try.func4, Try.ntmps4
    go_wp2_with fail
    refine (c_toSetting _ _ _ _).mono ?_
    rintro e w1 ⟨rfl, hb1⟩
    have hc1 := bcell hb1
    have hz1_0 : w.heap.size < w1.heap.size := (by have := hb1.size; first | omega | (simp at this; omega))
    go_wp2_with fail
    refine (c_sStart_no _ _ _ _ h).mono ?_
    rintro e w2 ⟨rfl, hb2⟩
    have hc2 := bcell hb2
    have hz2_0 : w.heap.size < w2.heap.size := (by have := hb2.size; first | omega | (simp at this; omega))
    go_wp2_with fail
    refine (c_toSetting _ _ _ _).mono ?_
    rintro e w3 ⟨rfl, hb3⟩
    have hc3 := bcell hb3
    have hz3_0 : w.heap.size < w3.heap.size := (by have := hb3.size; first | omega | (simp at this; omega))
    have hz3_1 : w2.heap.size < w3.heap.size := (by have := hb3.size; first | omega | (simp at this; omega))
    go_wp2_with fail
    refine (c_Start_no _ _ _ _ h).mono ?_
    rintro e w4 ⟨rfl, hb4⟩
    have hc4 := bcell hb4
    have hz4_0 : w.heap.size < w4.heap.size := (by have := hb4.size; first | omega | (simp at this; omega))
    have hz4_1 : w2.heap.size < w4.heap.size := (by have := hb4.size; first | omega | (simp at this; omega))
    go_wp2_with fail
    refine (HE.out _).mono ?_
    rintro e w5 ⟨rfl, hb5⟩
    have hc5 := bcell hb5
    have hz5_0 : w.heap.size < w5.heap.size := (by have := hb5.size; first | omega | (simp at this; omega))
    have hz5_1 : w2.heap.size < w5.heap.size := (by have := hb5.size; first | omega | (simp at this; omega))
    have hz5_2 : w4.heap.size < w5.heap.size := (by have := hb5.size; first | omega | (simp at this; omega))
    go_wp2_with fail
    refine (c_markKnown_nil _ _ _ _ _ _).mono ?_
    rintro e w6 ⟨rfl, hb6⟩
    have hc6 := bcell hb6
    have hz6_0 : w.heap.size < w6.heap.size := (by have := hb6.size; first | omega | (simp at this; omega))
    have hz6_1 : w2.heap.size < w6.heap.size := (by have := hb6.size; first | omega | (simp at this; omega))
    have hz6_2 : w4.heap.size < w6.heap.size := (by have := hb6.size; first | omega | (simp at this; omega))
    go_wp2_with fail
    refine (HK.out _).mono ?_
    rintro e w7 ⟨rfl, hb7⟩
    have hc7 := bcell hb7
    have hz7_0 : w.heap.size < w7.heap.size := (by have := hb7.size; first | omega | (simp at this; omega))
    have hz7_1 : w2.heap.size < w7.heap.size := (by have := hb7.size; first | omega | (simp at this; omega))
    have hz7_2 : w4.heap.size < w7.heap.size := (by have := hb7.size; first | omega | (simp at this; omega))
    go_wp2_with fail
    refine (c_toSetting _ _ _ _).mono ?_
    rintro e w8 ⟨rfl, hb8⟩
    have hc8 := bcell hb8
    have hz8_0 : w.heap.size < w8.heap.size := (by have := hb8.size; first | omega | (simp at this; omega))
    have hz8_1 : w2.heap.size < w8.heap.size := (by have := hb8.size; first | omega | (simp at this; omega))
    have hz8_2 : w4.heap.size < w8.heap.size := (by have := hb8.size; first | omega | (simp at this; omega))
    go_wp2_with fail
    refine (c_Start_no _ _ _ _ h).mono ?_
    rintro e w9 ⟨rfl, hb9⟩
    have hc9 := bcell hb9
    have hz9_0 : w.heap.size < w9.heap.size := (by have := hb9.size; first | omega | (simp at this; omega))
    have hz9_1 : w2.heap.size < w9.heap.size := (by have := hb9.size; first | omega | (simp at this; omega))
    have hz9_2 : w4.heap.size < w9.heap.size := (by have := hb9.size; first | omega | (simp at this; omega))
    go_wp2_with fail
    refine (HE.out _).mono ?_
    rintro e w10 ⟨rfl, hb10⟩
    have hc10 := bcell hb10
    have hz10_0 : w.heap.size < w10.heap.size := (by have := hb10.size; first | omega | (simp at this; omega))
    have hz10_1 : w2.heap.size < w10.heap.size := (by have := hb10.size; first | omega | (simp at this; omega))
    have hz10_2 : w4.heap.size < w10.heap.size := (by have := hb10.size; first | omega | (simp at this; omega))
    have hz10_3 : w9.heap.size < w10.heap.size := (by have := hb10.size; first | omega | (simp at this; omega))
    go_wp2_with fail
    refine (HK.out _).mono ?_
    rintro e w11 ⟨rfl, hb11⟩
    have hc11 := bcell hb11
    have hz11_0 : w.heap.size < w11.heap.size := (by have := hb11.size; first | omega | (simp at this; omega))
    have hz11_1 : w2.heap.size < w11.heap.size := (by have := hb11.size; first | omega | (simp at this; omega))
    have hz11_2 : w4.heap.size < w11.heap.size := (by have := hb11.size; first | omega | (simp at this; omega))
    go_wp2
    go_ret
    exact ⟨rfl, by (repeat (first | with_reducible assumption | with_reducible exact Below.refl _ _ | with_reducible refine bel_alloc ?_ _ | with_reducible refine bel_drew ?_ | with_reducible refine bel_drewN ?_ _ | with_reducible refine bel_set ?_ (by first | omega | (simp; done) | (simp; omega)) _ | with_reducible refine bel_trans ?_ (by with_reducible assumption) | exact Below.refl _ _ | assumption | refine bel_alloc ?_ _ | refine bel_drew ?_ | refine bel_drewN ?_ _ | refine bel_set ?_ (by first | omega | (simp; done) | (simp; omega)) _ | refine bel_trans ?_ (by assumption)))⟩
  | true =>
    have HE := hid (fun (w : World) => c_eqKnown ⟨o, l, m, [], 0, -1⟩ none none 0 0 0 0 w (PsAt.nil _ _) (PsAt.nil _ _) (Nat.zero_le _) (Nat.zero_le _) (by simp))
    have HK := hid (fun (w : World) => c_heldKnown o l m 0 (-1) none 0 0 0 w (PsAt.nil _ _) (Nat.zero_le _) (by simp))
    go_enter Try.func4, Try.ntmps4
    go_wp2_with fail
    refine (c_toSetting _ _ _ _).mono ?_
    rintro e w1 ⟨rfl, hb1⟩
    have hc1 := bcell hb1
    have hz1_0 : w.heap.size < w1.heap.size := (by have := hb1.size; first | omega | (simp at this; omega))
    go_wp2_with fail
    refine (c_sStart_yes _ _ _ _ h).mono ?_
    rintro e w2 ⟨rfl, hb2⟩
    have hc2 := bcell hb2
    have hz2_0 : w.heap.size < w2.heap.size := (by have := hb2.size; first | omega | (simp at this; omega))
    go_wp2_with fail
    refine (c_toSetting _ _ _ _).mono ?_
    rintro e w3 ⟨rfl, hb3⟩
    have hc3 := bcell hb3
    have hz3_0 : w.heap.size < w3.heap.size := (by have := hb3.size; first | omega | (simp at this; omega))
    have hz3_1 : w2.heap.size < w3.heap.size := (by have := hb3.size; first | omega | (simp at this; omega))
    go_wp2_with fail
    refine (c_Start_yes _ _ _ _ h).mono ?_
    rintro e w4 ⟨rfl, hb4⟩
    have hc4 := bcell hb4
    have hz4_0 : w.heap.size < w4.heap.size := (by have := hb4.size; first | omega | (simp at this; omega))
    have hz4_1 : w2.heap.size < w4.heap.size := (by have := hb4.size; first | omega | (simp at this; omega))
    go_wp2_with fail
    refine (HE.out _).mono ?_
    rintro e w5 ⟨rfl, hb5⟩
    have hc5 := bcell hb5
    have hz5_0 : w.heap.size < w5.heap.size := (by have := hb5.size; first | omega | (simp at this; omega))
    have hz5_1 : w2.heap.size < w5.heap.size := (by have := hb5.size; first | omega | (simp at this; omega))
    have hz5_2 : w4.heap.size < w5.heap.size := (by have := hb5.size; first | omega | (simp at this; omega))
    go_wp2_with fail
    refine (c_markKnown_nil _ _ _ _ _ _).mono ?_
    rintro e w6 ⟨rfl, hb6⟩
    have hc6 := bcell hb6
    have hz6_0 : w.heap.size < w6.heap.size := (by have := hb6.size; first | omega | (simp at this; omega))
    have hz6_1 : w2.heap.size < w6.heap.size := (by have := hb6.size; first | omega | (simp at this; omega))
    have hz6_2 : w4.heap.size < w6.heap.size := (by have := hb6.size; first | omega | (simp at this; omega))
    go_wp2_with fail
    refine (HK.out _).mono ?_
    rintro e w7 ⟨rfl, hb7⟩
    have hc7 := bcell hb7
    have hz7_0 : w.heap.size < w7.heap.size := (by have := hb7.size; first | omega | (simp at this; omega))
    have hz7_1 : w2.heap.size < w7.heap.size := (by have := hb7.size; first | omega | (simp at this; omega))
    have hz7_2 : w4.heap.size < w7.heap.size := (by have := hb7.size; first | omega | (simp at this; omega))
    go_wp2_with fail
    refine (c_toSetting _ _ _ _).mono ?_
    rintro e w8 ⟨rfl, hb8⟩
    have hc8 := bcell hb8
    have hz8_0 : w.heap.size < w8.heap.size := (by have := hb8.size; first | omega | (simp at this; omega))
    have hz8_1 : w2.heap.size < w8.heap.size := (by have := hb8.size; first | omega | (simp at this; omega))
    have hz8_2 : w4.heap.size < w8.heap.size := (by have := hb8.size; first | omega | (simp at this; omega))
    go_wp2_with fail
    refine (c_Start_yes _ _ _ _ h).mono ?_
    rintro e w9 ⟨rfl, hb9⟩
    have hc9 := bcell hb9
    have hz9_0 : w.heap.size < w9.heap.size := (by have := hb9.size; first | omega | (simp at this; omega))
    have hz9_1 : w2.heap.size < w9.heap.size := (by have := hb9.size; first | omega | (simp at this; omega))
    have hz9_2 : w4.heap.size < w9.heap.size := (by have := hb9.size; first | omega | (simp at this; omega))
    go_wp2_with fail
    refine (HE.out _).mono ?_
    rintro e w10 ⟨rfl, hb10⟩
    have hc10 := bcell hb10
    have hz10_0 : w.heap.size < w10.heap.size := (by have := hb10.size; first | omega | (simp at this; omega))
    have hz10_1 : w2.heap.size < w10.heap.size := (by have := hb10.size; first | omega | (simp at this; omega))
    have hz10_2 : w4.heap.size < w10.heap.size := (by have := hb10.size; first | omega | (simp at this; omega))
    have hz10_3 : w9.heap.size < w10.heap.size := (by have := hb10.size; first | omega | (simp at this; omega))
    go_wp2_with fail
    refine (HK.out _).mono ?_
    rintro e w11 ⟨rfl, hb11⟩
    have hc11 := bcell hb11
    have hz11_0 : w.heap.size < w11.heap.size := (by have := hb11.size; first | omega | (simp at this; omega))
    have hz11_1 : w2.heap.size < w11.heap.size := (by have := hb11.size; first | omega | (simp at this; omega))
    have hz11_2 : w4.heap.size < w11.heap.size := (by have := hb11.size; first | omega | (simp at this; omega))
    go_wp2
    go_ret
    exact ⟨rfl, by (repeat (first | with_reducible assumption | with_reducible exact Below.refl _ _ | with_reducible refine bel_alloc ?_ _ | with_reducible refine bel_drew ?_ | with_reducible refine bel_drewN ?_ _ | with_reducible refine bel_set ?_ (by first | omega | (simp; done) | (simp; omega)) _ | with_reducible refine bel_trans ?_ (by with_reducible assumption) | exact Below.refl _ _ | assumption | refine bel_alloc ?_ _ | refine bel_drew ?_ | refine bel_drewN ?_ _ | refine bel_set ?_ (by first | omega | (simp; done) | (simp; omega)) _ | refine bel_trans ?_ (by assumption)))⟩
end Go.Proofs.Ytghfhnfmbohoeaa
