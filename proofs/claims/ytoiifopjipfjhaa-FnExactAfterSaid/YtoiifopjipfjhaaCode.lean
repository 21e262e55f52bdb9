/- Contracts of ClearCode, EndCode, LastCode in both programs. No condition. -/
import Derived.Test.YtoiifopjipfjhaaSet
namespace Go.Proofs.Ytoiifopjipfjhaa
open Go.ChangeShapes Go.WideShapes Go.ChangeAt Go.RowKit Go.Joins
set_option linter.unusedVariables false

def pow2 (n : Int) : Int := 2 ^ n.toNat
def clearCode (o l m : Int) : Int := if setOk o l m = true then pow2 l else -1
def endCode (o l m : Int) : Int := if setOk o l m = true then pow2 l + 1 else -1
def lastCode (o l m : Int) : Int := if setOk o l m = true then pow2 m - 1 else -1

theorem pow2_bd {n : Int} (h1 : n ≤ 30) : 1 ≤ pow2 n ∧ pow2 n ≤ 1073741824 := by
  have h : (2 : Int) ^ n.toNat = ((2 ^ n.toNat : Nat) : Int) := by simp
  have h2 : 2 ^ n.toNat ≤ 2 ^ 30 := Nat.pow_le_pow_right (by omega) (by omega)
  have h3 : 0 < 2 ^ n.toNat := Nat.pow_pos (by omega)
  unfold pow2; rw [h]; omega

theorem wrap_pow {n : Int} (h1 : n ≤ 30) : wrap64 (2 ^ n.toNat) = pow2 n := by
  have := pow2_bd h1
  exact IntWalk.wrap64_in _ (by unfold pow2 at this; omega)
theorem wrap_pow1 {n : Int} (h1 : n ≤ 30) : wrap64 (wrap64 (2 ^ n.toNat) + 1) = pow2 n + 1 := by
  rw [wrap_pow h1]; have := pow2_bd h1
  exact IntWalk.wrap64_in _ (by omega)
theorem wrap_pow0 {n : Int} (h1 : n ≤ 30) : wrap64 (wrap64 (2 ^ n.toNat) - 1) = pow2 n - 1 := by
  rw [wrap_pow h1]; have := pow2_bd h1
  exact IntWalk.wrap64_in _ (by omega)

theorem c_l1Two (n : Int) (w : World) (h0 : 0 ≤ n) (h1 : n ≤ 30) : Calls Try.prog 172 #[.int .i64 n] w (Same (.int .i64 (pow2 n)) w) := by
  go_enter Try.func172, Try.ntmps172
  go_wp2
  go_ret
  exact ⟨ret_int (wrap_pow h1), rfl⟩

theorem c_l1Clear (o l m : Int) (w : World) (h0 : 0 ≤ l) (h1 : l ≤ 30) : Calls Try.prog 108 #[.agg #[.int .i64 o, .int .i64 l, .int .i64 m]] w fun e w' => e = .returned (.int .i64 (pow2 l)) ∧ Below w.heap.size w w' := by
  go_enter Try.func108, Try.ntmps108
  go_wp2_with (go_at_call 172; refine (c_l1Two _ _ (by omega) (by omega)).mono ?_; rintro e w' ⟨rfl, rfl⟩)
  go_ret
  exact ⟨rfl, by (repeat (first | with_reducible assumption | with_reducible exact Below.refl _ _ | with_reducible refine bel_alloc ?_ _ | with_reducible refine bel_drew ?_ | with_reducible refine bel_drewN ?_ _ | with_reducible refine bel_set ?_ (by first | omega | (simp; done) | (simp; omega)) _ | with_reducible refine bel_trans ?_ (by with_reducible assumption) | exact Below.refl _ _ | assumption | refine bel_alloc ?_ _ | refine bel_drew ?_ | refine bel_drewN ?_ _ | refine bel_set ?_ (by first | omega | (simp; done) | (simp; omega)) _ | refine bel_trans ?_ (by assumption)))⟩

theorem c_l1End (o l m : Int) (w : World) (h0 : 0 ≤ l) (h1 : l ≤ 30) : Calls Try.prog 126 #[.agg #[.int .i64 o, .int .i64 l, .int .i64 m]] w fun e w' => e = .returned (.int .i64 (pow2 l + 1)) ∧ Below w.heap.size w w' := by
  have hp := pow2_bd h1
  go_enter Try.func126, Try.ntmps126
  go_wp2_with (go_at_call 172; refine (c_l1Two _ _ (by omega) (by omega)).mono ?_; rintro e w' ⟨rfl, rfl⟩)
  go_ret
  exact ⟨rfl, by (repeat (first | with_reducible assumption | with_reducible exact Below.refl _ _ | with_reducible refine bel_alloc ?_ _ | with_reducible refine bel_drew ?_ | with_reducible refine bel_drewN ?_ _ | with_reducible refine bel_set ?_ (by first | omega | (simp; done) | (simp; omega)) _ | with_reducible refine bel_trans ?_ (by with_reducible assumption) | exact Below.refl _ _ | assumption | refine bel_alloc ?_ _ | refine bel_drew ?_ | refine bel_drewN ?_ _ | refine bel_set ?_ (by first | omega | (simp; done) | (simp; omega)) _ | refine bel_trans ?_ (by assumption)))⟩

theorem c_l1Last (o l m : Int) (w : World) (h0 : 0 ≤ m) (h1 : m ≤ 30) : Calls Try.prog 175 #[.agg #[.int .i64 o, .int .i64 l, .int .i64 m]] w fun e w' => e = .returned (.int .i64 (pow2 m - 1)) ∧ Below w.heap.size w w' := by
  have hp := pow2_bd h1
  go_enter Try.func175, Try.ntmps175
  go_wp2_with (go_at_call 172; refine (c_l1Two _ _ (by omega) (by omega)).mono ?_; rintro e w' ⟨rfl, rfl⟩)
  go_ret
  exact ⟨rfl, by (repeat (first | with_reducible assumption | with_reducible exact Below.refl _ _ | with_reducible refine bel_alloc ?_ _ | with_reducible refine bel_drew ?_ | with_reducible refine bel_drewN ?_ _ | with_reducible refine bel_set ?_ (by first | omega | (simp; done) | (simp; omega)) _ | with_reducible refine bel_trans ?_ (by with_reducible assumption) | exact Below.refl _ _ | assumption | refine bel_alloc ?_ _ | refine bel_drew ?_ | refine bel_drewN ?_ _ | refine bel_set ?_ (by first | omega | (simp; done) | (simp; omega)) _ | refine bel_trans ?_ (by assumption)))⟩

theorem c_ClearCode (o l m : Int) (w : World) : Calls Try.prog 45 #[.agg #[.int .i64 o, .int .i64 l, .int .i64 m]] w fun e w' => e = .returned (.int .i64 (clearCode o l m)) ∧ Below w.heap.size w w' := by
  cases h : setOk o l m with
  | false =>
    go_enter Try.func45, Try.ntmps45
    go_wp2_with (go_at_call 35; refine (c_SettingValid _ _ _ _).mono ?_; rintro e w1 ⟨rfl, hb1⟩; have hc1 := bcell hb1; have hz1_0 : w.heap.size < w1.heap.size := (by have := hb1.size; first | omega | (simp at this; omega)))
    go_ret
    exact ⟨ret_int (by simp [clearCode, h]), by (repeat (first | with_reducible assumption | with_reducible exact Below.refl _ _ | with_reducible refine bel_alloc ?_ _ | with_reducible refine bel_drew ?_ | with_reducible refine bel_drewN ?_ _ | with_reducible refine bel_set ?_ (by first | omega | (simp; done) | (simp; omega)) _ | with_reducible refine bel_trans ?_ (by with_reducible assumption) | exact Below.refl _ _ | assumption | refine bel_alloc ?_ _ | refine bel_drew ?_ | refine bel_drewN ?_ _ | refine bel_set ?_ (by first | omega | (simp; done) | (simp; omega)) _ | refine bel_trans ?_ (by assumption)))⟩
  | true =>
    obtain ⟨_, ⟨h1, h2⟩, _⟩ := setOk_iff.1 h
    go_enter Try.func45, Try.ntmps45
    go_wp2_with (go_at_call 35; refine (c_SettingValid _ _ _ _).mono ?_; rintro e w1 ⟨rfl, hb1⟩; have hc1 := bcell hb1; have hz1_0 : w.heap.size < w1.heap.size := (by have := hb1.size; first | omega | (simp at this; omega)))
    go_ret
    exact ⟨ret_int (by rw [wrap_pow (by omega)]; simp [clearCode, h]), by (repeat (first | with_reducible assumption | with_reducible exact Below.refl _ _ | with_reducible refine bel_alloc ?_ _ | with_reducible refine bel_drew ?_ | with_reducible refine bel_drewN ?_ _ | with_reducible refine bel_set ?_ (by first | omega | (simp; done) | (simp; omega)) _ | with_reducible refine bel_trans ?_ (by with_reducible assumption) | exact Below.refl _ _ | assumption | refine bel_alloc ?_ _ | refine bel_drew ?_ | refine bel_drewN ?_ _ | refine bel_set ?_ (by first | omega | (simp; done) | (simp; omega)) _ | refine bel_trans ?_ (by assumption)))⟩

theorem c_EndCode (o l m : Int) (w : World) : Calls Try.prog 38 #[.agg #[.int .i64 o, .int .i64 l, .int .i64 m]] w fun e w' => e = .returned (.int .i64 (endCode o l m)) ∧ Below w.heap.size w w' := by
  cases h : setOk o l m with
  | false =>
    go_enter Try.func38, Try.ntmps38
    go_wp2_with (go_at_call 35; refine (c_SettingValid _ _ _ _).mono ?_; rintro e w1 ⟨rfl, hb1⟩; have hc1 := bcell hb1; have hz1_0 : w.heap.size < w1.heap.size := (by have := hb1.size; first | omega | (simp at this; omega)))
    go_ret
    exact ⟨ret_int (by simp [endCode, h]), by (repeat (first | with_reducible assumption | with_reducible exact Below.refl _ _ | with_reducible refine bel_alloc ?_ _ | with_reducible refine bel_drew ?_ | with_reducible refine bel_drewN ?_ _ | with_reducible refine bel_set ?_ (by first | omega | (simp; done) | (simp; omega)) _ | with_reducible refine bel_trans ?_ (by with_reducible assumption) | exact Below.refl _ _ | assumption | refine bel_alloc ?_ _ | refine bel_drew ?_ | refine bel_drewN ?_ _ | refine bel_set ?_ (by first | omega | (simp; done) | (simp; omega)) _ | refine bel_trans ?_ (by assumption)))⟩
  | true =>
    obtain ⟨_, ⟨h1, h2⟩, _⟩ := setOk_iff.1 h
    go_enter Try.func38, Try.ntmps38
    go_wp2_with (go_at_call 35; refine (c_SettingValid _ _ _ _).mono ?_; rintro e w1 ⟨rfl, hb1⟩; have hc1 := bcell hb1; have hz1_0 : w.heap.size < w1.heap.size := (by have := hb1.size; first | omega | (simp at this; omega)))
    go_ret
    exact ⟨ret_int (by rw [wrap_pow1 (by omega)]; simp [endCode, h]), by (repeat (first | with_reducible assumption | with_reducible exact Below.refl _ _ | with_reducible refine bel_alloc ?_ _ | with_reducible refine bel_drew ?_ | with_reducible refine bel_drewN ?_ _ | with_reducible refine bel_set ?_ (by first | omega | (simp; done) | (simp; omega)) _ | with_reducible refine bel_trans ?_ (by with_reducible assumption) | exact Below.refl _ _ | assumption | refine bel_alloc ?_ _ | refine bel_drew ?_ | refine bel_drewN ?_ _ | refine bel_set ?_ (by first | omega | (simp; done) | (simp; omega)) _ | refine bel_trans ?_ (by assumption)))⟩

theorem c_LastCode (o l m : Int) (w : World) : Calls Try.prog 53 #[.agg #[.int .i64 o, .int .i64 l, .int .i64 m]] w fun e w' => e = .returned (.int .i64 (lastCode o l m)) ∧ Below w.heap.size w w' := by
  cases h : setOk o l m with
  | false =>
    go_enter Try.func53, Try.ntmps53
    go_wp2_with (go_at_call 35; refine (c_SettingValid _ _ _ _).mono ?_; rintro e w1 ⟨rfl, hb1⟩; have hc1 := bcell hb1; have hz1_0 : w.heap.size < w1.heap.size := (by have := hb1.size; first | omega | (simp at this; omega)))
    go_ret
    exact ⟨ret_int (by simp [lastCode, h]), by (repeat (first | with_reducible assumption | with_reducible exact Below.refl _ _ | with_reducible refine bel_alloc ?_ _ | with_reducible refine bel_drew ?_ | with_reducible refine bel_drewN ?_ _ | with_reducible refine bel_set ?_ (by first | omega | (simp; done) | (simp; omega)) _ | with_reducible refine bel_trans ?_ (by with_reducible assumption) | exact Below.refl _ _ | assumption | refine bel_alloc ?_ _ | refine bel_drew ?_ | refine bel_drewN ?_ _ | refine bel_set ?_ (by first | omega | (simp; done) | (simp; omega)) _ | refine bel_trans ?_ (by assumption)))⟩
  | true =>
    obtain ⟨_, ⟨h1, h2⟩, h3, h4⟩ := setOk_iff.1 h
    go_enter Try.func53, Try.ntmps53
    go_wp2_with (go_at_call 35; refine (c_SettingValid _ _ _ _).mono ?_; rintro e w1 ⟨rfl, hb1⟩; have hc1 := bcell hb1; have hz1_0 : w.heap.size < w1.heap.size := (by have := hb1.size; first | omega | (simp at this; omega)))
    go_ret
    exact ⟨ret_int (by rw [wrap_pow0 (by omega)]; simp [lastCode, h]), by (repeat (first | with_reducible assumption | with_reducible exact Below.refl _ _ | with_reducible refine bel_alloc ?_ _ | with_reducible refine bel_drew ?_ | with_reducible refine bel_drewN ?_ _ | with_reducible refine bel_set ?_ (by first | omega | (simp; done) | (simp; omega)) _ | with_reducible refine bel_trans ?_ (by with_reducible assumption) | exact Below.refl _ _ | assumption | refine bel_alloc ?_ _ | refine bel_drew ?_ | refine bel_drewN ?_ _ | refine bel_set ?_ (by first | omega | (simp; done) | (simp; omega)) _ | refine bel_trans ?_ (by assumption)))⟩

theorem c_ClearCode_yes (o l m : Int) (w : World) (h : setOk o l m = true) : Calls Try.prog 45 #[.agg #[.int .i64 o, .int .i64 l, .int .i64 m]] w fun e w' => e = .returned (.int .i64 (pow2 l)) ∧ Below w.heap.size w w' := by
  have e : clearCode o l m = pow2 l := by simp [clearCode, h]
  rw [← e]; exact c_ClearCode o l m w
end Go.Proofs.Ytoiifopjipfjhaa
