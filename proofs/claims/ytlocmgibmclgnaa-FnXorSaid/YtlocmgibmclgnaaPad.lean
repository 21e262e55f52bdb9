/- Contracts of PadBits in both programs. -/
import Derived.Test.YtlocmgibmclgnaaTurn
namespace Go.Proofs.Ytlocmgibmclgnaa
open Go.ChangeShapes Go.WideShapes Go.ChangeAt Go.RowKit Go.Joins
set_option linter.unusedVariables false

theorem and_seven (n : Nat) (h : n ≤ 100000) : bits .and .i64 (-(n : Int)) 7 = ((M.padN n : Nat) : Int) := by
  have e1 : (BitVec.ofInt 64 (-(n : Int))).toNat = (18446744073709551616 - n) % 18446744073709551616 := by
    rw [BitVec.toNat_ofInt]; omega
  have e2 : (BitVec.ofInt 64 7).toNat = 2 ^ 3 - 1 := by decide
  have e : bits .and .i64 (-(n : Int)) 7 = IntKind.i64.wrap (((BitVec.ofInt 64 (-(n : Int)) &&& BitVec.ofInt 64 7).toNat : Nat) : Int) := rfl
  rw [e, BitVec.toNat_and, e1, e2, Nat.and_two_pow_sub_one_eq_mod, IntWalk.i64_in _ (by omega)]
  unfold M.padN; omega

theorem repeatL_one (c : UInt8) (n : Nat) : Lib.repeatL [c] n = List.replicate n c := by
  induction n with
  | zero => rfl
  | succ n ih => rw [Lib.repeatL, ih]; rfl

theorem c_PadBits_no (s : ByteArray) (w : World) (hs : s.size ≤ maxLen) (h : bitsOk s = false) : Calls Try.prog 44 #[.string s] w fun e w' => e = .returned (.tuple #[.string ByteArray.empty, .bool false]) ∧ Below w.heap.size w w' := by
  go_enter Try.func44, Try.ntmps44
  go_wp2_with (go_at_call 35; refine (c_BitsValid _ _ hs).mono ?_; rintro e w' ⟨rfl, rfl⟩)
  go_ret2
  exact ⟨rfl, by (repeat (first | with_reducible (first | assumption | exact Below.refl _ _ | refine bel_alloc ?_ _ | refine bel_drew ?_ | refine bel_drewN ?_ _ | refine bel_set ?_ (by first | omega | (simp; done) | (simp; omega)) _ | refine bel_trans ?_ (by assumption)) | assumption | refine bel_trans ?_ (by assumption)))⟩

theorem c_PadBits_yes (s : ByteArray) (w : World) (hs : s.size ≤ maxLen) (h : bitsOk s = true) : Calls Try.prog 44 #[.string s] w fun e w' => e = .returned (.tuple #[.string (padL s), .bool true]) ∧ Below w.heap.size w w' := by
  have hz := bitsOk_size h
  have hp : M.padN s.size ≤ 7 := by unfold M.padN; omega
  obtain ⟨p, hpe⟩ : ∃ p, p = M.padN s.size := ⟨_, rfl⟩
  have ea := and_seven s.size (by omega)
  rw [← hpe] at ea
  obtain ⟨Z, hZ⟩ : ∃ Z, Z = str (List.replicate p 48) := ⟨_, rfl⟩
  have hZs : Z.size ≤ 7 := by rw [hZ, str_size]; simp; omega
  have HC := hid (show ∀ w, Calls Try.prog 98 #[.string ⟨#[48]⟩, .int .i64 (p : Int)] w fun e w' => e = .returned (.string Z) ∧ Below w.heap.size w w' by
    intro w; rw [hZ, ← repeatL_one]; exact Try.strings_Repeat (str [48]) p w (by omega) (by rw [str_size]; simp; omega))
  have HZ := hid (show s ++ Z = padL s by rw [hZ, padL, hpe, ← str_append, str_self])
  clear hZ hpe
  go_enter Try.func44, Try.ntmps44
  go_wp2_with (first | (go_at_call 35; refine (c_BitsValid _ _ hs).mono ?_; rintro e w' ⟨rfl, rfl⟩) | (go_at_call 98; refine (HC.out _).mono ?_; rintro e w1 ⟨rfl, hb1⟩; have hc1 := bcell hb1))
  go_ret2
  exact ⟨by rw [← HZ.out]; rfl, by (repeat (first | with_reducible (first | assumption | exact Below.refl _ _ | refine bel_alloc ?_ _ | refine bel_drew ?_ | refine bel_drewN ?_ _ | refine bel_set ?_ (by first | omega | (simp; done) | (simp; omega)) _ | refine bel_trans ?_ (by assumption)) | assumption | refine bel_trans ?_ (by assumption)))⟩

theorem c_sPadBits_no (s : ByteArray) (w : World) (hs : s.size ≤ maxLen) (h : bitsOk s = false) : Calls Try.prog 45 #[.string s] w fun e w' => e = .returned (.tuple #[.string ByteArray.empty, .bool false]) ∧ Below w.heap.size w w' := by
  go_enter Try.func45, Try.ntmps45
  go_wp2_with (go_at_call 99; refine (c_sBitsValid _ _ hs).mono ?_; rintro e w' ⟨rfl, rfl⟩)
  go_ret2
  exact ⟨rfl, by (repeat (first | with_reducible (first | assumption | exact Below.refl _ _ | refine bel_alloc ?_ _ | refine bel_drew ?_ | refine bel_drewN ?_ _ | refine bel_set ?_ (by first | omega | (simp; done) | (simp; omega)) _ | refine bel_trans ?_ (by assumption)) | assumption | refine bel_trans ?_ (by assumption)))⟩

theorem c_sPadBits_yes (s : ByteArray) (w : World) (hs : s.size ≤ maxLen) (h : bitsOk s = true) : Calls Try.prog 45 #[.string s] w fun e w' => e = .returned (.tuple #[.string (padL s), .bool true]) ∧ Below w.heap.size w w' := by
  have hz := bitsOk_size h
  go_enter Try.func45, Try.ntmps45
  go_wp2_with (first | (go_at_call 99; refine (c_sBitsValid _ _ hs).mono ?_; rintro e w' ⟨rfl, rfl⟩) | (go_at_call 100; refine (c_l1Pad _ _ (by omega)).mono ?_; rintro e w' ⟨rfl, rfl⟩))
  go_ret2
  exact ⟨rfl, by (repeat (first | with_reducible (first | assumption | exact Below.refl _ _ | refine bel_alloc ?_ _ | refine bel_drew ?_ | refine bel_drewN ?_ _ | refine bel_set ?_ (by first | omega | (simp; done) | (simp; omega)) _ | refine bel_trans ?_ (by assumption)) | assumption | refine bel_trans ?_ (by assumption)))⟩
end Go.Proofs.Ytlocmgibmclgnaa
