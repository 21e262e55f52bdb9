/- Contracts of BitsCode, ReverseBits and the model's CodeBits, and of what they call. -/
import Derived.Test.YtgfclblooadomaaCb
import Derived.Test.YtgfclblooadomaaBn
namespace Go.Proofs.Ytgfclblooadomaa
open Go.ChangeShapes Go.WideShapes Go.ChangeAt Go.RowKit Go.Joins
set_option linter.unusedVariables false

def bitsCodeOk (o : Int) (s : ByteArray) : Bool := orderOk o && inB s.size 1 10 && bitsOk s
def bitsCodeV (o : Int) (s : ByteArray) : Nat := M.num (M.dir (o == 1) (bitsL s))
theorem par_bits {s : ByteArray} (h : bitsOk s = true) : s.data.toList.map par = bitsL s := by
  unfold bitsL
  apply List.map_congr_left
  intro c hc
  simp only [bitsOk, Bool.and_eq_true] at h
  have h1 := List.all_eq_true.1 h.2 _ hc
  simp only [isBit, Bool.or_eq_true, beq_iff_eq] at h1
  rcases h1 with rfl | rfl <;> rfl
theorem bitsOk_all {s : ByteArray} (h : bitsOk s = true) : s.data.toList.all isBit = true := by
  simp only [bitsOk, Bool.and_eq_true] at h; exact h.2
theorem numK_bits {o : Int} {s : ByteArray} {n : Nat} (h : bitsOk s = true) (hn : n = s.size) : M.numK (o == 1) n (s.data.toList.map par) = bitsCodeV o s := by
  rw [par_bits h, bitsCodeV, ← M.numK_full, bitsL_len, hn]
theorem not_zero {o : Int} (h : orderOk o = true) : (!(o == 0)) = (o == 1) := by
  rcases orderOk_iff.1 h with rfl | rfl <;> rfl

theorem c_BitsCode_no (o : Int) (s : ByteArray) (w : World) (hs : s.size ≤ maxLen) (h : bitsCodeOk o s = false) : Calls Try.prog 27 #[.int .i64 o, .string s] w fun e w' => e = .returned (.tuple #[.int .i64 0, .bool false]) ∧ Below w.heap.size w w' := by
  have hs2 := hs
  unfold maxLen at hs2
  cases h1 : orderOk o with
  | false =>
    go_enter Try.func27, Try.ntmps27
    go_wp2_with (first | (go_at_call 57; refine (c_valid _ _).mono ?_; rintro e w' ⟨rfl, rfl⟩) | (go_at_call 70; refine (c_widthValid _ _).mono ?_; rintro e w' ⟨rfl, rfl⟩) | (go_at_call 71; refine (c_BitsValid _ _ hs).mono ?_; rintro e w' ⟨rfl, rfl⟩))
    go_ret2
    exact ⟨rfl, by (repeat (first | exact Below.refl _ _ | assumption | refine bel_alloc ?_ _ | refine bel_drew ?_ | refine bel_drewN ?_ _ | refine bel_set ?_ (by first | omega | (simp; done) | (simp; omega)) _ | refine bel_trans ?_ (by assumption)))⟩
  | true =>
    cases h2 : inB s.size 1 10 with
    | false =>
      go_enter Try.func27, Try.ntmps27
      go_wp2_with (first | (go_at_call 57; refine (c_valid _ _).mono ?_; rintro e w' ⟨rfl, rfl⟩) | (go_at_call 70; refine (c_widthValid _ _).mono ?_; rintro e w' ⟨rfl, rfl⟩) | (go_at_call 71; refine (c_BitsValid _ _ hs).mono ?_; rintro e w' ⟨rfl, rfl⟩))
      go_ret2
      exact ⟨rfl, by (repeat (first | exact Below.refl _ _ | assumption | refine bel_alloc ?_ _ | refine bel_drew ?_ | refine bel_drewN ?_ _ | refine bel_set ?_ (by first | omega | (simp; done) | (simp; omega)) _ | refine bel_trans ?_ (by assumption)))⟩
    | true =>
      have h3 : bitsOk s = false := by simpa [bitsCodeOk, h1, h2] using h
      go_enter Try.func27, Try.ntmps27
      go_wp2_with (first | (go_at_call 57; refine (c_valid _ _).mono ?_; rintro e w' ⟨rfl, rfl⟩) | (go_at_call 70; refine (c_widthValid _ _).mono ?_; rintro e w' ⟨rfl, rfl⟩) | (go_at_call 71; refine (c_BitsValid _ _ hs).mono ?_; rintro e w' ⟨rfl, rfl⟩))
      go_ret2
      exact ⟨rfl, by (repeat (first | exact Below.refl _ _ | assumption | refine bel_alloc ?_ _ | refine bel_drew ?_ | refine bel_drewN ?_ _ | refine bel_set ?_ (by first | omega | (simp; done) | (simp; omega)) _ | refine bel_trans ?_ (by assumption)))⟩

theorem bitsCodeOk_iff {o : Int} {s : ByteArray} : bitsCodeOk o s = true ↔ orderOk o = true ∧ inB s.size 1 10 = true ∧ bitsOk s = true := by simp [bitsCodeOk, and_assoc]

theorem c_BitsCode_yes (o : Int) (s : ByteArray) (w : World) (hs : s.size ≤ maxLen) (h : bitsCodeOk o s = true) : Calls Try.prog 27 #[.int .i64 o, .string s] w fun e w' => e = .returned (.tuple #[.int .i64 (bitsCodeV o s), .bool true]) ∧ Below w.heap.size w w' := by
  have hs2 := hs
  unfold maxLen at hs2
  obtain ⟨h1, h2, h3⟩ := bitsCodeOk_iff.1 h
  have h4 := inB_iff.1 h2
  have HO := hid (orderOk_iff.1 h1)
  have HV := hid (numK_bits (o := o) (n := s.size) h3 rfl)
  go_enter Try.func27, Try.ntmps27
  go_wp2_with (first | (go_at_call 57; refine (c_valid _ _).mono ?_; rintro e w' ⟨rfl, rfl⟩) | (go_at_call 70; refine (c_widthValid _ _).mono ?_; rintro e w' ⟨rfl, rfl⟩) | (go_at_call 71; refine (c_BitsValid _ _ hs).mono ?_; rintro e w' ⟨rfl, rfl⟩) | (go_at_call 72; refine (c_number _ _ _ _ HO.out (by omega) (by omega) (by omega)).mono ?_; rintro e w1 ⟨rfl, hb1⟩; have hc1 := bcell hb1))
  go_ret2
  exact ⟨by rw [HV.out]; rfl, by (repeat (first | exact Below.refl _ _ | assumption | refine bel_alloc ?_ _ | refine bel_drew ?_ | refine bel_drewN ?_ _ | refine bel_set ?_ (by first | omega | (simp; done) | (simp; omega)) _ | refine bel_trans ?_ (by assumption)))⟩

theorem c_sBitsCode_no (o : Int) (s : ByteArray) (w : World) (hs : s.size ≤ maxLen) (h : bitsCodeOk o s = false) : Calls Try.prog 28 #[.int .i64 o, .string s] w fun e w' => e = .returned (.tuple #[.int .i64 0, .bool false]) ∧ Below w.heap.size w w' := by
  have hs2 := hs
  unfold maxLen at hs2
  cases h1 : orderOk o with
  | false =>
    go_enter Try.func28, Try.ntmps28
    go_wp2_with (first | (go_at_call 73; refine (c_l1Order _ _).mono ?_; rintro e w' ⟨rfl, rfl⟩) | (go_at_call 75; refine (c_l1In _ _ _ _).mono ?_; rintro e w' ⟨rfl, rfl⟩) | (go_at_call 74; refine (c_sBitsValid _ _ hs).mono ?_; rintro e w' ⟨rfl, rfl⟩))
    go_ret2
    exact ⟨rfl, by (repeat (first | exact Below.refl _ _ | assumption | refine bel_alloc ?_ _ | refine bel_drew ?_ | refine bel_drewN ?_ _ | refine bel_set ?_ (by first | omega | (simp; done) | (simp; omega)) _ | refine bel_trans ?_ (by assumption)))⟩
  | true =>
    cases h3 : bitsOk s with
    | false =>
      go_enter Try.func28, Try.ntmps28
      go_wp2_with (first | (go_at_call 73; refine (c_l1Order _ _).mono ?_; rintro e w' ⟨rfl, rfl⟩) | (go_at_call 75; refine (c_l1In _ _ _ _).mono ?_; rintro e w' ⟨rfl, rfl⟩) | (go_at_call 74; refine (c_sBitsValid _ _ hs).mono ?_; rintro e w' ⟨rfl, rfl⟩))
      go_ret2
      exact ⟨rfl, by (repeat (first | exact Below.refl _ _ | assumption | refine bel_alloc ?_ _ | refine bel_drew ?_ | refine bel_drewN ?_ _ | refine bel_set ?_ (by first | omega | (simp; done) | (simp; omega)) _ | refine bel_trans ?_ (by assumption)))⟩
    | true =>
      have h2 : inB s.size 1 10 = false := by simpa [bitsCodeOk, h1, h3] using h
      go_enter Try.func28, Try.ntmps28
      go_wp2_with (first | (go_at_call 73; refine (c_l1Order _ _).mono ?_; rintro e w' ⟨rfl, rfl⟩) | (go_at_call 75; refine (c_l1In _ _ _ _).mono ?_; rintro e w' ⟨rfl, rfl⟩) | (go_at_call 74; refine (c_sBitsValid _ _ hs).mono ?_; rintro e w' ⟨rfl, rfl⟩))
      go_ret2
      exact ⟨rfl, by (repeat (first | exact Below.refl _ _ | assumption | refine bel_alloc ?_ _ | refine bel_drew ?_ | refine bel_drewN ?_ _ | refine bel_set ?_ (by first | omega | (simp; done) | (simp; omega)) _ | refine bel_trans ?_ (by assumption)))⟩

theorem c_sBitsCode_yes (o : Int) (s : ByteArray) (w : World) (hs : s.size ≤ maxLen) (h : bitsCodeOk o s = true) : Calls Try.prog 28 #[.int .i64 o, .string s] w fun e w' => e = .returned (.tuple #[.int .i64 (bitsCodeV o s), .bool true]) ∧ Below w.heap.size w w' := by
  have hs2 := hs
  unfold maxLen at hs2
  obtain ⟨h1, h2, h3⟩ := bitsCodeOk_iff.1 h
  have h4 := inB_iff.1 h2
  have HZ := hid (not_zero h1)
  have HA := hid (bitsOk_all h3)
  go_enter Try.func28, Try.ntmps28
  go_wp2_with (first | (go_at_call 73; refine (c_l1Order _ _).mono ?_; rintro e w' ⟨rfl, rfl⟩) | (go_at_call 75; refine (c_l1In _ _ _ _).mono ?_; rintro e w' ⟨rfl, rfl⟩) | (go_at_call 74; refine (c_sBitsValid _ _ hs).mono ?_; rintro e w' ⟨rfl, rfl⟩) | (go_at_call 76; refine (c_l1Number _ _ _ (by omega) HA.out).mono ?_; rintro e w' ⟨rfl, rfl⟩))
  go_ret2
  exact ⟨by rw [HZ.out]; rfl, by (repeat (first | exact Below.refl _ _ | assumption | refine bel_alloc ?_ _ | refine bel_drew ?_ | refine bel_drewN ?_ _ | refine bel_set ?_ (by first | omega | (simp; done) | (simp; omega)) _ | refine bel_trans ?_ (by assumption)))⟩

theorem c_sCodeBits_no (o n width : Int) (w : World) (h : codeOk o n width = false) : Calls Try.prog 81 #[.int .i64 o, .int .i64 n, .int .i64 width] w fun e w' => e = .returned (.tuple #[.string ByteArray.empty, .bool false]) ∧ Below w.heap.size w w' := by
  cases h1 : orderOk o with
  | false =>
    go_enter Try.func81, Try.ntmps81
    go_wp2_with (first | (go_at_call 73; refine (c_l1Order _ _).mono ?_; rintro e w' ⟨rfl, rfl⟩) | (go_at_call 75; refine (c_l1In _ _ _ _).mono ?_; rintro e w' ⟨rfl, rfl⟩))
    go_ret2
    exact ⟨rfl, by (repeat (first | exact Below.refl _ _ | assumption | refine bel_alloc ?_ _ | refine bel_drew ?_ | refine bel_drewN ?_ _ | refine bel_set ?_ (by first | omega | (simp; done) | (simp; omega)) _ | refine bel_trans ?_ (by assumption)))⟩
  | true =>
    cases h2 : inB width 1 10 with
    | false =>
      go_enter Try.func81, Try.ntmps81
      go_wp2_with (first | (go_at_call 73; refine (c_l1Order _ _).mono ?_; rintro e w' ⟨rfl, rfl⟩) | (go_at_call 75; refine (c_l1In _ _ _ _).mono ?_; rintro e w' ⟨rfl, rfl⟩))
      go_ret2
      exact ⟨rfl, by (repeat (first | exact Below.refl _ _ | assumption | refine bel_alloc ?_ _ | refine bel_drew ?_ | refine bel_drewN ?_ _ | refine bel_set ?_ (by first | omega | (simp; done) | (simp; omega)) _ | refine bel_trans ?_ (by assumption)))⟩
    | true =>
      have h4 := inB_iff.1 h2
      by_cases h5 : n < 0
      · go_enter Try.func81, Try.ntmps81
        go_wp2_with (first | (go_at_call 73; refine (c_l1Order _ _).mono ?_; rintro e w' ⟨rfl, rfl⟩) | (go_at_call 75; refine (c_l1In _ _ _ _).mono ?_; rintro e w' ⟨rfl, rfl⟩))
        go_ret2
        exact ⟨rfl, by (repeat (first | exact Below.refl _ _ | assumption | refine bel_alloc ?_ _ | refine bel_drew ?_ | refine bel_drewN ?_ _ | refine bel_set ?_ (by first | omega | (simp; done) | (simp; omega)) _ | refine bel_trans ?_ (by assumption)))⟩
      · have h6 : pow2 width ≤ n := by
          have : ¬ n < pow2 width := by
            intro h7; rw [codeOk, h1, Bool.true_and, ← Bool.not_eq_true, codeFits_iff] at h; exact h ⟨h4, by omega, h7⟩
          omega
        go_enter Try.func81, Try.ntmps81
        go_wp2_with (first | (go_at_call 73; refine (c_l1Order _ _).mono ?_; rintro e w' ⟨rfl, rfl⟩) | (go_at_call 75; refine (c_l1In _ _ _ _).mono ?_; rintro e w' ⟨rfl, rfl⟩) | (go_at_call 94; refine (c_l1Two _ _ (by omega) (by omega)).mono ?_; rintro e w' ⟨rfl, rfl⟩))
        go_ret2
        exact ⟨rfl, by (repeat (first | exact Below.refl _ _ | assumption | refine bel_alloc ?_ _ | refine bel_drew ?_ | refine bel_drewN ?_ _ | refine bel_set ?_ (by first | omega | (simp; done) | (simp; omega)) _ | refine bel_trans ?_ (by assumption)))⟩

theorem c_sCodeBits_yes (o n width : Int) (w : World) (h : codeOk o n width = true) : Calls Try.prog 81 #[.int .i64 o, .int .i64 n, .int .i64 width] w fun e w' => e = .returned (.tuple #[.string (codeBitsS o n width), .bool true]) ∧ Below w.heap.size w w' := by
  have h1 : orderOk o = true := by simp [codeOk] at h; exact h.1
  have h2 : codeFits n width = true := by simp [codeOk] at h; exact h.2
  obtain ⟨⟨h3, h4⟩, h5, h6⟩ := codeFits_iff.1 h2
  have hw : inB width 1 10 = true := inB_iff.2 ⟨h3, h4⟩
  have hp := pow2_bd (n := width) (by omega)
  have HO := hid (orderOk_iff.1 h1)
  go_enter Try.func81, Try.ntmps81
  go_wp2_with (first | (go_at_call 73; refine (c_l1Order _ _).mono ?_; rintro e w' ⟨rfl, rfl⟩) | (go_at_call 75; refine (c_l1In _ _ _ _).mono ?_; rintro e w' ⟨rfl, rfl⟩) | (go_at_call 94; refine (c_l1Two _ _ (by omega) (by omega)).mono ?_; rintro e w' ⟨rfl, rfl⟩) | (go_at_call 89; refine (c_l1Code _ _ _ _ HO.out (by omega) (by omega) (by omega) (by omega)).mono ?_; rintro e w1 ⟨rfl, hb1⟩; have hc1 := bcell hb1))
  go_ret2
  exact ⟨rfl, by (repeat (first | exact Below.refl _ _ | assumption | refine bel_alloc ?_ _ | refine bel_drew ?_ | refine bel_drewN ?_ _ | refine bel_set ?_ (by first | omega | (simp; done) | (simp; omega)) _ | refine bel_trans ?_ (by assumption)))⟩

def revV (n width : Int) : Nat := M.num (M.dir true (M.bitsOf width.toNat n.toNat))
theorem all_le (k : Nat) (K : Int) (hK : K < k) {Q : Int → Prop} (h : ∀ m : Fin k, Q ((m.val : Nat) : Int)) : ∀ n : Int, 0 ≤ n → n ≤ K → Q n := by
  intro n h0 h1
  have := h ⟨n.toNat, by omega⟩
  rwa [show ((n.toNat : Nat) : Int) = n from by omega] at this

theorem len_at (x k : Int) (w : World) (h0 : 0 ≤ x) (h1 : x ≤ 100) (hk : (Lib.bitLen x.toNat : Int) = k) : Calls Try.prog 58 #[.int .u64 x] w (Same (.int .i64 k) w) :=
  (Try.bits_Len x w h0 (by omega)).mono fun _ _ ⟨he, hw⟩ => ⟨by rw [he, hk], hw.symm⟩

theorem c_reverse10 (n : Int) (w : World) (h0 : 0 ≤ n) (h1 : n ≤ 1023) : Calls Try.prog 80 #[.int .i64 n, .int .i64 10] w (Same (.int .i64 (revV n 10)) w) := by
  obtain ⟨r, hr⟩ : ∃ r : Int, r = revV n 10 := ⟨_, rfl⟩
  rw [← hr]
  have HR := hid hr
  clear hr
  go_enter Try.func80, Try.ntmps80
  go_wp2_with (go_at_call 58; refine (len_at 9 4 _ (by decide) (by decide) (by decide)).mono ?_; rintro e w' ⟨rfl, rfl⟩)
  go_ret
  refine ⟨ret_int ?_, rfl⟩
  rw [HR.out]
  clear HR
  revert n
  refine all_le 1024 1023 (by decide) ?_
  decide +kernel

theorem c_reverse9 (n : Int) (w : World) (h0 : 0 ≤ n) (h1 : n ≤ 511) : Calls Try.prog 80 #[.int .i64 n, .int .i64 9] w (Same (.int .i64 (revV n 9)) w) := by
  obtain ⟨r, hr⟩ : ∃ r : Int, r = revV n 9 := ⟨_, rfl⟩
  rw [← hr]
  have HR := hid hr
  clear hr
  go_enter Try.func80, Try.ntmps80
  go_wp2_with (go_at_call 58; refine (len_at 8 4 _ (by decide) (by decide) (by decide)).mono ?_; rintro e w' ⟨rfl, rfl⟩)
  go_ret
  refine ⟨ret_int ?_, rfl⟩
  rw [HR.out]
  clear HR
  revert n
  refine all_le 512 511 (by decide) ?_
  decide +kernel

theorem c_reverse8 (n : Int) (w : World) (h0 : 0 ≤ n) (h1 : n ≤ 255) : Calls Try.prog 80 #[.int .i64 n, .int .i64 8] w (Same (.int .i64 (revV n 8)) w) := by
  obtain ⟨r, hr⟩ : ∃ r : Int, r = revV n 8 := ⟨_, rfl⟩
  rw [← hr]
  have HR := hid hr
  clear hr
  go_enter Try.func80, Try.ntmps80
  go_wp2_with (go_at_call 58; refine (len_at 7 3 _ (by decide) (by decide) (by decide)).mono ?_; rintro e w' ⟨rfl, rfl⟩)
  go_ret
  refine ⟨ret_int ?_, rfl⟩
  rw [HR.out]
  clear HR
  revert n
  refine all_le 256 255 (by decide) ?_
  decide +kernel

theorem c_reverse7 (n : Int) (w : World) (h0 : 0 ≤ n) (h1 : n ≤ 127) : Calls Try.prog 80 #[.int .i64 n, .int .i64 7] w (Same (.int .i64 (revV n 7)) w) := by
  obtain ⟨r, hr⟩ : ∃ r : Int, r = revV n 7 := ⟨_, rfl⟩
  rw [← hr]
  have HR := hid hr
  clear hr
  go_enter Try.func80, Try.ntmps80
  go_wp2_with (go_at_call 58; refine (len_at 6 3 _ (by decide) (by decide) (by decide)).mono ?_; rintro e w' ⟨rfl, rfl⟩)
  go_ret
  refine ⟨ret_int ?_, rfl⟩
  rw [HR.out]
  clear HR
  revert n
  refine all_le 128 127 (by decide) ?_
  decide +kernel

theorem c_reverse6 (n : Int) (w : World) (h0 : 0 ≤ n) (h1 : n ≤ 63) : Calls Try.prog 80 #[.int .i64 n, .int .i64 6] w (Same (.int .i64 (revV n 6)) w) := by
  obtain ⟨r, hr⟩ : ∃ r : Int, r = revV n 6 := ⟨_, rfl⟩
  rw [← hr]
  have HR := hid hr
  clear hr
  go_enter Try.func80, Try.ntmps80
  go_wp2_with (go_at_call 58; refine (len_at 5 3 _ (by decide) (by decide) (by decide)).mono ?_; rintro e w' ⟨rfl, rfl⟩)
  go_ret
  refine ⟨ret_int ?_, rfl⟩
  rw [HR.out]
  clear HR
  revert n
  refine all_le 64 63 (by decide) ?_
  decide +kernel

theorem c_reverse5 (n : Int) (w : World) (h0 : 0 ≤ n) (h1 : n ≤ 31) : Calls Try.prog 80 #[.int .i64 n, .int .i64 5] w (Same (.int .i64 (revV n 5)) w) := by
  obtain ⟨r, hr⟩ : ∃ r : Int, r = revV n 5 := ⟨_, rfl⟩
  rw [← hr]
  have HR := hid hr
  clear hr
  go_enter Try.func80, Try.ntmps80
  go_wp2_with (go_at_call 58; refine (len_at 4 3 _ (by decide) (by decide) (by decide)).mono ?_; rintro e w' ⟨rfl, rfl⟩)
  go_ret
  refine ⟨ret_int ?_, rfl⟩
  rw [HR.out]
  clear HR
  revert n
  refine all_le 32 31 (by decide) ?_
  decide +kernel

theorem c_reverse4 (n : Int) (w : World) (h0 : 0 ≤ n) (h1 : n ≤ 15) : Calls Try.prog 80 #[.int .i64 n, .int .i64 4] w (Same (.int .i64 (revV n 4)) w) := by
  obtain ⟨r, hr⟩ : ∃ r : Int, r = revV n 4 := ⟨_, rfl⟩
  rw [← hr]
  have HR := hid hr
  clear hr
  go_enter Try.func80, Try.ntmps80
  go_wp2_with (go_at_call 58; refine (len_at 3 2 _ (by decide) (by decide) (by decide)).mono ?_; rintro e w' ⟨rfl, rfl⟩)
  go_ret
  refine ⟨ret_int ?_, rfl⟩
  rw [HR.out]
  clear HR
  revert n
  refine all_le 16 15 (by decide) ?_
  decide +kernel

theorem c_reverse3 (n : Int) (w : World) (h0 : 0 ≤ n) (h1 : n ≤ 7) : Calls Try.prog 80 #[.int .i64 n, .int .i64 3] w (Same (.int .i64 (revV n 3)) w) := by
  obtain ⟨r, hr⟩ : ∃ r : Int, r = revV n 3 := ⟨_, rfl⟩
  rw [← hr]
  have HR := hid hr
  clear hr
  go_enter Try.func80, Try.ntmps80
  go_wp2_with (go_at_call 58; refine (len_at 2 2 _ (by decide) (by decide) (by decide)).mono ?_; rintro e w' ⟨rfl, rfl⟩)
  go_ret
  refine ⟨ret_int ?_, rfl⟩
  rw [HR.out]
  clear HR
  revert n
  refine all_le 8 7 (by decide) ?_
  decide +kernel

theorem c_reverse2 (n : Int) (w : World) (h0 : 0 ≤ n) (h1 : n ≤ 3) : Calls Try.prog 80 #[.int .i64 n, .int .i64 2] w (Same (.int .i64 (revV n 2)) w) := by
  obtain ⟨r, hr⟩ : ∃ r : Int, r = revV n 2 := ⟨_, rfl⟩
  rw [← hr]
  have HR := hid hr
  clear hr
  go_enter Try.func80, Try.ntmps80
  go_wp2_with (go_at_call 58; refine (len_at 1 1 _ (by decide) (by decide) (by decide)).mono ?_; rintro e w' ⟨rfl, rfl⟩)
  go_ret
  refine ⟨ret_int ?_, rfl⟩
  rw [HR.out]
  clear HR
  revert n
  refine all_le 4 3 (by decide) ?_
  decide +kernel

theorem c_reverse1 (n : Int) (w : World) (h0 : 0 ≤ n) (h1 : n ≤ 1) : Calls Try.prog 80 #[.int .i64 n, .int .i64 1] w (Same (.int .i64 (revV n 1)) w) := by
  obtain ⟨r, hr⟩ : ∃ r : Int, r = revV n 1 := ⟨_, rfl⟩
  rw [← hr]
  have HR := hid hr
  clear hr
  go_enter Try.func80, Try.ntmps80
  go_wp2_with (go_at_call 58; refine (len_at 0 0 _ (by decide) (by decide) (by decide)).mono ?_; rintro e w' ⟨rfl, rfl⟩)
  go_ret
  refine ⟨ret_int ?_, rfl⟩
  rw [HR.out]
  clear HR
  revert n
  refine all_le 2 1 (by decide) ?_
  decide +kernel

theorem c_reverse (n width : Int) (w : World) (h : codeFits n width = true) : Calls Try.prog 80 #[.int .i64 n, .int .i64 width] w (Same (.int .i64 (revV n width)) w) := by
  obtain ⟨⟨h3, h4⟩, h5, h6⟩ := codeFits_iff.1 h
  rcases (show width = 10 ∨ width = 9 ∨ width = 8 ∨ width = 7 ∨ width = 6 ∨ width = 5 ∨ width = 4 ∨ width = 3 ∨ width = 2 ∨ width = 1 from by omega) with e | e | e | e | e | e | e | e | e | e
  · subst e; exact c_reverse10 n w h5 (by have : pow2 10 = 1024 := (by decide); omega)
  · subst e; exact c_reverse9 n w h5 (by have : pow2 9 = 512 := (by decide); omega)
  · subst e; exact c_reverse8 n w h5 (by have : pow2 8 = 256 := (by decide); omega)
  · subst e; exact c_reverse7 n w h5 (by have : pow2 7 = 128 := (by decide); omega)
  · subst e; exact c_reverse6 n w h5 (by have : pow2 6 = 64 := (by decide); omega)
  · subst e; exact c_reverse5 n w h5 (by have : pow2 5 = 32 := (by decide); omega)
  · subst e; exact c_reverse4 n w h5 (by have : pow2 4 = 16 := (by decide); omega)
  · subst e; exact c_reverse3 n w h5 (by have : pow2 3 = 8 := (by decide); omega)
  · subst e; exact c_reverse2 n w h5 (by have : pow2 2 = 4 := (by decide); omega)
  · subst e; exact c_reverse1 n w h5 (by have : pow2 1 = 2 := (by decide); omega)
end Go.Proofs.Ytgfclblooadomaa
