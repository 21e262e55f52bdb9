/- Contracts of CodeBits, BitsCode and ReverseBits in both programs, and of what they call. -/
import Derived.Test.YtgfclblooadomaaApp
namespace Go.Proofs.Ytgfclblooadomaa
open Go.ChangeShapes Go.WideShapes Go.ChangeAt Go.RowKit Go.Joins
set_option linter.unusedVariables false

theorem c_widthValid (n : Int) (w : World) : Calls Try.prog 70 #[.int .i64 n] w (Same (.bool (inB n 1 10)) w) := by
  go_enter Try.func70, Try.ntmps70
  go_wp2
  all_goals
    go_ret
    exact ⟨ret_bool (by rw [Bool.eq_iff_iff]; simp [inB]; omega), rfl⟩

def codeFits (code width : Int) : Bool := inB width 1 10 && decide (0 ≤ code) && decide (code < pow2 width)

theorem div_zero {c : Int} {k : Nat} (h : 0 ≤ c) : (c / 2 ^ k == 0) = decide (c < 2 ^ k) := by
  rw [Bool.eq_iff_iff]
  simp only [beq_iff_eq, decide_eq_true_eq]
  have hp : (0 : Int) < 2 ^ k := by exact_mod_cast Nat.pow_pos (n := k) (by omega : 0 < 2)
  constructor
  · intro h1
    have := Int.lt_mul_ediv_self_add hp (x := c)
    rw [h1] at this; omega
  · intro h1; exact Int.ediv_eq_zero_of_lt h h1

theorem c_codeFits (code width : Int) (w : World) (hc : -9223372036854775808 ≤ code ∧ code ≤ 9223372036854775807) : Calls Try.prog 77 #[.int .i64 code, .int .i64 width] w (Same (.bool (codeFits code width)) w) := by
  cases h : inB width 1 10 with
  | false =>
    go_enter Try.func77, Try.ntmps77
    go_wp2_with (go_at_call 70; refine (c_widthValid _ _).mono ?_; rintro e w' ⟨rfl, rfl⟩)
    go_ret
    exact ⟨ret_bool (by simp [codeFits, h]), rfl⟩
  | true =>
    have hw := inB_iff.1 h
    by_cases h0 : 0 ≤ code
    · go_enter Try.func77, Try.ntmps77
      go_wp2_with (go_at_call 70; refine (c_widthValid _ _).mono ?_; rintro e w' ⟨rfl, rfl⟩)
      go_ret
      exact ⟨ret_bool (by rw [div_zero h0]; simp only [codeFits, h, h0, pow2, decide_true, Bool.true_and]; congr), rfl⟩
    · go_enter Try.func77, Try.ntmps77
      go_wp2_with (go_at_call 70; refine (c_widthValid _ _).mono ?_; rintro e w' ⟨rfl, rfl⟩)
      go_ret
      exact ⟨ret_bool (by simp [codeFits, h]; omega), rfl⟩

def par (c : UInt8) : Bool := c.toNat % 2 == 1
theorem quiet_same {P : Program} {f : FuncId} {args : Array Value} {w : World} {n : Nat} {v : Value} (h : Calls P f args (w.drewN n) (Same v (w.drewN n))) : Calls P f args (w.drewN n) fun e w'' => e = .returned v ∧ ∃ m, w'' = w.drewN m :=
  h.mono fun _ _ ⟨he, hm⟩ => ⟨he, n, hm.symm⟩

theorem or_i64 (a b : Nat) (ha : a < 2 ^ 63) (hb : b < 2 ^ 63) : bits .or .i64 (a : Int) (b : Int) = ((a ||| b : Nat) : Int) :=
  (bits_nat .i64 63 (by decide) (fun n h0 h1 => IntWalk.i64_in n (by omega)) a b ha hb).2
theorem number_step (o width : Int) (ho : o = 0 ∨ o = 1) (k d : Nat) (bs : List Bool) (b : Bool) (hbs : bs.length = k) (hk : (k : Int) < width) (hw : width ≤ 16) (hd : d = b.toNat) :
    bits .or .i64 ((M.numK (o == 1) width.toNat bs : Nat) : Int) (wrap64 ((d : Int) * 2 ^ (place o k width).toNat)) = ((M.numK (o == 1) width.toNat (bs ++ [b]) : Nat) : Int) := by
  have h1 := M.numK_lt (o == 1) width.toNat bs (by omega)
  have h16 : (2 : Nat) ^ width.toNat ≤ 2 ^ 16 := Nat.pow_le_pow_right (by omega) (by omega)
  have hp : (place o k width).toNat ≤ 16 := by unfold place; split <;> omega
  have hpp : (2 : Nat) ^ (place o k width).toNat ≤ 2 ^ 16 := Nat.pow_le_pow_right (by omega) hp
  have hd1 : d ≤ 1 := by subst hd; cases b <;> simp
  have hm : d * 2 ^ (place o k width).toNat ≤ 2 ^ 16 := by
    rcases (show d = 0 ∨ d = 1 from by omega) with h | h <;> rw [h] <;> omega
  have e : (d : Int) * 2 ^ (place o k width).toNat = ((d * 2 ^ (place o k width).toNat : Nat) : Int) := by simp
  rw [e, IntWalk.wrap64_in _ (by omega), or_i64 _ _ (by omega) (by omega)]
  congr 1
  rcases ho with rfl | rfl
  · have : (place 0 k width).toNat = bs.length := by simp [place, hbs]
    rw [this, hd]; exact (M.numK_snoc_low _ _ _).symm
  · have : (place 1 k width).toNat = width.toNat - 1 - bs.length := by simp [place, hbs]; try omega
    rw [this, hd]; exact (M.numK_snoc_high _ _ _ (by omega)).symm
theorem par_toNat (c : UInt8) : c.toNat % 2 = (par c).toNat := by
  unfold par; rcases (show c.toNat % 2 = 0 ∨ c.toNat % 2 = 1 from by omega) with h | h <;> rw [h] <;> rfl

theorem c_number (o width : Int) (s : ByteArray) (w : World) (ho : o = 0 ∨ o = 1) (h0 : 0 ≤ width) (h1 : width ≤ 16) (hs : s.size ≤ width.toNat) : Calls Try.prog 72 #[.int .i64 o, .string s, .int .i64 width] w fun e w' => e = .returned (.int .i64 (M.numK (o == 1) width.toNat (s.data.toList.map par) : Nat)) ∧ Below w.heap.size w w' := by
  go_enter Try.func72, Try.ntmps72
  go_wp2_with fail
  go_loopw [7, 11] (fun n i wr => ∃ k : Nat, k ≤ s.size ∧ i = .int .i64 k ∧ n = .int .i64 (M.numK (o == 1) width.toNat ((s.data.toList.take k).map par) : Nat) ∧ Below w.heap.size w wr) (fun _ i _ => s.size - (intOf i).toNat)
  case atStart => exact ⟨0, by omega, rfl, by cases (o == 1) <;> simp [M.numK, M.num], by (repeat (first | exact Below.refl _ _ | assumption | refine bel_alloc ?_ _ | refine bel_drew ?_ | refine bel_drewN ?_ _ | refine bel_set ?_ (by first | omega | (simp; done) | (simp; omega)) _ | refine bel_trans ?_ (by assumption)))⟩
  case round =>
    obtain ⟨k, hk, rfl, rfl, hbl⟩ := hrel
    have hN := M.numK_lt (o == 1) width.toNat ((s.data.toList.take k).map par) (by simp; omega)
    by_cases hlt : k < s.size
    · have hb8 := byte_le s k hlt
      have hp : 0 ≤ place o k width ∧ place o k width ≤ 63 := by unfold place; split <;> omega
      obtain ⟨d, hd, hd1⟩ : ∃ d : Nat, d = (s[k]).toNat % 2 ∧ d ≤ 1 := ⟨_, rfl, by omega⟩
      have eb : bits .and .u8 ((s[k]).toNat : Int) 1 = (d : Int) := by
        rw [show (1 : Int) = ((1 : Nat) : Int) from rfl, u8_and_nat _ _ (by omega) (by omega), Nat.and_one_is_mod, hd]
      have HD := hid hd
      clear hd
      have ew := IntWalk.i64_in (d : Int) (by omega)
      have HS := hid (number_step o width ho k d ((s.data.toList.take k).map par) (par s[k]) (by simp; omega) (by omega) h1 (by rw [HD.out, par_toNat]))
      have HT := hid (show (s.data.toList.take (k + 1)).map par = (s.data.toList.take k).map par ++ [par s[k]] by rw [take_snoc s k hlt]; simp)
      generalize M.numK (o == 1) width.toNat ((s.data.toList.take k).map par) = N at hN HS ⊢
      go_wp2_with fail
      go_quiet ((go_at_call 97; exact quiet_same (c_place _ _ _ _ (by omega) (by omega) (by omega))))
      go_wp2
      go_roundw
      case rel => exact ⟨k + 1, by omega, by go_num, by rw [HS.out, HT.out], by (repeat (first | exact Below.refl _ _ | assumption | refine bel_alloc ?_ _ | refine bel_drew ?_ | refine bel_drewN ?_ _ | refine bel_set ?_ (by first | omega | (simp; done) | (simp; omega)) _ | refine bel_trans ?_ (by assumption)))⟩
      case measure => simp [intOf]; omega
    · go_wp2
      go_ret
      exact ⟨ret_int (by rw [List.take_of_length_le (by simp; omega)]), by (repeat (first | exact Below.refl _ _ | assumption | refine bel_alloc ?_ _ | refine bel_drew ?_ | refine bel_drewN ?_ _ | refine bel_set ?_ (by first | omega | (simp; done) | (simp; omega)) _ | refine bel_trans ?_ (by assumption)))⟩

theorem dl_codeBits (o n width : Int) (ho : o = 0 ∨ o = 1) (hn : 0 ≤ n) : dl o n width width.toNat = M.codeBits (o == 1) n.toNat width.toNat := by
  obtain ⟨m, rfl⟩ := Int.eq_ofNat_of_zero_le hn
  have hd : ∀ p : Int, (dgI m p == 1) = m.testBit p.toNat := by
    intro p
    rw [Nat.testBit_eq_decide_div_mod_eq]
    have e : dgI m p = ((m / 2 ^ p.toNat % 2 : Nat) : Int) := by simp [dgI]
    rw [e, Bool.eq_iff_iff, beq_iff_eq, decide_eq_true_iff]; omega
  rw [Int.toNat_natCast]
  rcases ho with rfl | rfl
  · simp only [dl, M.codeBits, M.asc, M.dir, M.bitsOf_map]
    simp only [show ((0 : Int) == 1) = false from rfl, Bool.false_eq_true, if_false, List.map_map]
    apply List.map_congr_left
    intro i hi
    simp [hd, place]
  · simp only [dl, M.codeBits, M.asc, M.dir, show ((1 : Int) == 1) = true from rfl, if_true, M.bitsOf_rev, List.map_map]
    apply List.map_congr_left
    intro i hi
    have : i < width.toNat := by simpa using hi
    simp only [hd, place, if_true, Function.comp]
    congr 2; omega

def codeBitsS (o n width : Int) : ByteArray := str (M.codeBits (o == 1) n.toNat width.toNat)
def codeOk (o n width : Int) : Bool := orderOk o && codeFits n width
theorem codeFits_iff {n width : Int} : codeFits n width = true ↔ (1 ≤ width ∧ width ≤ 10) ∧ 0 ≤ n ∧ n < pow2 width := by simp [codeFits, inB, and_assoc]
theorem orderOk_iff {o : Int} : orderOk o = true ↔ o = 0 ∨ o = 1 := by simp [orderOk]

theorem c_CodeBits_no (o n width : Int) (w : World) (hn : -9223372036854775808 ≤ n ∧ n ≤ 9223372036854775807) (h : codeOk o n width = false) : Calls Try.prog 29 #[.int .i64 o, .int .i64 n, .int .i64 width] w fun e w' => e = .returned (.tuple #[.string ByteArray.empty, .bool false]) ∧ Below w.heap.size w w' := by
  cases h1 : orderOk o with
  | false =>
    go_enter Try.func29, Try.ntmps29
    go_wp2_with (first | (go_at_call 57; refine (c_valid _ _).mono ?_; rintro e w' ⟨rfl, rfl⟩) | (go_at_call 77; refine (c_codeFits _ _ _ hn).mono ?_; rintro e w' ⟨rfl, rfl⟩))
    go_ret2
    exact ⟨rfl, by (repeat (first | exact Below.refl _ _ | assumption | refine bel_alloc ?_ _ | refine bel_drew ?_ | refine bel_drewN ?_ _ | refine bel_set ?_ (by first | omega | (simp; done) | (simp; omega)) _ | refine bel_trans ?_ (by assumption)))⟩
  | true =>
    have h2 : codeFits n width = false := by simpa [codeOk, h1] using h
    go_enter Try.func29, Try.ntmps29
    go_wp2_with (first | (go_at_call 57; refine (c_valid _ _).mono ?_; rintro e w' ⟨rfl, rfl⟩) | (go_at_call 77; refine (c_codeFits _ _ _ hn).mono ?_; rintro e w' ⟨rfl, rfl⟩))
    go_ret2
    exact ⟨rfl, by (repeat (first | exact Below.refl _ _ | assumption | refine bel_alloc ?_ _ | refine bel_drew ?_ | refine bel_drewN ?_ _ | refine bel_set ?_ (by first | omega | (simp; done) | (simp; omega)) _ | refine bel_trans ?_ (by assumption)))⟩

theorem c_CodeBits_yes (o n width : Int) (w : World) (hn : -9223372036854775808 ≤ n ∧ n ≤ 9223372036854775807) (h : codeOk o n width = true) : Calls Try.prog 29 #[.int .i64 o, .int .i64 n, .int .i64 width] w fun e w' => e = .returned (.tuple #[.string (codeBitsS o n width), .bool true]) ∧ Below w.heap.size w w' := by
  have h1 : orderOk o = true := by simp [codeOk] at h; exact h.1
  have h2 : codeFits n width = true := by simp [codeOk] at h; exact h.2
  obtain ⟨⟨h3, h4⟩, h5, h6⟩ := codeFits_iff.1 h2
  have HD := hid (dl_codeBits o n width (orderOk_iff.1 h1) h5)
  go_enter Try.func29, Try.ntmps29
  go_wp2_with (first | (go_at_call 57; refine (c_valid _ _).mono ?_; rintro e w' ⟨rfl, rfl⟩) | (go_at_call 77; refine (c_codeFits _ _ _ hn).mono ?_; rintro e w' ⟨rfl, rfl⟩) | (go_at_call 78; refine (c_appendNumber o n width w.heap.size (.slice none 0 0) 0 [] _ h5 hn.2 (by omega) (by omega) (by omega) (Nat.le_refl _) (own_nil _ _ _)).mono ?_; rintro e w1 ⟨v1, rfl, hown, hb1⟩; have hcv := run_str Try.underlying22 Try.underlying5 Try.underlying9 hown))
  go_ret2
  exact ⟨by rw [HD.out]; rfl, by (repeat (first | exact Below.refl _ _ | assumption | refine bel_alloc ?_ _ | refine bel_drew ?_ | refine bel_drewN ?_ _ | refine bel_set ?_ (by first | omega | (simp; done) | (simp; omega)) _ | refine bel_trans ?_ (by assumption)))⟩

theorem codeBits_len (h : Bool) (n k : Nat) : (M.codeBits h n k).length = k := by simp [M.codeBits, M.asc, M.dir_length, M.bitsOf_length]
theorem codeBits_succ (o n : Int) (k : Nat) (ho : o = 0 ∨ o = 1) (hn : 0 ≤ n) : M.codeBits (o == 1) n.toNat (k + 1) = if o = 0 then M.codeBits (o == 1) n.toNat k ++ [M.chr (n / 2 ^ k % 2 == 1)] else [M.chr (n / 2 ^ k % 2 == 1)] ++ M.codeBits (o == 1) n.toNat k := by
  obtain ⟨m, rfl⟩ := Int.eq_ofNat_of_zero_le hn
  have hd : ((m : Int) / 2 ^ k % 2 == 1) = m.testBit k := by
    rw [Nat.testBit_eq_decide_div_mod_eq]
    have e : (m : Int) / 2 ^ k % 2 = ((m / 2 ^ k % 2 : Nat) : Int) := by simp
    rw [e, Bool.eq_iff_iff, beq_iff_eq, decide_eq_true_iff]; omega
  rw [Int.toNat_natCast, hd]
  rcases ho with rfl | rfl
  · simp [M.codeBits, M.dir, M.bitsOf_snoc, M.asc]
  · simp [M.codeBits, M.dir, M.bitsOf_snoc, M.asc]

theorem c_l1Code (o n width : Int) (w : World) (ho : o = 0 ∨ o = 1) (hn : 0 ≤ n) (hn2 : n ≤ 9223372036854775807) (h0 : 0 ≤ width) (h1 : width ≤ 16) : Calls Try.prog 89 #[.int .i64 o, .int .i64 n, .int .i64 width] w fun e w' => e = .returned (.string (codeBitsS o n width)) ∧ Below w.heap.size w w' := by
  go_enter Try.func89, Try.ntmps89
  go_wp2_with fail
  go_loopw [7, 8] (fun t i wr => ∃ k : Nat, k ≤ width ∧ i = .int .i64 k ∧ t = .string (str (M.codeBits (o == 1) n.toNat k)) ∧ Below w.heap.size w wr) (fun _ i _ => (width - intOf i).toNat)
  case atStart => exact ⟨0, by omega, rfl, by cases (o == 1) <;> rfl, by (repeat (first | exact Below.refl _ _ | assumption | refine bel_alloc ?_ _ | refine bel_drew ?_ | refine bel_drewN ?_ _ | refine bel_set ?_ (by first | omega | (simp; done) | (simp; omega)) _ | refine bel_trans ?_ (by assumption)))⟩
  case round =>
    obtain ⟨k, hk, rfl, ht, hbl⟩ := hrel
    obtain ⟨T, hT⟩ : ∃ T, T = str (M.codeBits (o == 1) n.toNat k) := ⟨_, rfl⟩
    rw [← hT] at ht
    subst ht
    have hTs : T.size ≤ 16 := by rw [hT, str_size, codeBits_len]; omega
    have HT := hid hT
    clear hT
    by_cases hlt : k < width
    · have hd := div_pow_bd k hn hn2
      have eb := and_one hd.1 hd.2
      have hch := chr_dg n k
      rw [dgI, Int.toNat_natCast] at hch
      have hcv := run_one (P := Try.prog) (w := wr) Try.underlying22 Try.underlying5 Try.underlying9 hch
      have HN := hid (codeBits_succ o n k ho hn)
      clear hch
      obtain ⟨C, hC⟩ : ∃ C, C = str [M.chr (n / 2 ^ k % 2 == 1)] := ⟨_, rfl⟩
      rw [← hC] at hcv
      have hCs : C.size ≤ 1 := by rw [hC, str_size]; simp
      have HC := hid hC
      clear hC
      by_cases hz : o = 0
      · have eo := eq_yes hz
        have HZ := hid hz
        clear hz
        go_wp2
        go_roundw
        case rel => exact ⟨k + 1, by omega, by go_num, by rw [HT.out, HC.out, HN.out, if_pos HZ.out, str_append], by (repeat (first | exact Below.refl _ _ | assumption | refine bel_alloc ?_ _ | refine bel_drew ?_ | refine bel_drewN ?_ _ | refine bel_set ?_ (by first | omega | (simp; done) | (simp; omega)) _ | refine bel_trans ?_ (by assumption)))⟩
        case measure => simp [intOf]; omega
      · have eo : (o == 0) = false := by simpa using hz
        go_wp2
        go_roundw
        case rel => exact ⟨k + 1, by omega, by go_num, by rw [HT.out, HC.out, HN.out, if_neg hz, str_append], by (repeat (first | exact Below.refl _ _ | assumption | refine bel_alloc ?_ _ | refine bel_drew ?_ | refine bel_drewN ?_ _ | refine bel_set ?_ (by first | omega | (simp; done) | (simp; omega)) _ | refine bel_trans ?_ (by assumption)))⟩
        case measure => simp [intOf]; omega
    · go_wp2
      go_ret
      exact ⟨ret_str (by rw [HT.out, codeBitsS, show width.toNat = k from by omega]), by (repeat (first | exact Below.refl _ _ | assumption | refine bel_alloc ?_ _ | refine bel_drew ?_ | refine bel_drewN ?_ _ | refine bel_set ?_ (by first | omega | (simp; done) | (simp; omega)) _ | refine bel_trans ?_ (by assumption)))⟩

theorem bit_at {s : ByteArray} (h : s.data.toList.all isBit = true) (k : Nat) (hk : k < s.size) : ((s[k]).toNat : Int) = 48 + ((M.bit s[k]).toNat : Int) := by
  have e : s[k] ∈ s.data.toList := by
    have : s[k] = s.data.toList[k]'(by simpa using hk) := rfl
    rw [this]; exact List.getElem_mem _
  have h1 := List.all_eq_true.1 h _ e
  simp only [isBit, Bool.or_eq_true, beq_iff_eq] at h1
  rcases h1 with h1 | h1 <;> rw [h1] <;> rfl
theorem bits_get (s : ByteArray) (k : Nat) (hk : k < s.size) : (s.data.toList.map M.bit)[k]? = some (M.bit s[k]) := by
  rw [List.getElem?_map, List.getElem?_eq_getElem (by simpa using hk)]; rfl
def bitsL (s : ByteArray) : List Bool := s.data.toList.map M.bit
theorem bitsL_len (s : ByteArray) : (bitsL s).length = s.size := by simp [bitsL]

theorem c_l1Number (o : Int) (s : ByteArray) (w : World) (hs : s.size ≤ 16) (hb : s.data.toList.all isBit = true) : Calls Try.prog 76 #[.int .i64 o, .string s] w (Same (.int .i64 (M.num (M.dir (!(o == 0)) (bitsL s)) : Nat)) w) := by
  have HB := hid hb
  clear hb
  go_enter Try.func76, Try.ntmps76
  go_wp2_with fail
  go_loop [5, 6] (fun n i => ∃ k : Nat, k ≤ s.size ∧ i = .int .i64 k ∧ n = .int .i64 (M.hornerN (!(o == 0)) (bitsL s) k : Nat)) (fun _ i => s.size - (intOf i).toNat)
  case atStart => exact ⟨0, by omega, rfl, by rw [M.hornerN_zero]; rfl⟩
  case round =>
    obtain ⟨k, hk, rfl, ht⟩ := hrel
    have hN := M.hornerN_lt (!(o == 0)) (bitsL s) k (by rw [bitsL_len]; exact hk)
    have h16 : (2 : Nat) ^ k ≤ 2 ^ 16 := Nat.pow_le_pow_right (by omega) (by omega)
    by_cases hlt : k < s.size
    · by_cases hz : o = 0
      · have hj : s.size - 1 - k < s.size := by omega
        have hbt := bit_at HB.out _ hj
        have HS := hid (M.hornerN_low (bitsL s) k (M.bit s[s.size - 1 - k]) (by rw [bitsL_len]; exact hlt) (by rw [bitsL_len]; exact bits_get s _ hj))
        have e0 : (!(o == 0)) = false := by simp [hz]
        rw [e0] at ht hN ⊢
        obtain ⟨N, hNe⟩ : ∃ N, N = M.hornerN false (bitsL s) k := ⟨_, rfl⟩
        rw [← hNe] at ht hN HS
        subst ht
        obtain ⟨d, hd⟩ : ∃ d, d = (M.bit s[s.size - 1 - k]).toNat := ⟨_, rfl⟩
        rw [← hd] at hbt HS
        have hd1 : d ≤ 1 := by subst hd; cases M.bit s[s.size - 1 - k] <;> simp
        have eo := eq_yes hz
        have hN2 : N ≤ 65536 := by omega
        clear hNe hd hz e0 h16
        have hbd : 48 ≤ ((s[s.size - 1 - k]).toNat : Int) ∧ ((s[s.size - 1 - k]).toNat : Int) ≤ 49 := by omega
        have HT := hid hbt
        clear hbt
        go_wp2
        go_round
        case rel => exact ⟨k + 1, by omega, by go_num, vint (by rw [HT.out, HS.out]; omega)⟩
        case measure => simp [intOf]; omega
      · have hbt := bit_at HB.out _ hlt
        have HS := hid (M.hornerN_high (bitsL s) k (M.bit s[k]) (bits_get s _ hlt))
        have e0 : (!(o == 0)) = true := by simp [hz]
        rw [e0] at ht hN ⊢
        obtain ⟨N, hNe⟩ : ∃ N, N = M.hornerN true (bitsL s) k := ⟨_, rfl⟩
        rw [← hNe] at ht hN HS
        subst ht
        obtain ⟨d, hd⟩ : ∃ d, d = (M.bit s[k]).toNat := ⟨_, rfl⟩
        rw [← hd] at hbt HS
        have hd1 : d ≤ 1 := by subst hd; cases M.bit s[k] <;> simp
        have eo : (o == 0) = false := by simpa using hz
        have hN2 : N ≤ 65536 := by omega
        clear hNe hd e0 h16
        have hbd : 48 ≤ ((s[k]).toNat : Int) ∧ ((s[k]).toNat : Int) ≤ 49 := by omega
        have HT := hid hbt
        clear hbt
        go_wp2
        go_round
        case rel => exact ⟨k + 1, by omega, by go_num, vint (by rw [HT.out, HS.out]; omega)⟩
        case measure => simp [intOf]; omega
    · subst ht
      have hN2 : M.hornerN (!(o == 0)) (bitsL s) k ≤ 65536 := by omega
      have HK := hid (show M.hornerN (!(o == 0)) (bitsL s) k = M.num (M.dir (!(o == 0)) (bitsL s)) by rw [show k = (bitsL s).length from by rw [bitsL_len]; omega, M.hornerN_full])
      go_wp2
      go_ret
      exact ⟨ret_int (by rw [HK.out]), rfl⟩
end Go.Proofs.Ytgfclblooadomaa
