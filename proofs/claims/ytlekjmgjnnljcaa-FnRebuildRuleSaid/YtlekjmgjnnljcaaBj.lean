/- Contracts of DataFits and BitsValid in both programs. No condition but that a string has a length. Contracts of CodeBits, BitsCode, ReverseBits in both programs, and of what they call. Contracts of the loops that append bits. Contracts of CodeBits, BitsCode and ReverseBits in both programs, and of what they call. Contracts of BitsCode, ReverseBits and the model's CodeBits, and of what they call. Contracts of ReverseBits in both programs. Contracts of PackBits in both programs, and of what it calls. Contracts of UnpackBits in both programs, and of what they call. -/
import Derived.Test.YtlekjmgjnnljcaaBa
namespace Go.Proofs.Ytlekjmgjnnljcaa
section
open Go.ChangeShapes Go.WideShapes Go.ChangeAt Go.RowKit Go.Joins
set_option linter.unusedVariables false

def ltc (c : Int) (x : UInt8) : Bool := decide ((x.toNat : Int) < c)
def dataFits (o l m : Int) (s : ByteArray) : Bool := setOk o l m && decide (s.size ≤ 2000) && s.data.toList.all (ltc (pow2 l))

def isBit (x : UInt8) : Bool := x == 48 || x == 49
def bitsOk (s : ByteArray) : Bool := decide (s.size ≤ 32000) && s.data.toList.all isBit

theorem isBit_yes {x : UInt8} (h : ((x.toNat : Int) = 48 ∨ (x.toNat : Int) = 49)) : isBit x = true := by
  have : x = 48 ∨ x = 49 := by
    rcases h with h | h
    · left; apply UInt8.toNat_inj.1; simp; omega
    · right; apply UInt8.toNat_inj.1; simp; omega
  rcases this with rfl | rfl <;> rfl
theorem isBit_no {x : UInt8} (h : ¬((x.toNat : Int) = 48 ∨ (x.toNat : Int) = 49)) : isBit x = false := by
  have h1 : x ≠ 48 := fun e => h (by subst e; left; rfl)
  have h2 : x ≠ 49 := fun e => h (by subst e; right; rfl)
  simp [isBit, h1, h2]

set_option maxHeartbeats 1000000 in
theorem c_l1Fits (o l m : Int) (s : ByteArray) (w : World) (hs : s.size ≤ maxLen) (h3 : 1 ≤ l) (h4 : l ≤ 8) : Calls Try.prog 51 #[.agg #[.int .i64 o, .int .i64 l, .int .i64 m], .string s] w fun e w' => e = .returned (.bool (s.data.toList.all (ltc (pow2 l)))) ∧ Below w.heap.size w w' := by
  unfold maxLen at hs
  have hp := pow2_bd (n := l) (by omega)
  go_enter Try.func51, Try.ntmps51
  go_wp2_with fail
  go_loopw [5] (fun i wr => ∃ k : Nat, k ≤ s.size ∧ i = .int .i64 k ∧ Hid ((s.data.toList.take k).all (ltc (pow2 l)) = true) ∧ Blk wr w.heap.size 42 #[.int .i64 o, .int .i64 l, .int .i64 m] ∧ Below w.heap.size w wr) (fun i _ => s.size - (intOf i).toNat)
  case atStart => exact ⟨0, Nat.zero_le _, rfl, hid rfl, Blk.new _ _ _, by (repeat (first | with_reducible (first | assumption | exact Below.refl _ _ | refine bel_alloc ?_ _ | refine bel_drew ?_ | refine bel_drewN ?_ _ | refine bel_set ?_ (by first | omega | (simp; done) | (simp; omega)) _ | refine bel_trans ?_ (by assumption)) | assumption | refine bel_trans ?_ (by assumption)))⟩
  case round =>
    obtain ⟨k, hk, rfl, HK, hblk, hbl⟩ := hrel
    obtain ⟨q0, q1, q2⟩ := hblk.cells3
    by_cases hlt : k < s.size
    · have hb8 := byte_le s k hlt
      have ew := IntWalk.i64_in ((s[k]).toNat : Int) (by omega)
      by_cases hb : ((s[k]).toNat : Int) < pow2 l
      · go_wp2_with fail
        go_region_with (go_at_call 45; refine (c_l1Clear _ _ _ _ (by omega) (by omega)).mono ?_; rintro e w2 ⟨rfl, hb2⟩; have hc2 := bcell hb2)
        all_goals
          go_wp2
          go_roundw
          case rel => exact ⟨k + 1, by omega, by go_num, hid (by rw [all_snoc s _ k hlt, HK.out]; simp [ltc, hb]), Blk.on (w := wr.drew) hblk hb2, by (repeat (first | with_reducible (first | assumption | exact Below.refl _ _ | refine bel_alloc ?_ _ | refine bel_drew ?_ | refine bel_drewN ?_ _ | refine bel_set ?_ (by first | omega | (simp; done) | (simp; omega)) _ | refine bel_trans ?_ (by assumption)) | assumption | refine bel_trans ?_ (by assumption)))⟩
          case measure => simp [intOf]; omega
      · go_wp2_with fail
        go_region_with (go_at_call 45; refine (c_l1Clear _ _ _ _ (by omega) (by omega)).mono ?_; rintro e w2 ⟨rfl, hb2⟩; have hc2 := bcell hb2)
        all_goals
          go_wp2
          go_ret
          exact ⟨ret_bool (by rw [all_not s _ k hlt (by simp [ltc]; omega)]), by (repeat (first | with_reducible (first | assumption | exact Below.refl _ _ | refine bel_alloc ?_ _ | refine bel_drew ?_ | refine bel_drewN ?_ _ | refine bel_set ?_ (by first | omega | (simp; done) | (simp; omega)) _ | refine bel_trans ?_ (by assumption)) | assumption | refine bel_trans ?_ (by assumption)))⟩
    · go_wp2
      go_ret
      exact ⟨ret_bool (by rw [← all_whole s _ k (by omega), HK.out]), by (repeat (first | with_reducible (first | assumption | exact Below.refl _ _ | refine bel_alloc ?_ _ | refine bel_drew ?_ | refine bel_drewN ?_ _ | refine bel_set ?_ (by first | omega | (simp; done) | (simp; omega)) _ | refine bel_trans ?_ (by assumption)) | assumption | refine bel_trans ?_ (by assumption)))⟩

theorem c_sDataFits (o l m : Int) (s : ByteArray) (w : World) (hs : s.size ≤ maxLen) : Calls Try.prog 46 #[.agg #[.int .i64 o, .int .i64 l, .int .i64 m], .string s] w fun e w' => e = .returned (.bool (dataFits o l m s)) ∧ Below w.heap.size w w' := by
  have hs2 := hs
  unfold maxLen at hs2
  cases h : setOk o l m with
  | false =>
    go_enter Try.func46, Try.ntmps46
    go_wp2_with (go_at_call 50; refine (c_sSettingValid _ _ _ _).mono ?_; rintro e w1 ⟨rfl, hb1⟩; have hc1 := bcell hb1; have hz1_0 : w.heap.size < w1.heap.size := (by have := hb1.size; first | omega | (simp at this; omega)))
    go_ret
    exact ⟨ret_bool (by simp [dataFits, h]), by (repeat (first | with_reducible (first | assumption | exact Below.refl _ _ | refine bel_alloc ?_ _ | refine bel_drew ?_ | refine bel_drewN ?_ _ | refine bel_set ?_ (by first | omega | (simp; done) | (simp; omega)) _ | refine bel_trans ?_ (by assumption)) | assumption | refine bel_trans ?_ (by assumption)))⟩
  | true =>
    by_cases h2 : s.size ≤ 2000
    · obtain ⟨_, ⟨h3, h4⟩, _⟩ := setOk_iff.1 h
      go_enter Try.func46, Try.ntmps46
      go_wp2_with (first | (go_at_call 50; refine (c_sSettingValid _ _ _ _).mono ?_; rintro e w1 ⟨rfl, hb1⟩; have hc1 := bcell hb1; have hz1_0 : w.heap.size < w1.heap.size := (by have := hb1.size; first | omega | (simp at this; omega))) | (go_at_call 51; refine (c_l1Fits _ _ _ _ _ hs (by omega) (by omega)).mono ?_; rintro e w2 ⟨rfl, hb2⟩; have hc2 := bcell hb2))
      go_ret
      exact ⟨ret_bool (by simp [dataFits, h, h2]), by (repeat (first | with_reducible (first | assumption | exact Below.refl _ _ | refine bel_alloc ?_ _ | refine bel_drew ?_ | refine bel_drewN ?_ _ | refine bel_set ?_ (by first | omega | (simp; done) | (simp; omega)) _ | refine bel_trans ?_ (by assumption)) | assumption | refine bel_trans ?_ (by assumption)))⟩
    · go_enter Try.func46, Try.ntmps46
      go_wp2_with (first | (go_at_call 50; refine (c_sSettingValid _ _ _ _).mono ?_; rintro e w1 ⟨rfl, hb1⟩; have hc1 := bcell hb1; have hz1_0 : w.heap.size < w1.heap.size := (by have := hb1.size; first | omega | (simp at this; omega))) | (go_at_call 51; refine (c_l1Fits _ _ _ _ _ hs (by omega) (by omega)).mono ?_; rintro e w2 ⟨rfl, hb2⟩; have hc2 := bcell hb2))
      go_ret
      exact ⟨ret_bool (by simp [dataFits, h, h2]), by (repeat (first | with_reducible (first | assumption | exact Below.refl _ _ | refine bel_alloc ?_ _ | refine bel_drew ?_ | refine bel_drewN ?_ _ | refine bel_set ?_ (by first | omega | (simp; done) | (simp; omega)) _ | refine bel_trans ?_ (by assumption)) | assumption | refine bel_trans ?_ (by assumption)))⟩
end

section
open Go.ChangeShapes Go.WideShapes Go.ChangeAt Go.RowKit Go.Joins
set_option linter.unusedVariables false

def place (o i width : Int) : Int := if o = 1 then width - 1 - i else i

/-- a binary digit -/
def dgI (n p : Int) : Int := ((n / 2 ^ p.toNat) % 2)
theorem dgI_bd (n p : Int) : 0 ≤ dgI n p ∧ dgI n p ≤ 1 := by unfold dgI; omega
theorem and_one {x : Int} (h0 : 0 ≤ x) (h1 : x ≤ 9223372036854775807) : bits .and .i64 x 1 = x % 2 := by
  have := (bits_nat .i64 63 (by decide) (fun n h0 h1 => IntWalk.i64_in n (by omega)) x.toNat 1 (by omega) (by omega)).1
  rw [show ((x.toNat : Nat) : Int) = x from by omega, Nat.and_one_is_mod] at this
  exact this.trans (by omega)
theorem div_pow_bd {n : Int} (k : Nat) (h0 : 0 ≤ n) (h1 : n ≤ 9223372036854775807) : 0 ≤ n / 2 ^ k ∧ n / 2 ^ k ≤ 9223372036854775807 := by
  have hp : (0 : Int) < 2 ^ k := by exact_mod_cast Nat.pow_pos (n := k) (by omega : 0 < 2)
  exact ⟨Int.ediv_nonneg h0 (by omega), Int.le_trans (Int.ediv_le_self _ h0) h1⟩
/-- the first k digits, as letters -/
def dl (o n width : Int) (k : Nat) : List UInt8 := (List.range k).map fun (i : Nat) => M.chr (dgI n (place o i width) == 1)
theorem dl_succ (o n width : Int) (k : Nat) : dl o n width (k + 1) = dl o n width k ++ [M.chr (dgI n (place o k width) == 1)] := by simp [dl, List.range_succ]
theorem chr_dg (n p : Int) : (48 + dgI n p) = ((M.chr (dgI n p == 1)).toNat : Int) := by
  have := dgI_bd n p
  rcases (show dgI n p = 0 ∨ dgI n p = 1 from by omega) with h | h <;> rw [h] <;> rfl
end

section
open Go.ChangeShapes Go.WideShapes Go.ChangeAt Go.RowKit Go.Joins
set_option linter.unusedVariables false

theorem Try.info_u8 : (Try.prog.info? 5).map (fun i => (i.zero, i.size, i.bytes)) = some (some (.int .u8 0), 1, 1) := by kernel_rfl
end

section
open Go.ChangeShapes Go.WideShapes Go.ChangeAt Go.RowKit Go.Joins
set_option linter.unusedVariables false

def codeFits (code width : Int) : Bool := inB width 1 10 && decide (0 ≤ code) && decide (code < pow2 width)

theorem div_zero {c : Int} {k : Nat} (h : 0 ≤ c) : (c / 2 ^ k == 0) = decide (c < 2 ^ k) := by
  rw [Bool.eq_iff_iff]
  simp only [beq_iff_eq, decide_eq_true_eq]
  have hp : (0 : Int) < 2 ^ k := by exact_mod_cast Nat.pow_pos (n := k) (by omega : 0 < 2)
  constructor
  · intro h1
    have := Int.lt_mul_ediv_self_add hp (x := c)
    rw [h1] at this; omega
  · intro h1; exact Int.ediv_eq_zero_of_lt h h1

def par (c : UInt8) : Bool := c.toNat % 2 == 1
theorem quiet_same {P : Program} {f : FuncId} {args : Array Value} {w : World} {n : Nat} {v : Value} (h : Calls P f args (w.drewN n) (Same v (w.drewN n))) : Calls P f args (w.drewN n) fun e w'' => e = .returned v ∧ ∃ m, w'' = w.drewN m :=
  h.mono fun _ _ ⟨he, hm⟩ => ⟨he, n, hm.symm⟩

theorem or_i64 (a b : Nat) (ha : a < 2 ^ 63) (hb : b < 2 ^ 63) : bits .or .i64 (a : Int) (b : Int) = ((a ||| b : Nat) : Int) :=
  (bits_nat .i64 63 (by decide) (fun n h0 h1 => IntWalk.i64_in n (by omega)) a b ha hb).2
theorem number_step (o width : Int) (ho : o = 0 ∨ o = 1) (k d : Nat) (bs : List Bool) (b : Bool) (hbs : bs.length = k) (hk : (k : Int) < width) (hw : width ≤ 16) (hd : d = b.toNat) :
    bits .or .i64 ((M.numK (o == 1) width.toNat bs : Nat) : Int) (wrap64 ((d : Int) * 2 ^ (place o k width).toNat)) = ((M.numK (o == 1) width.toNat (bs ++ [b]) : Nat) : Int) := by
  have h1 := M.numK_lt (o == 1) width.toNat bs (by omega)
  have h16 : (2 : Nat) ^ width.toNat ≤ 2 ^ 16 := Nat.pow_le_pow_right (by omega) (by omega)
  have hp : (place o k width).toNat ≤ 16 := by unfold place; split <;> omega
  have hpp : (2 : Nat) ^ (place o k width).toNat ≤ 2 ^ 16 := Nat.pow_le_pow_right (by omega) hp
  have hd1 : d ≤ 1 := by subst hd; cases b <;> simp
  have hm : d * 2 ^ (place o k width).toNat ≤ 2 ^ 16 := by
    rcases (show d = 0 ∨ d = 1 from by omega) with h | h <;> rw [h] <;> omega
  have e : (d : Int) * 2 ^ (place o k width).toNat = ((d * 2 ^ (place o k width).toNat : Nat) : Int) := by simp
  rw [e, IntWalk.wrap64_in _ (by omega), or_i64 _ _ (by omega) (by omega)]
  congr 1
  rcases ho with rfl | rfl
  · have : (place 0 k width).toNat = bs.length := by simp [place, hbs]
    rw [this, hd]; exact (M.numK_snoc_low _ _ _).symm
  · have : (place 1 k width).toNat = width.toNat - 1 - bs.length := by simp [place, hbs]; try omega
    rw [this, hd]; exact (M.numK_snoc_high _ _ _ (by omega)).symm
theorem par_toNat (c : UInt8) : c.toNat % 2 = (par c).toNat := by
  unfold par; rcases (show c.toNat % 2 = 0 ∨ c.toNat % 2 = 1 from by omega) with h | h <;> rw [h] <;> rfl

theorem dl_codeBits (o n width : Int) (ho : o = 0 ∨ o = 1) (hn : 0 ≤ n) : dl o n width width.toNat = M.codeBits (o == 1) n.toNat width.toNat := by
  obtain ⟨m, rfl⟩ := Int.eq_ofNat_of_zero_le hn
  have hd : ∀ p : Int, (dgI m p == 1) = m.testBit p.toNat := by
    intro p
    rw [Nat.testBit_eq_decide_div_mod_eq]
    have e : dgI m p = ((m / 2 ^ p.toNat % 2 : Nat) : Int) := by simp [dgI]
    rw [e, Bool.eq_iff_iff, beq_iff_eq, decide_eq_true_iff]; omega
  rw [Int.toNat_natCast]
  rcases ho with rfl | rfl
  · simp only [dl, M.codeBits, M.asc, M.dir, M.bitsOf_map]
    simp only [show ((0 : Int) == 1) = false from rfl, Bool.false_eq_true, if_false, List.map_map]
    apply List.map_congr_left
    intro i hi
    simp [hd, place]
  · simp only [dl, M.codeBits, M.asc, M.dir, show ((1 : Int) == 1) = true from rfl, if_true, M.bitsOf_rev, List.map_map]
    apply List.map_congr_left
    intro i hi
    have : i < width.toNat := by simpa using hi
    simp only [hd, place, if_true, Function.comp]
    congr 2; omega

def codeBitsS (o n width : Int) : ByteArray := str (M.codeBits (o == 1) n.toNat width.toNat)
def codeOk (o n width : Int) : Bool := orderOk o && codeFits n width
theorem codeFits_iff {n width : Int} : codeFits n width = true ↔ (1 ≤ width ∧ width ≤ 10) ∧ 0 ≤ n ∧ n < pow2 width := by simp [codeFits, inB, and_assoc]
theorem orderOk_iff {o : Int} : orderOk o = true ↔ o = 0 ∨ o = 1 := by simp [orderOk]

theorem codeBits_len (h : Bool) (n k : Nat) : (M.codeBits h n k).length = k := by simp [M.codeBits, M.asc, M.dir_length, M.bitsOf_length]
theorem codeBits_succ (o n : Int) (k : Nat) (ho : o = 0 ∨ o = 1) (hn : 0 ≤ n) : M.codeBits (o == 1) n.toNat (k + 1) = if o = 0 then M.codeBits (o == 1) n.toNat k ++ [M.chr (n / 2 ^ k % 2 == 1)] else [M.chr (n / 2 ^ k % 2 == 1)] ++ M.codeBits (o == 1) n.toNat k := by
  obtain ⟨m, rfl⟩ := Int.eq_ofNat_of_zero_le hn
  have hd : ((m : Int) / 2 ^ k % 2 == 1) = m.testBit k := by
    rw [Nat.testBit_eq_decide_div_mod_eq]
    have e : (m : Int) / 2 ^ k % 2 = ((m / 2 ^ k % 2 : Nat) : Int) := by simp
    rw [e, Bool.eq_iff_iff, beq_iff_eq, decide_eq_true_iff]; omega
  rw [Int.toNat_natCast, hd]
  rcases ho with rfl | rfl
  · simp [M.codeBits, M.dir, M.bitsOf_snoc, M.asc]
  · simp [M.codeBits, M.dir, M.bitsOf_snoc, M.asc]

theorem c_l1Code (o n width : Int) (w : World) (ho : o = 0 ∨ o = 1) (hn : 0 ≤ n) (hn2 : n ≤ 9223372036854775807) (h0 : 0 ≤ width) (h1 : width ≤ 16) : Calls Try.prog 76 #[.int .i64 o, .int .i64 n, .int .i64 width] w fun e w' => e = .returned (.string (codeBitsS o n width)) ∧ Below w.heap.size w w' := by
  go_enter Try.func76, Try.ntmps76
  go_wp2_with fail
  go_loopw [7, 8] (fun t i wr => ∃ k : Nat, k ≤ width ∧ i = .int .i64 k ∧ t = .string (str (M.codeBits (o == 1) n.toNat k)) ∧ Below w.heap.size w wr) (fun _ i _ => (width - intOf i).toNat)
  case atStart => exact ⟨0, by omega, rfl, by cases (o == 1) <;> rfl, by (repeat (first | with_reducible (first | assumption | exact Below.refl _ _ | refine bel_alloc ?_ _ | refine bel_drew ?_ | refine bel_drewN ?_ _ | refine bel_set ?_ (by first | omega | (simp; done) | (simp; omega)) _ | refine bel_trans ?_ (by assumption)) | assumption | refine bel_trans ?_ (by assumption)))⟩
  case round =>
    obtain ⟨k, hk, rfl, ht, hbl⟩ := hrel
    obtain ⟨T, hT⟩ : ∃ T, T = str (M.codeBits (o == 1) n.toNat k) := ⟨_, rfl⟩
    rw [← hT] at ht
    subst ht
    have hTs : T.size ≤ 16 := by rw [hT, str_size, codeBits_len]; omega
    have HT := hid hT
    clear hT
    by_cases hlt : k < width
    · have hd := div_pow_bd k hn hn2
      have eb := and_one hd.1 hd.2
      have hch := chr_dg n k
      rw [dgI, Int.toNat_natCast] at hch
      have hcv := run_one (P := Try.prog) (w := wr) Try.underlying22 Try.underlying5 Try.underlying9 hch
      have HN := hid (codeBits_succ o n k ho hn)
      clear hch
      obtain ⟨C, hC⟩ : ∃ C, C = str [M.chr (n / 2 ^ k % 2 == 1)] := ⟨_, rfl⟩
      rw [← hC] at hcv
      have hCs : C.size ≤ 1 := by rw [hC, str_size]; simp
      have HC := hid hC
      clear hC
      by_cases hz : o = 0
      · have eo := eq_yes hz
        have HZ := hid hz
        clear hz
        go_wp2
        go_roundw
        case rel => exact ⟨k + 1, by omega, by go_num, by rw [HT.out, HC.out, HN.out, if_pos HZ.out, str_append], by (repeat (first | with_reducible (first | assumption | exact Below.refl _ _ | refine bel_alloc ?_ _ | refine bel_drew ?_ | refine bel_drewN ?_ _ | refine bel_set ?_ (by first | omega | (simp; done) | (simp; omega)) _ | refine bel_trans ?_ (by assumption)) | assumption | refine bel_trans ?_ (by assumption)))⟩
        case measure => simp [intOf]; omega
      · have eo : (o == 0) = false := by simpa using hz
        go_wp2
        go_roundw
        case rel => exact ⟨k + 1, by omega, by go_num, by rw [HT.out, HC.out, HN.out, if_neg hz, str_append], by (repeat (first | with_reducible (first | assumption | exact Below.refl _ _ | refine bel_alloc ?_ _ | refine bel_drew ?_ | refine bel_drewN ?_ _ | refine bel_set ?_ (by first | omega | (simp; done) | (simp; omega)) _ | refine bel_trans ?_ (by assumption)) | assumption | refine bel_trans ?_ (by assumption)))⟩
        case measure => simp [intOf]; omega
    · go_wp2
      go_ret
      exact ⟨ret_str (by rw [HT.out, codeBitsS, show width.toNat = k from by omega]), by (repeat (first | with_reducible (first | assumption | exact Below.refl _ _ | refine bel_alloc ?_ _ | refine bel_drew ?_ | refine bel_drewN ?_ _ | refine bel_set ?_ (by first | omega | (simp; done) | (simp; omega)) _ | refine bel_trans ?_ (by assumption)) | assumption | refine bel_trans ?_ (by assumption)))⟩

theorem bit_at {s : ByteArray} (h : s.data.toList.all isBit = true) (k : Nat) (hk : k < s.size) : ((s[k]).toNat : Int) = 48 + ((M.bit s[k]).toNat : Int) := by
  have e : s[k] ∈ s.data.toList := by
    have : s[k] = s.data.toList[k]'(by simpa using hk) := rfl
    rw [this]; exact List.getElem_mem _
  have h1 := List.all_eq_true.1 h _ e
  simp only [isBit, Bool.or_eq_true, beq_iff_eq] at h1
  rcases h1 with h1 | h1 <;> rw [h1] <;> rfl
theorem bits_get (s : ByteArray) (k : Nat) (hk : k < s.size) : (s.data.toList.map M.bit)[k]? = some (M.bit s[k]) := by
  rw [List.getElem?_map, List.getElem?_eq_getElem (by simpa using hk)]; rfl
def bitsL (s : ByteArray) : List Bool := s.data.toList.map M.bit
theorem bitsL_len (s : ByteArray) : (bitsL s).length = s.size := by simp [bitsL]

theorem c_l1Number (o : Int) (s : ByteArray) (w : World) (hs : s.size ≤ 16) (hb : s.data.toList.all isBit = true) : Calls Try.prog 74 #[.int .i64 o, .string s] w (Same (.int .i64 (M.num (M.dir (!(o == 0)) (bitsL s)) : Nat)) w) := by
  have HB := hid hb
  clear hb
  go_enter Try.func74, Try.ntmps74
  go_wp2_with fail
  go_loop [5, 6] (fun n i => ∃ k : Nat, k ≤ s.size ∧ i = .int .i64 k ∧ n = .int .i64 (M.hornerN (!(o == 0)) (bitsL s) k : Nat)) (fun _ i => s.size - (intOf i).toNat)
  case atStart => exact ⟨0, by omega, rfl, by rw [M.hornerN_zero]; rfl⟩
  case round =>
    obtain ⟨k, hk, rfl, ht⟩ := hrel
    have hN := M.hornerN_lt (!(o == 0)) (bitsL s) k (by rw [bitsL_len]; exact hk)
    have h16 : (2 : Nat) ^ k ≤ 2 ^ 16 := Nat.pow_le_pow_right (by omega) (by omega)
    by_cases hlt : k < s.size
    · by_cases hz : o = 0
      · have hj : s.size - 1 - k < s.size := by omega
        have hbt := bit_at HB.out _ hj
        have HS := hid (M.hornerN_low (bitsL s) k (M.bit s[s.size - 1 - k]) (by rw [bitsL_len]; exact hlt) (by rw [bitsL_len]; exact bits_get s _ hj))
        have e0 : (!(o == 0)) = false := by simp [hz]
        rw [e0] at ht hN ⊢
        obtain ⟨N, hNe⟩ : ∃ N, N = M.hornerN false (bitsL s) k := ⟨_, rfl⟩
        rw [← hNe] at ht hN HS
        subst ht
        obtain ⟨d, hd⟩ : ∃ d, d = (M.bit s[s.size - 1 - k]).toNat := ⟨_, rfl⟩
        rw [← hd] at hbt HS
        have hd1 : d ≤ 1 := by subst hd; cases M.bit s[s.size - 1 - k] <;> simp
        have eo := eq_yes hz
        have hN2 : N ≤ 65536 := by omega
        clear hNe hd hz e0 h16
        have hbd : 48 ≤ ((s[s.size - 1 - k]).toNat : Int) ∧ ((s[s.size - 1 - k]).toNat : Int) ≤ 49 := by omega
        have HT := hid hbt
        clear hbt
        go_wp2
        go_round
        case rel => exact ⟨k + 1, by omega, by go_num, vint (by rw [HT.out, HS.out]; omega)⟩
        case measure => simp [intOf]; omega
      · have hbt := bit_at HB.out _ hlt
        have HS := hid (M.hornerN_high (bitsL s) k (M.bit s[k]) (bits_get s _ hlt))
        have e0 : (!(o == 0)) = true := by simp [hz]
        rw [e0] at ht hN ⊢
        obtain ⟨N, hNe⟩ : ∃ N, N = M.hornerN true (bitsL s) k := ⟨_, rfl⟩
        rw [← hNe] at ht hN HS
        subst ht
        obtain ⟨d, hd⟩ : ∃ d, d = (M.bit s[k]).toNat := ⟨_, rfl⟩
        rw [← hd] at hbt HS
        have hd1 : d ≤ 1 := by subst hd; cases M.bit s[k] <;> simp
        have eo : (o == 0) = false := by simpa using hz
        have hN2 : N ≤ 65536 := by omega
        clear hNe hd e0 h16
        have hbd : 48 ≤ ((s[k]).toNat : Int) ∧ ((s[k]).toNat : Int) ≤ 49 := by omega
        have HT := hid hbt
        clear hbt
        go_wp2
        go_round
        case rel => exact ⟨k + 1, by omega, by go_num, vint (by rw [HT.out, HS.out]; omega)⟩
        case measure => simp [intOf]; omega
    · subst ht
      have hN2 : M.hornerN (!(o == 0)) (bitsL s) k ≤ 65536 := by omega
      have HK := hid (show M.hornerN (!(o == 0)) (bitsL s) k = M.num (M.dir (!(o == 0)) (bitsL s)) by rw [show k = (bitsL s).length from by rw [bitsL_len]; omega, M.hornerN_full])
      go_wp2
      go_ret
      exact ⟨ret_int (by rw [HK.out]), rfl⟩
end

section
open Go.ChangeShapes Go.WideShapes Go.ChangeAt Go.RowKit Go.Joins
set_option linter.unusedVariables false

def bitsCodeOk (o : Int) (s : ByteArray) : Bool := orderOk o && inB s.size 1 10 && bitsOk s
def bitsCodeV (o : Int) (s : ByteArray) : Nat := M.num (M.dir (o == 1) (bitsL s))
theorem par_bits {s : ByteArray} (h : bitsOk s = true) : s.data.toList.map par = bitsL s := by
  unfold bitsL
  apply List.map_congr_left
  intro c hc
  simp only [bitsOk, Bool.and_eq_true] at h
  have h1 := List.all_eq_true.1 h.2 _ hc
  simp only [isBit, Bool.or_eq_true, beq_iff_eq] at h1
  rcases h1 with rfl | rfl <;> rfl
theorem bitsOk_all {s : ByteArray} (h : bitsOk s = true) : s.data.toList.all isBit = true := by
  simp only [bitsOk, Bool.and_eq_true] at h; exact h.2
theorem numK_bits {o : Int} {s : ByteArray} {n : Nat} (h : bitsOk s = true) (hn : n = s.size) : M.numK (o == 1) n (s.data.toList.map par) = bitsCodeV o s := by
  rw [par_bits h, bitsCodeV, ← M.numK_full, bitsL_len, hn]
theorem not_zero {o : Int} (h : orderOk o = true) : (!(o == 0)) = (o == 1) := by
  rcases orderOk_iff.1 h with rfl | rfl <;> rfl

theorem bitsCodeOk_iff {o : Int} {s : ByteArray} : bitsCodeOk o s = true ↔ orderOk o = true ∧ inB s.size 1 10 = true ∧ bitsOk s = true := by simp [bitsCodeOk, and_assoc]

def revV (n width : Int) : Nat := M.num (M.dir true (M.bitsOf width.toNat n.toNat))
theorem all_le (k : Nat) (K : Int) (hK : K < k) {Q : Int → Prop} (h : ∀ m : Fin k, Q ((m.val : Nat) : Int)) : ∀ n : Int, 0 ≤ n → n ≤ K → Q n := by
  intro n h0 h1
  have := h ⟨n.toNat, by omega⟩
  rwa [show ((n.toNat : Nat) : Int) = n from by omega] at this
end

section
open Go.ChangeShapes Go.WideShapes Go.ChangeAt Go.RowKit Go.Joins
set_option linter.unusedVariables false

theorem all_asc (l : List Bool) : (M.asc l).all isBit = true := M.isBits_asc l
theorem bitsL_asc (l : List Bool) : bitsL (str (M.asc l)) = l := by rw [bitsL, str_list, M.bits_asc]
end

section
open Go.ChangeShapes Go.WideShapes Go.ChangeAt Go.RowKit Go.Joins
set_option linter.unusedVariables false

/-- a word n times -/
def rep (l : List UInt8) (n : Nat) : List UInt8 := (List.replicate n l).flatten
theorem rep_len (l : List UInt8) (n : Nat) : (rep l n).length = n * l.length := by simp [rep]
theorem rep_add (l : List UInt8) (a b : Nat) : rep l a ++ rep l b = rep l (a + b) := by simp [rep, ← List.replicate_append_replicate]

theorem c_l9Many (l : List UInt8) (n : Int) (w : World) (h0 : 0 ≤ n) (h1 : n ≤ 1000000) (hl : l.length ≤ 1000) : Calls Try.prog 39 #[.string (str l), .int .i64 n] w (Same (.string (str (rep l n.toNat))) w) := by
  go_enter Try.func39, Try.ntmps39
  go_wp2_with fail
  go_loop [0, 1, 5] (fun s m t => ∃ a b k : Nat, s = .string (str (rep l b)) ∧ t = .string (str (rep l a)) ∧ m = .int .i64 k ∧ Hid (a + b * k = n.toNat) ∧ k ≤ 1000000 ∧ a ≤ 1000000 ∧ b ≤ 2000000) (fun _ m _ => (intOf m).toNat)
  case atStart => exact ⟨0, 1, n.toNat, by simp [rep], by simp [rep, str], by rw [Int.toNat_of_nonneg h0], hid (by omega), by omega, by omega, by omega⟩
  case round =>
    obtain ⟨a, b, k, hs, ht, rfl, HK, hk, ha, hb⟩ := hrel
    obtain ⟨Sa, hSa⟩ : ∃ S, S = str (rep l a) := ⟨_, rfl⟩
    obtain ⟨Sb, hSb⟩ : ∃ S, S = str (rep l b) := ⟨_, rfl⟩
    have hla : Sa.size ≤ 1000000000 := by rw [hSa, str_size, rep_len]; exact Nat.le_trans (Nat.mul_le_mul ha hl) (by omega)
    have hlb : Sb.size ≤ 2000000000 := by rw [hSb, str_size, rep_len]; exact Nat.le_trans (Nat.mul_le_mul hb hl) (by omega)
    rw [← hSa] at ht
    rw [← hSb] at hs
    subst hs ht
    have HSa := hid hSa
    have HSb := hid hSb
    clear hSa hSb
    by_cases hz : k = 0
    · subst hz
      go_wp2
      go_ret
      exact ⟨ret_str (by rw [HSa.out, ← HK.out]; simp), rfl⟩
    · have hkn : b * k ≤ n.toNat := by have := HK.out; omega
      have hb2 : b ≤ n.toNat := Nat.le_trans (Nat.le_mul_of_pos_right b (by omega)) hkn
      clear hkn
      by_cases hm : k % 2 = 1
      · have hm2 : ((k : Int) % 2 == 1) = true := eq_yes (by omega)
        have hk2 := hid (show a + b + (b + b) * (k / 2) = n.toNat by
          have h3 : k = 2 * (k / 2) + 1 := by omega
          have := HK.out
          rw [h3, Nat.mul_add, ← Nat.mul_assoc, Nat.mul_comm b 2, Nat.two_mul] at this
          omega)
        have ha2 : a + b ≤ n.toNat := by have := hk2.out; omega
        have HM := hid hm
        clear hm
        go_wp2
        go_round
        case rel => exact ⟨a + b, b + b, k / 2, by rw [HSb.out, str_append, rep_add], by rw [HSa.out, HSb.out, str_append, rep_add], by go_num, hk2, by omega, by omega, by omega⟩
        case measure => simp [intOf]; omega
      · have hm2 : ((k : Int) % 2 == 1) = false := eq_no (by omega)
        have hk2 := hid (show a + (b + b) * (k / 2) = n.toNat by
          have h3 : k = 2 * (k / 2) := by omega
          have := HK.out
          rw [h3, ← Nat.mul_assoc, Nat.mul_comm b 2, Nat.two_mul] at this
          omega)
        clear hm
        go_wp2
        go_round
        case rel => exact ⟨a, b + b, k / 2, by rw [HSb.out, str_append, rep_add], by rw [HSa.out], by go_num, hk2, by omega, by omega, by omega⟩
        case measure => simp [intOf]; omega

theorem rep_one (c : UInt8) (n : Nat) : rep [c] n = List.replicate n c := by
  induction n with
  | zero => rfl
  | succ n ih => simp only [rep, List.replicate_succ, List.flatten_cons] at *; rw [ih]; rfl
def padL (s : ByteArray) : ByteArray := str (s.data.toList ++ List.replicate (M.padN s.size) 48)
theorem bitsL_padL (s : ByteArray) : bitsL (padL s) = M.pad (bitsL s) := by
  rw [bitsL, padL, str_list, List.map_append, List.map_replicate, M.pad, bitsL_len]; rfl
theorem padL_size (s : ByteArray) : (padL s).size = 8 * ((s.size + 7) / 8) := by
  rw [← bitsL_len, bitsL_padL, M.pad_length, bitsL_len]
theorem padL_bits {s : ByteArray} (h : s.data.toList.all isBit = true) : (padL s).data.toList.all isBit = true := by
  rw [padL, str_list, List.all_append, h, Bool.true_and]
  rw [List.all_eq_true]
  intro x hx
  rw [(List.mem_replicate.1 hx).2]; rfl
theorem extract_bits (s : ByteArray) (a b : Nat) (hb : b ≤ s.size) : bitsL (s.extract a b) = ((bitsL s).drop a).take (b - a) := by
  simp [bitsL, List.map_drop, List.map_take]
theorem extract_all {s : ByteArray} (h : s.data.toList.all isBit = true) (a b : Nat) : (s.extract a b).data.toList.all isBit = true := by
  rw [List.all_eq_true] at *
  intro x hx
  refine h x ?_
  simp at hx
  exact List.mem_of_mem_drop (List.mem_of_mem_take hx)

theorem c_l1Pad (s : ByteArray) (w : World) (hs : s.size ≤ 40000) : Calls Try.prog 73 #[.string s] w (Same (.string (padL s)) w) := by
  have hq : 0 ≤ (-((s.size : Int) % 8)) % 8 ∧ (-((s.size : Int) % 8)) % 8 < 8 := by omega
  obtain ⟨Z, hZ⟩ : ∃ Z, Z = str (rep [48] ((-((s.size : Int) % 8)) % 8).toNat) := ⟨_, rfl⟩
  have HC := hid (show ∀ w, Calls Try.prog 39 #[.string ⟨#[48]⟩, .int .i64 ((-((s.size : Int) % 8)) % 8)] w (Same (.string Z) w) by intro w; rw [hZ]; exact c_l9Many [48] _ w (by omega) (by omega) (by decide))
  have HQ := hid (show Z = str (List.replicate (M.padN s.size) 48) by rw [hZ, rep_one]; congr 2; unfold M.padN; omega)
  have hz : Z.size ≤ 8 := by rw [hZ, str_size, rep_len]; simp; omega
  clear hZ
  go_enter Try.func73, Try.ntmps73
  go_wp2_with (go_at_call 39; refine (HC.out _).mono ?_; rintro e w' ⟨rfl, rfl⟩)
  go_ret
  exact ⟨ret_str (by rw [HQ.out, padL, ← str_append, str_self]), rfl⟩

theorem numByte (h : Bool) (l : List Bool) (hl : l.length = 8) : (((M.num (M.dir h l) : Nat) : Int)) = ((M.byteOf h l).toNat : Int) := by
  have h1 := M.num_lt (M.dir h l)
  rw [M.dir_length, hl] at h1
  have e : M.byteOf h l = UInt8.ofNat (M.num (M.dir h l)) := by simp [M.byteOf, hl]
  rw [e, UInt8.toNat_ofNat']; omega

theorem packN_snoc (h : Bool) (k : Nat) (l : List Bool) : M.packN h (k + 1) l = M.packN h k l ++ [M.byteOf h ((l.drop (8 * k)).take 8)] := by
  induction k generalizing l with
  | zero => simp [M.packN]
  | succ k ih =>
    rw [M.packN, ih, M.packN, List.drop_drop, List.cons_append]
    congr 6; omega

theorem Try.info_u8b : (Try.prog.info? 5).map (fun i => (i.zero, i.size, i.bytes)) = some (some (.int .u8 0), 1, 1) := by kernel_rfl

theorem c_l1Pack (o : Int) (s : ByteArray) (w : World) (hs : s.size ≤ 40000) (hb : s.data.toList.all isBit = true) : Calls Try.prog 66 #[.int .i64 o, .string s] w fun e w' => e = .returned (.string (str (M.pack (!(o == 0)) (bitsL s)))) ∧ Below w.heap.size w w' := by
  have hsz := padL_size s
  obtain ⟨T, hT⟩ : ∃ T, T = padL s := ⟨_, rfl⟩
  have HP := hid (show ∀ w, Calls Try.prog 73 #[.string s] w (Same (.string T) w) by intro w; rw [hT]; exact c_l1Pad s w hs)
  obtain ⟨N, hN⟩ : ∃ N, N = (s.size + 7) / 8 := ⟨_, rfl⟩
  have HN := hid hN
  have hTs : T.size = 8 * N := by rw [hT, hN]; exact hsz
  have hT1 : (T.size : Int) ≤ 8 * (N : Int) := by omega
  have hT2 : 8 * (N : Int) ≤ (T.size : Int) := by omega
  have hN2 : N ≤ 5001 := by omega
  have HB := hid (show bitsL T = M.pad (bitsL s) by rw [hT]; exact bitsL_padL s)
  have HA := hid (show T.data.toList.all isBit = true by rw [hT]; exact padL_bits hb)
  have HTs := hid hTs
  clear hTs hT hN hsz hb
  go_enter Try.func66, Try.ntmps66
  go_wp2_with (first | (go_at_call 73; refine (HP.out _).mono ?_; rintro e w' ⟨rfl, rfl⟩) | (at_make; refine make_bytes rfl _ _ 22 rfl w.heap.size 5 Try.underlying22 Try.info_u8b .i64 .i64 _ _ N rfl rfl (by omega) (by omega) (by omega) (Nat.le_refl _) ?_; intro w1 hown1 hb1 hg1))
  go_loopw [7] (fun i wr => ∃ k : Nat, k ≤ N ∧ i = .int .i64 k ∧ wr.ownsRow w.heap.size 5 1 (.slice (some ⟨w.heap.size, 0, none⟩) N N) N ((M.packN (!(o == 0)) k (bitsL T) ++ List.replicate (N - k) (0 : UInt8)).map vb) ∧ Below w.heap.size w wr) (fun i _ => N - (intOf i).toNat)
  case atStart => exact ⟨0, Nat.zero_le _, rfl, by simpa [M.packN] using hown1, by (repeat (first | with_reducible (first | assumption | exact Below.refl _ _ | refine bel_alloc ?_ _ | refine bel_drew ?_ | refine bel_drewN ?_ _ | refine bel_set ?_ (by first | omega | (simp; done) | (simp; omega)) _ | refine bel_trans ?_ (by assumption)) | assumption | refine bel_trans ?_ (by assumption)))⟩
  case round =>
    obtain ⟨k, hk, rfl, hown, hbl⟩ := hrel
    by_cases hlt : k < N
    · have hl : (T.extract (8 * k) (8 * k + 8)).size ≤ 16 := by rw [ByteArray.size_extract]; omega
      have HX := hid (extract_all HA.out (8 * k) (8 * k + 8))
      have HE := hid (show bitsL (T.extract (8 * k) (8 * k + 8)) = ((bitsL T).drop (8 * k)).take 8 by rw [extract_bits _ _ _ (by omega)]; congr 1; omega)
      have hE : (bitsL (T.extract (8 * k) (8 * k + 8))).length = 8 := by rw [HE.out]; simp [bitsL_len]; omega
      have HB8 := hid (numByte (!(o == 0)) _ hE)
      obtain ⟨Z, hZ⟩ : ∃ Z, Z = M.num (M.dir (!(o == 0)) (bitsL (T.extract (8 * k) (8 * k + 8)))) := ⟨_, rfl⟩
      have hZb : Z < 256 := by rw [hZ]; have := M.num_lt (M.dir (!(o == 0)) (bitsL (T.extract (8 * k) (8 * k + 8)))); rw [M.dir_length, hE] at this; exact this
      have HC := hid (show ∀ w, Calls Try.prog 74 #[.int .i64 o, .string (T.extract (8 * k) (8 * k + 8))] w (Same (.int .i64 (Z : Nat)) w) by intro w; rw [hZ]; exact c_l1Number o _ w hl HX.out)
      have HZ := hid hZ
      clear hZ hE hl
      have hcell := own_cell hown k hlt
      have hfr := hown.frozenAt k
      have hsl := slice_str (P := Try.prog) Try.underlying9 T (8 * (k : Int)) (8 * (k : Int) + 8) (8 * k) (8 * k + 8) (by omega) (by omega) (by omega) (by omega)
      go_wp2_with (go_at_call 74; refine (HC.out _).mono ?_; rintro e w' ⟨rfl, rfl⟩)
      have hst := own_store hown (by rw [M.packN_length]) hlt (M.byteOf (!(o == 0)) (bitsL (T.extract (8 * k) (8 * k + 8)))) Z (by rw [HZ.out]; exact HB8.out)
      go_roundw
      case rel => exact ⟨k + 1, by omega, by go_num, by rw [packN_snoc, ← HE.out]; exact hst.1, by (repeat (first | with_reducible (first | assumption | exact Below.refl _ _ | refine bel_alloc ?_ _ | refine bel_drew ?_ | refine bel_drewN ?_ _ | refine bel_set ?_ (by first | omega | (simp; done) | (simp; omega)) _ | refine bel_trans ?_ (by assumption)) | assumption | refine bel_trans ?_ (by assumption)))⟩
      case measure => simp [intOf]; omega
    · have hcv := run_str (l := M.pack (!(o == 0)) (bitsL s)) Try.underlying22 Try.underlying5 Try.underlying9 (show wr.ownsRow w.heap.size 5 1 (.slice (some ⟨w.heap.size, 0, none⟩) N N) N ((M.pack (!(o == 0)) (bitsL s)).map vb) by
        have e : M.packN (!(o == 0)) k (bitsL T) ++ List.replicate (N - k) (0 : UInt8) = M.pack (!(o == 0)) (bitsL s) := by
          rw [show N - k = 0 from by omega, HB.out, ← M.pack_pad (!(o == 0)) (bitsL s), M.pack, M.pad_length, bitsL_len, ← HN.out, show (8 * N + 7) / 8 = N from by omega, show k = N from by omega]
          simp
        rw [← e]; exact hown)
      go_wp2
      go_ret
      exact ⟨rfl, by (repeat (first | with_reducible (first | assumption | exact Below.refl _ _ | refine bel_alloc ?_ _ | refine bel_drew ?_ | refine bel_drewN ?_ _ | refine bel_set ?_ (by first | omega | (simp; done) | (simp; omega)) _ | refine bel_trans ?_ (by assumption)) | assumption | refine bel_trans ?_ (by assumption)))⟩

def packS (o : Int) (s : ByteArray) : ByteArray := str (M.pack (o == 1) (bitsL s))
def packOk (o : Int) (s : ByteArray) : Bool := orderOk o && bitsOk s
theorem bitsOk_size {s : ByteArray} (h : bitsOk s = true) : s.size ≤ 32000 := by simp only [bitsOk, Bool.and_eq_true, decide_eq_true_eq] at h; exact h.1
theorem numK_byteOf (h : Bool) (l : List Bool) (hl : l.length ≤ 8) : ((M.numK h 8 l : Nat) : Int) = ((M.byteOf h l).toNat : Int) ∧ M.numK h 8 l < 256 := by
  have h1 := M.numK_lt h 8 l hl
  refine ⟨?_, h1⟩
  have e : M.byteOf h l = UInt8.ofNat (M.numK h 8 l) := by rw [M.numK_byte]; rfl
  rw [e, UInt8.toNat_ofNat']; omega
end

section
open Go.ChangeShapes Go.WideShapes Go.ChangeAt Go.RowKit Go.Joins
set_option linter.unusedVariables false

def stOk (o : Int) (s : ByteArray) : Bool := orderOk o && decide (s.size ≤ 4000)
theorem stOk_iff {o : Int} {s : ByteArray} : stOk o s = true ↔ orderOk o = true ∧ s.size ≤ 4000 := by simp [stOk]

def unpackL (o : Int) (s : ByteArray) : List UInt8 := M.asc (M.unpack (o == 1) s.data.toList)
theorem unpack_snoc (h : Bool) (s : ByteArray) (k : Nat) (hk : k < s.size) : M.asc (M.unpack h (s.data.toList.take (k + 1))) = M.asc (M.unpack h (s.data.toList.take k)) ++ M.codeBits h (s[k]).toNat 8 := by
  rw [take_snoc s k hk]; simp [M.unpack, M.asc, M.codeBits, M.byteBits]
end
end Go.Proofs.Ytlekjmgjnnljcaa
