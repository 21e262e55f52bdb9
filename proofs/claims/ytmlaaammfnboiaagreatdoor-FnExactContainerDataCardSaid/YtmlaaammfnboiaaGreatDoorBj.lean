/- Contracts of DataFits and BitsValid in both programs. No condition but that a string has a length. Contracts of CodeBits, BitsCode, ReverseBits in both programs, and of what they call. Contracts of the loops that append bits. Contracts of CodeBits, BitsCode and ReverseBits in both programs, and of what they call. Contracts of BitsCode, ReverseBits and the model's CodeBits, and of what they call. Contracts of ReverseBits in both programs. Contracts of PackBits in both programs, and of what it calls. Contracts of UnpackBits in both programs, and of what they call. -/
import Derived.Test.YtmlaaammfnboiaaGreatDoorBa
namespace Go.Proofs.YtmlaaammfnboiaaGreatDoor
section
open Go.ChangeShapes Go.WideShapes Go.ChangeAt Go.RowKit Go.Joins
set_option linter.unusedVariables false

def ltc (c : Int) (x : UInt8) : Bool := decide ((x.toNat : Int) < c)
def dataFits (o l m : Int) (s : ByteArray) : Bool := setOk o l m && decide (s.size ≤ 2000) && s.data.toList.all (ltc (pow2 l))

def isBit (x : UInt8) : Bool := x == 48 || x == 49
def bitsOk (s : ByteArray) : Bool := decide (s.size ≤ 32000) && s.data.toList.all isBit

theorem c_DataFits (o l m : Int) (s : ByteArray) (w : World) (hs : s.size ≤ maxLen) : Calls Tryz.prog 88 #[.agg #[.int .i64 o, .int .i64 l, .int .i64 m], .string s] w fun e w' => e = .returned (.bool (dataFits o l m s)) ∧ Below w.heap.size w w' := by
 unfold maxLen at hs
 cases h : setOk o l m with
 | false =>
  go_enter Tryz.func88, Tryz.ntmps88
  go_wp2_with (go_at_call 86; refine (c_SettingValid _ _ _ _).mono ?_; rintro e w1 ⟨rfl, hb1⟩; have hc1 := bcell hb1; have hz1_0 : w.heap.size < w1.heap.size := (by have := hb1.size; first | omega | (simp at this; omega)))
  go_ret
  exact ⟨ret_bool (by simp [dataFits, h]), by exact obB⟩
 | true =>
  by_cases h2 : s.size ≤ 2000
  ·obtain ⟨_, ⟨h3, h4⟩, _⟩ := setOk_iff.1 h
   have hp := pow2_bd (n := l) (by omega)
   have HF := hid (show dataFits o l m s = s.data.toList.all (ltc (pow2 l)) by simp [dataFits, h, h2])
   have hd : decide ((2000 : Int) < (s.size : Int)) = false := by simp; omega
   go_enter Tryz.func88, Tryz.ntmps88
   go_wp2_with (first | (go_at_call 86; refine (c_SettingValid _ _ _ _).mono ?_; rintro e w1 ⟨rfl, hb1⟩; have hc1 := bcell hb1; have hz1_0 : w.heap.size < w1.heap.size := (by have := hb1.size; first | omega | (simp at this; omega))) | (go_at_call 90; refine (c_ClearCode_yes _ _ _ _ h).mono ?_; rintro e w2 ⟨rfl, hb2⟩; have hc2 := bcell hb2))
   go_loop [19] (fun i => ∃ k : Nat, k ≤ s.size ∧ i = .int .i64 k ∧ Hid ((s.data.toList.take k).all (ltc (pow2 l)) = true)) (fun i => s.size - (intOf i).toNat)
   case atStart => exact ⟨0, Nat.zero_le _, rfl, hid rfl⟩
   case round =>
    obtain ⟨k, hk, rfl, HK⟩ := hrel
    by_cases hlt : k < s.size
    ·have hb8 := byte_le s k hlt
     by_cases hb : ((s[k]).toNat : Int) < pow2 l
     ·go_wp2
      go_round
      case rel => exact ⟨k + 1, by omega, by go_num, hid (by rw [all_snoc s _ k hlt, HK.out]; simp [ltc, hb])⟩
      case measure => simp [intOf]; omega
     ·go_wp2
      go_ret
      exact ⟨ret_bool (by rw [HF.out, all_not s _ k hlt (by simp [ltc]; omega)]), by exact obB⟩
    ·go_wp2
     go_ret
     exact ⟨ret_bool (by rw [HF.out, ← all_whole s _ k (by omega), HK.out]), by exact obB⟩
  ·go_enter Tryz.func88, Tryz.ntmps88
   go_wp2_with (go_at_call 86; refine (c_SettingValid _ _ _ _).mono ?_; rintro e w1 ⟨rfl, hb1⟩; have hc1 := bcell hb1; have hz1_0 : w.heap.size < w1.heap.size := (by have := hb1.size; first | omega | (simp at this; omega)))
   go_ret
   exact ⟨ret_bool (by simp [dataFits]; omega), by exact obB⟩

set_option maxHeartbeats 1000000 in
theorem c_l1Fits (o l m : Int) (s : ByteArray) (w : World) (hs : s.size ≤ maxLen) (h3 : 1 ≤ l) (h4 : l ≤ 8) : Calls Tryz.prog 84 #[.agg #[.int .i64 o, .int .i64 l, .int .i64 m], .string s] w fun e w' => e = .returned (.bool (s.data.toList.all (ltc (pow2 l)))) ∧ Below w.heap.size w w' := by
 unfold maxLen at hs
 have hp := pow2_bd (n := l) (by omega)
 go_enter Tryz.func84, Tryz.ntmps84
 go_wp2_with fail
 go_loopw [5] (fun i wr => ∃ k : Nat, k ≤ s.size ∧ i = .int .i64 k ∧ Hid ((s.data.toList.take k).all (ltc (pow2 l)) = true) ∧ Blk wr w.heap.size 28 #[.int .i64 o, .int .i64 l, .int .i64 m] ∧ Below w.heap.size w wr) (fun i _ => s.size - (intOf i).toNat)
 case atStart => exact ⟨0, Nat.zero_le _, rfl, hid rfl, Blk.new _ _ _, by exact obB⟩
 case round =>
  obtain ⟨k, hk, rfl, HK, hblk, hbl⟩ := hrel
  obtain ⟨q0, q1, q2⟩ := hblk.cells3
  by_cases hlt : k < s.size
  ·have hb8 := byte_le s k hlt
   have ew := IntWalk.i64_in ((s[k]).toNat : Int) (by omega)
   by_cases hb : ((s[k]).toNat : Int) < pow2 l
   ·go_wp2_with fail
    go_region_with (go_at_call 117; refine (c_l1Clear _ _ _ _ (by omega) (by omega)).mono ?_; rintro e w2 ⟨rfl, hb2⟩; have hc2 := bcell hb2)
    all_goals
     go_wp2
     go_roundw
     case rel => exact ⟨k + 1, by omega, by go_num, hid (by rw [all_snoc s _ k hlt, HK.out]; simp [ltc, hb]), Blk.on (w := wr.drew) hblk hb2, by exact obB⟩
     case measure => simp [intOf]; omega
   ·go_wp2_with fail
    go_region_with (go_at_call 117; refine (c_l1Clear _ _ _ _ (by omega) (by omega)).mono ?_; rintro e w2 ⟨rfl, hb2⟩; have hc2 := bcell hb2)
    all_goals
     go_wp2
     go_ret
     exact ⟨ret_bool (by rw [all_not s _ k hlt (by simp [ltc]; omega)]), by exact obB⟩
  ·go_wp2
   go_ret
   exact ⟨ret_bool (by rw [← all_whole s _ k (by omega), HK.out]), by exact obB⟩

theorem c_sDataFits (o l m : Int) (s : ByteArray) (w : World) (hs : s.size ≤ maxLen) : Calls Tryz.prog 60 #[.agg #[.int .i64 o, .int .i64 l, .int .i64 m], .string s] w fun e w' => e = .returned (.bool (dataFits o l m s)) ∧ Below w.heap.size w w' := by
 have hs2 := hs
 unfold maxLen at hs2
 cases h : setOk o l m with
 | false =>
  go_enter Tryz.func60, Tryz.ntmps60
  go_wp2_with (go_at_call 83; refine (c_sSettingValid _ _ _ _).mono ?_; rintro e w1 ⟨rfl, hb1⟩; have hc1 := bcell hb1; have hz1_0 : w.heap.size < w1.heap.size := (by have := hb1.size; first | omega | (simp at this; omega)))
  go_ret
  exact ⟨ret_bool (by simp [dataFits, h]), by exact obB⟩
 | true =>
  by_cases h2 : s.size ≤ 2000
  ·obtain ⟨_, ⟨h3, h4⟩, _⟩ := setOk_iff.1 h
   go_enter Tryz.func60, Tryz.ntmps60
   go_wp2_with (first | (go_at_call 83; refine (c_sSettingValid _ _ _ _).mono ?_; rintro e w1 ⟨rfl, hb1⟩; have hc1 := bcell hb1; have hz1_0 : w.heap.size < w1.heap.size := (by have := hb1.size; first | omega | (simp at this; omega))) | (go_at_call 84; refine (c_l1Fits _ _ _ _ _ hs (by omega) (by omega)).mono ?_; rintro e w2 ⟨rfl, hb2⟩; have hc2 := bcell hb2))
   go_ret
   exact ⟨ret_bool (by simp [dataFits, h, h2]), by exact obB⟩
  ·go_enter Tryz.func60, Tryz.ntmps60
   go_wp2_with (first | (go_at_call 83; refine (c_sSettingValid _ _ _ _).mono ?_; rintro e w1 ⟨rfl, hb1⟩; have hc1 := bcell hb1; have hz1_0 : w.heap.size < w1.heap.size := (by have := hb1.size; first | omega | (simp at this; omega))) | (go_at_call 84; refine (c_l1Fits _ _ _ _ _ hs (by omega) (by omega)).mono ?_; rintro e w2 ⟨rfl, hb2⟩; have hc2 := bcell hb2))
   go_ret
   exact ⟨ret_bool (by simp [dataFits, h, h2]), by exact obB⟩
end

section
open Go.ChangeShapes Go.WideShapes Go.ChangeAt Go.RowKit Go.Joins
set_option linter.unusedVariables false

def place (o i width : Int) : Int := if o = 1 then width - 1 - i else i

theorem c_place (o i width : Int) (w : World) (h0 : 0 ≤ i) (h1 : i < width) (h2 : width ≤ 64) : Calls Tryz.prog 175 #[.int .i64 o, .int .i64 i, .int .i64 width] w (Same (.int .i64 (place o i width)) w) := by
 by_cases h : o = 1
 ·subst h
  go_enter Tryz.func175, Tryz.ntmps175
  go_wp2
  go_ret
  exact ⟨ret_int (by simp [place]), rfl⟩
 ·go_enter Tryz.func175, Tryz.ntmps175
  go_wp2
  go_ret
  exact ⟨ret_int (by simp [place, h]), rfl⟩

/-- a binary digit -/
def dgI (n p : Int) : Int := ((n / 2 ^ p.toNat) % 2)
theorem dgI_bd (n p : Int) : 0 ≤ dgI n p ∧ dgI n p ≤ 1 := by unfold dgI; omega
theorem and_one {x : Int} (h0 : 0 ≤ x) (h1 : x ≤ 9223372036854775807) : bits .and .i64 x 1 = x % 2 := by
 have := (bits_nat .i64 63 (by decide) (fun n h0 h1 => IntWalk.i64_in n (by omega)) x.toNat 1 (by omega) (by omega)).1
 rw [show ((x.toNat : Nat) : Int) = x from by omega, Nat.and_one_is_mod] at this
 exact this.trans (by omega)
theorem div_pow_bd {n : Int} (k : Nat) (h0 : 0 ≤ n) (h1 : n ≤ 9223372036854775807) : 0 ≤ n / 2 ^ k ∧ n / 2 ^ k ≤ 9223372036854775807 := by
 have hp : (0 : Int) < 2 ^ k := by exact_mod_cast Nat.pow_pos (n := k) (by omega : 0 < 2)
 exact ⟨Int.ediv_nonneg h0 (by omega), Int.le_trans (Int.ediv_le_self _ h0) h1⟩
/-- the first k digits, as letters -/
def dl (o n width : Int) (k : Nat) : List UInt8 := (List.range k).map fun (i : Nat) => M.chr (dgI n (place o i width) == 1)
theorem dl_succ (o n width : Int) (k : Nat) : dl o n width (k + 1) = dl o n width k ++ [M.chr (dgI n (place o k width) == 1)] := by simp [dl, List.range_succ]
theorem chr_dg (n p : Int) : (48 + dgI n p) = ((M.chr (dgI n p == 1)).toNat : Int) := by
 have := dgI_bd n p
 rcases (show dgI n p = 0 ∨ dgI n p = 1 from by omega) with h | h <;> rw [h] <;> rfl

theorem c_digit (o n i width : Int) (w : World) (hn : 0 ≤ n) (hn2 : n ≤ 9223372036854775807) (h0 : 0 ≤ i) (h1 : i < width) (h2 : width ≤ 64) : Calls Tryz.prog 168 #[.int .i64 o, .int .i64 n, .int .i64 i, .int .i64 width] w (Same (.int .i64 (dgI n (place o i width))) w) := by
 have hp : 0 ≤ place o i width ∧ place o i width ≤ 63 := by unfold place; split <;> omega
 go_enter Tryz.func168, Tryz.ntmps168
 go_wp2_with (go_at_call 175; refine (c_place _ _ _ _ h0 h1 h2).mono ?_; rintro e w' ⟨rfl, rfl⟩)
 go_ret
 have hd := div_pow_bd (place o i width).toNat hn hn2
 exact ⟨ret_int (and_one hd.1 hd.2), rfl⟩
end

section
open Go.ChangeShapes Go.WideShapes Go.ChangeAt Go.RowKit Go.Joins
set_option linter.unusedVariables false

theorem Tryz.info_u8 : (Tryz.prog.info? 5).map (fun i => (i.zero, i.size, i.bytes)) = some (some (.int .u8 0), 1, 1) := by kernel_rfl

theorem c_appendNumber (o n width : Int) (B : Nat) (v : Value) (m : Nat) (l : List UInt8) (w : World) (hn : 0 ≤ n) (hn2 : n ≤ 9223372036854775807) (hw0 : 0 ≤ width) (hw1 : width ≤ 16) (hm : m ≤ 100000) (hB : B ≤ w.heap.size) (hown : w.ownsRow B 5 1 v m (l.map vb)) :
  Calls Tryz.prog 157 #[.int .i64 o, v, .int .i64 n, .int .i64 width] w fun e w' => ∃ v', e = .returned v' ∧ w'.ownsRow B 5 1 v' (m + width.toNat) ((l ++ dl o n width width.toNat).map vb) ∧ Below B w w' := by
 go_enter Tryz.func157, Tryz.ntmps157
 go_wp2_with fail
 go_loopw [1, 11] (fun v i wr => ∃ k : Nat, k ≤ width ∧ i = .int .i64 k ∧ wr.ownsRow B 5 1 v (m + k) ((l ++ dl o n width k).map vb) ∧ Below B w wr) (fun _ i _ => (width - intOf i).toNat)
 case atStart => exact ⟨0, hw0, rfl, by simpa [dl] using hown, Below.refl _ _⟩
 case round =>
  obtain ⟨k, hk, rfl, hown, hbl⟩ := hrel
  by_cases hlt : k < width
  ·have hp : 0 ≤ place o k width ∧ place o k width ≤ 63 := by unfold place; split <;> omega
   have hdg := dgI_bd n (place o k width)
   have hsz := hbl.size
   go_wp2_with (first | (go_at_call 168; refine (c_digit _ _ _ _ _ hn hn2 (by omega) hlt (by omega)).mono ?_; rintro e w' ⟨rfl, rfl⟩) | (at_builtin; refine app_byte rfl _ _ 98 rfl B 5 Tryz.underlying98 Tryz.info_u8 _ _ _ rfl hown _ _ (chr_dg _ _) 1 rfl (by omega) (by omega) ?_; intro v1 w1 hown1 hbl1 hg1))
   go_roundw
   case rel => exact ⟨k + 1, by omega, by go_num, by rw [dl_succ, ← List.append_assoc]; exact hown1, hbl.trans hbl1⟩
   case measure => simp [intOf]; omega
  ·obtain rfl : width = k := by omega
   go_wp2
   go_ret
   exact ⟨_, rfl, by simpa using hown, hbl⟩
end

section
open Go.ChangeShapes Go.WideShapes Go.ChangeAt Go.RowKit Go.Joins
set_option linter.unusedVariables false

def par (c : UInt8) : Bool := c.toNat % 2 == 1
theorem quiet_same {P : Program} {f : FuncId} {args : Array Value} {w : World} {n : Nat} {v : Value} (h : Calls P f args (w.drewN n) (Same v (w.drewN n))) : Calls P f args (w.drewN n) fun e w'' => e = .returned v ∧ ∃ m, w'' = w.drewN m :=
 h.mono fun _ _ ⟨he, hm⟩ => ⟨he, n, hm.symm⟩

theorem or_i64 (a b : Nat) (ha : a < 2 ^ 63) (hb : b < 2 ^ 63) : bits .or .i64 (a : Int) (b : Int) = ((a ||| b : Nat) : Int) :=
 (bits_nat .i64 63 (by decide) (fun n h0 h1 => IntWalk.i64_in n (by omega)) a b ha hb).2
theorem number_step (o width : Int) (ho : o = 0 ∨ o = 1) (k d : Nat) (bs : List Bool) (b : Bool) (hbs : bs.length = k) (hk : (k : Int) < width) (hw : width ≤ 16) (hd : d = b.toNat) :
  bits .or .i64 ((M.numK (o == 1) width.toNat bs : Nat) : Int) (wrap64 ((d : Int) * 2 ^ (place o k width).toNat)) = ((M.numK (o == 1) width.toNat (bs ++ [b]) : Nat) : Int) := by
 have h1 := M.numK_lt (o == 1) width.toNat bs (by omega)
 have h16 : (2 : Nat) ^ width.toNat ≤ 2 ^ 16 := Nat.pow_le_pow_right (by omega) (by omega)
 have hp : (place o k width).toNat ≤ 16 := by unfold place; split <;> omega
 have hpp : (2 : Nat) ^ (place o k width).toNat ≤ 2 ^ 16 := Nat.pow_le_pow_right (by omega) hp
 have hd1 : d ≤ 1 := by subst hd; cases b <;> simp
 have hm : d * 2 ^ (place o k width).toNat ≤ 2 ^ 16 := by
  rcases (show d = 0 ∨ d = 1 from by omega) with h | h <;> rw [h] <;> omega
 have e : (d : Int) * 2 ^ (place o k width).toNat = ((d * 2 ^ (place o k width).toNat : Nat) : Int) := by simp
 rw [e, IntWalk.wrap64_in _ (by omega), or_i64 _ _ (by omega) (by omega)]
 congr 1
 rcases ho with rfl | rfl
 ·have : (place 0 k width).toNat = bs.length := by simp [place, hbs]
  rw [this, hd]; exact (M.numK_snoc_low _ _ _).symm
 ·have : (place 1 k width).toNat = width.toNat - 1 - bs.length := by simp [place, hbs]; try omega
  rw [this, hd]; exact (M.numK_snoc_high _ _ _ (by omega)).symm
theorem par_toNat (c : UInt8) : c.toNat % 2 = (par c).toNat := by
 unfold par; rcases (show c.toNat % 2 = 0 ∨ c.toNat % 2 = 1 from by omega) with h | h <;> rw [h] <;> rfl

theorem c_number (o width : Int) (s : ByteArray) (w : World) (ho : o = 0 ∨ o = 1) (h0 : 0 ≤ width) (h1 : width ≤ 16) (hs : s.size ≤ width.toNat) : Calls Tryz.prog 166 #[.int .i64 o, .string s, .int .i64 width] w fun e w' => e = .returned (.int .i64 (M.numK (o == 1) width.toNat (s.data.toList.map par) : Nat)) ∧ Below w.heap.size w w' := by
 go_enter Tryz.func166, Tryz.ntmps166
 go_wp2_with fail
 go_loopw [7, 11] (fun n i wr => ∃ k : Nat, k ≤ s.size ∧ i = .int .i64 k ∧ n = .int .i64 (M.numK (o == 1) width.toNat ((s.data.toList.take k).map par) : Nat) ∧ Below w.heap.size w wr) (fun _ i _ => s.size - (intOf i).toNat)
 case atStart => exact ⟨0, by omega, rfl, by cases (o == 1) <;> simp [M.numK, M.num], by exact obB⟩
 case round =>
  obtain ⟨k, hk, rfl, rfl, hbl⟩ := hrel
  have hN := M.numK_lt (o == 1) width.toNat ((s.data.toList.take k).map par) (by simp; omega)
  by_cases hlt : k < s.size
  ·have hb8 := byte_le s k hlt
   have hp : 0 ≤ place o k width ∧ place o k width ≤ 63 := by unfold place; split <;> omega
   obtain ⟨d, hd, hd1⟩ : ∃ d : Nat, d = (s[k]).toNat % 2 ∧ d ≤ 1 := ⟨_, rfl, by omega⟩
   have eb : bits .and .u8 ((s[k]).toNat : Int) 1 = (d : Int) := by
    rw [show (1 : Int) = ((1 : Nat) : Int) from rfl, u8_and_nat _ _ (by omega) (by omega), Nat.and_one_is_mod, hd]
   have HD := hid hd
   clear hd
   have ew := IntWalk.i64_in (d : Int) (by omega)
   have HS := hid (number_step o width ho k d ((s.data.toList.take k).map par) (par s[k]) (by simp; omega) (by omega) h1 (by rw [HD.out, par_toNat]))
   have HT := hid (show (s.data.toList.take (k + 1)).map par = (s.data.toList.take k).map par ++ [par s[k]] by rw [take_snoc s k hlt]; simp)
   generalize M.numK (o == 1) width.toNat ((s.data.toList.take k).map par) = N at hN HS ⊢
   go_wp2_with fail
   go_quiet ((go_at_call 175; exact quiet_same (c_place _ _ _ _ (by omega) (by omega) (by omega))))
   go_wp2
   go_roundw
   case rel => exact ⟨k + 1, by omega, by go_num, by rw [HS.out, HT.out], by exact obB⟩
   case measure => simp [intOf]; omega
  ·go_wp2
   go_ret
   exact ⟨ret_int (by rw [List.take_of_length_le (by simp; omega)]), by exact obB⟩

theorem dl_codeBits (o n width : Int) (ho : o = 0 ∨ o = 1) (hn : 0 ≤ n) : dl o n width width.toNat = M.codeBits (o == 1) n.toNat width.toNat := by
 obtain ⟨m, rfl⟩ := Int.eq_ofNat_of_zero_le hn
 have hd : ∀ p : Int, (dgI m p == 1) = m.testBit p.toNat := by
  intro p
  rw [Nat.testBit_eq_decide_div_mod_eq]
  have e : dgI m p = ((m / 2 ^ p.toNat % 2 : Nat) : Int) := by simp [dgI]
  rw [e, Bool.eq_iff_iff, beq_iff_eq, decide_eq_true_iff]; omega
 rw [Int.toNat_natCast]
 rcases ho with rfl | rfl
 ·simp only [dl, M.codeBits, M.asc, M.dir, M.bitsOf_map]
  simp only [show ((0 : Int) == 1) = false from rfl, Bool.false_eq_true, if_false, List.map_map]
  apply List.map_congr_left
  intro i hi
  simp [hd, place]
 ·simp only [dl, M.codeBits, M.asc, M.dir, show ((1 : Int) == 1) = true from rfl, if_true, M.bitsOf_rev, List.map_map]
  apply List.map_congr_left
  intro i hi
  have : i < width.toNat := by simpa using hi
  simp only [hd, place, if_true, Function.comp]
  congr 2; omega

def codeBitsS (o n width : Int) : ByteArray := str (M.codeBits (o == 1) n.toNat width.toNat)
theorem orderOk_iff {o : Int} : orderOk o = true ↔ o = 0 ∨ o = 1 := by simp [orderOk]

theorem codeBits_len (h : Bool) (n k : Nat) : (M.codeBits h n k).length = k := by simp [M.codeBits, M.asc, M.dir_length, M.bitsOf_length]
theorem codeBits_succ (o n : Int) (k : Nat) (ho : o = 0 ∨ o = 1) (hn : 0 ≤ n) : M.codeBits (o == 1) n.toNat (k + 1) = if o = 0 then M.codeBits (o == 1) n.toNat k ++ [M.chr (n / 2 ^ k % 2 == 1)] else [M.chr (n / 2 ^ k % 2 == 1)] ++ M.codeBits (o == 1) n.toNat k := by
 obtain ⟨m, rfl⟩ := Int.eq_ofNat_of_zero_le hn
 have hd : ((m : Int) / 2 ^ k % 2 == 1) = m.testBit k := by
  rw [Nat.testBit_eq_decide_div_mod_eq]
  have e : (m : Int) / 2 ^ k % 2 = ((m / 2 ^ k % 2 : Nat) : Int) := by simp
  rw [e, Bool.eq_iff_iff, beq_iff_eq, decide_eq_true_iff]; omega
 rw [Int.toNat_natCast, hd]
 rcases ho with rfl | rfl
 ·simp [M.codeBits, M.dir, M.bitsOf_snoc, M.asc]
 ·simp [M.codeBits, M.dir, M.bitsOf_snoc, M.asc]

theorem c_l1Code (o n width : Int) (w : World) (ho : o = 0 ∨ o = 1) (hn : 0 ≤ n) (hn2 : n ≤ 9223372036854775807) (h0 : 0 ≤ width) (h1 : width ≤ 16) : Calls Tryz.prog 123 #[.int .i64 o, .int .i64 n, .int .i64 width] w fun e w' => e = .returned (.string (codeBitsS o n width)) ∧ Below w.heap.size w w' := by
 go_enter Tryz.func123, Tryz.ntmps123
 go_wp2_with fail
 go_loopw [7, 8] (fun t i wr => ∃ k : Nat, k ≤ width ∧ i = .int .i64 k ∧ t = .string (str (M.codeBits (o == 1) n.toNat k)) ∧ Below w.heap.size w wr) (fun _ i _ => (width - intOf i).toNat)
 case atStart => exact ⟨0, by omega, rfl, by cases (o == 1) <;> rfl, by exact obB⟩
 case round =>
  obtain ⟨k, hk, rfl, ht, hbl⟩ := hrel
  obtain ⟨T, hT⟩ : ∃ T, T = str (M.codeBits (o == 1) n.toNat k) := ⟨_, rfl⟩
  rw [← hT] at ht
  subst ht
  have hTs : T.size ≤ 16 := by rw [hT, str_size, codeBits_len]; omega
  have HT := hid hT
  clear hT
  by_cases hlt : k < width
  ·have hd := div_pow_bd k hn hn2
   have eb := and_one hd.1 hd.2
   have hch := chr_dg n k
   rw [dgI, Int.toNat_natCast] at hch
   have hcv := run_one (P := Tryz.prog) (w := wr) Tryz.underlying98 Tryz.underlying5 Tryz.underlying9 hch
   have HN := hid (codeBits_succ o n k ho hn)
   clear hch
   obtain ⟨C, hC⟩ : ∃ C, C = str [M.chr (n / 2 ^ k % 2 == 1)] := ⟨_, rfl⟩
   rw [← hC] at hcv
   have hCs : C.size ≤ 1 := by rw [hC, str_size]; simp
   have HC := hid hC
   clear hC
   by_cases hz : o = 0
   ·have eo := eq_yes hz
    have HZ := hid hz
    clear hz
    go_wp2
    go_roundw
    case rel => exact ⟨k + 1, by omega, by go_num, by rw [HT.out, HC.out, HN.out, if_pos HZ.out, str_append], by exact obB⟩
    case measure => simp [intOf]; omega
   ·have eo : (o == 0) = false := by simpa using hz
    go_wp2
    go_roundw
    case rel => exact ⟨k + 1, by omega, by go_num, by rw [HT.out, HC.out, HN.out, if_neg hz, str_append], by exact obB⟩
    case measure => simp [intOf]; omega
  ·go_wp2
   go_ret
   exact ⟨ret_str (by rw [HT.out, codeBitsS, show width.toNat = k from by omega]), by exact obB⟩

theorem bit_at {s : ByteArray} (h : s.data.toList.all isBit = true) (k : Nat) (hk : k < s.size) : ((s[k]).toNat : Int) = 48 + ((M.bit s[k]).toNat : Int) := by
 have e : s[k] ∈ s.data.toList := by
  have : s[k] = s.data.toList[k]'(by simpa using hk) := rfl
  rw [this]; exact List.getElem_mem _
 have h1 := List.all_eq_true.1 h _ e
 simp only [isBit, Bool.or_eq_true, beq_iff_eq] at h1
 rcases h1 with h1 | h1 <;> rw [h1] <;> rfl
theorem bits_get (s : ByteArray) (k : Nat) (hk : k < s.size) : (s.data.toList.map M.bit)[k]? = some (M.bit s[k]) := by
 rw [List.getElem?_map, List.getElem?_eq_getElem (by simpa using hk)]; rfl
def bitsL (s : ByteArray) : List Bool := s.data.toList.map M.bit
theorem bitsL_len (s : ByteArray) : (bitsL s).length = s.size := by simp [bitsL]

theorem c_l1Number (o : Int) (s : ByteArray) (w : World) (hs : s.size ≤ 16) (hb : s.data.toList.all isBit = true) : Calls Tryz.prog 115 #[.int .i64 o, .string s] w (Same (.int .i64 (M.num (M.dir (!(o == 0)) (bitsL s)) : Nat)) w) := by
 have HB := hid hb
 clear hb
 go_enter Tryz.func115, Tryz.ntmps115
 go_wp2_with fail
 go_loop [5, 6] (fun n i => ∃ k : Nat, k ≤ s.size ∧ i = .int .i64 k ∧ n = .int .i64 (M.hornerN (!(o == 0)) (bitsL s) k : Nat)) (fun _ i => s.size - (intOf i).toNat)
 case atStart => exact ⟨0, by omega, rfl, by rw [M.hornerN_zero]; rfl⟩
 case round =>
  obtain ⟨k, hk, rfl, ht⟩ := hrel
  have hN := M.hornerN_lt (!(o == 0)) (bitsL s) k (by rw [bitsL_len]; exact hk)
  have h16 : (2 : Nat) ^ k ≤ 2 ^ 16 := Nat.pow_le_pow_right (by omega) (by omega)
  by_cases hlt : k < s.size
  ·by_cases hz : o = 0
   ·have hj : s.size - 1 - k < s.size := by omega
    have hbt := bit_at HB.out _ hj
    have HS := hid (M.hornerN_low (bitsL s) k (M.bit s[s.size - 1 - k]) (by rw [bitsL_len]; exact hlt) (by rw [bitsL_len]; exact bits_get s _ hj))
    have e0 : (!(o == 0)) = false := by simp [hz]
    rw [e0] at ht hN ⊢
    obtain ⟨N, hNe⟩ : ∃ N, N = M.hornerN false (bitsL s) k := ⟨_, rfl⟩
    rw [← hNe] at ht hN HS
    subst ht
    obtain ⟨d, hd⟩ : ∃ d, d = (M.bit s[s.size - 1 - k]).toNat := ⟨_, rfl⟩
    rw [← hd] at hbt HS
    have hd1 : d ≤ 1 := by subst hd; cases M.bit s[s.size - 1 - k] <;> simp
    have eo := eq_yes hz
    have hN2 : N ≤ 65536 := by omega
    clear hNe hd hz e0 h16
    have hbd : 48 ≤ ((s[s.size - 1 - k]).toNat : Int) ∧ ((s[s.size - 1 - k]).toNat : Int) ≤ 49 := by omega
    have HT := hid hbt
    clear hbt
    go_wp2
    go_round
    case rel => exact ⟨k + 1, by omega, by go_num, vint (by rw [HT.out, HS.out]; omega)⟩
    case measure => simp [intOf]; omega
   ·have hbt := bit_at HB.out _ hlt
    have HS := hid (M.hornerN_high (bitsL s) k (M.bit s[k]) (bits_get s _ hlt))
    have e0 : (!(o == 0)) = true := by simp [hz]
    rw [e0] at ht hN ⊢
    obtain ⟨N, hNe⟩ : ∃ N, N = M.hornerN true (bitsL s) k := ⟨_, rfl⟩
    rw [← hNe] at ht hN HS
    subst ht
    obtain ⟨d, hd⟩ : ∃ d, d = (M.bit s[k]).toNat := ⟨_, rfl⟩
    rw [← hd] at hbt HS
    have hd1 : d ≤ 1 := by subst hd; cases M.bit s[k] <;> simp
    have eo : (o == 0) = false := by simpa using hz
    have hN2 : N ≤ 65536 := by omega
    clear hNe hd e0 h16
    have hbd : 48 ≤ ((s[k]).toNat : Int) ∧ ((s[k]).toNat : Int) ≤ 49 := by omega
    have HT := hid hbt
    clear hbt
    go_wp2
    go_round
    case rel => exact ⟨k + 1, by omega, by go_num, vint (by rw [HT.out, HS.out]; omega)⟩
    case measure => simp [intOf]; omega
  ·subst ht
   have hN2 : M.hornerN (!(o == 0)) (bitsL s) k ≤ 65536 := by omega
   have HK := hid (show M.hornerN (!(o == 0)) (bitsL s) k = M.num (M.dir (!(o == 0)) (bitsL s)) by rw [show k = (bitsL s).length from by rw [bitsL_len]; omega, M.hornerN_full])
   go_wp2
   go_ret
   exact ⟨ret_int (by rw [HK.out]), rfl⟩
end

section
open Go.ChangeShapes Go.WideShapes Go.ChangeAt Go.RowKit Go.Joins
set_option linter.unusedVariables false

theorem par_bits {s : ByteArray} (h : bitsOk s = true) : s.data.toList.map par = bitsL s := by
 unfold bitsL
 apply List.map_congr_left
 intro c hc
 simp only [bitsOk, Bool.and_eq_true] at h
 have h1 := List.all_eq_true.1 h.2 _ hc
 simp only [isBit, Bool.or_eq_true, beq_iff_eq] at h1
 rcases h1 with rfl | rfl <;> rfl
theorem not_zero {o : Int} (h : orderOk o = true) : (!(o == 0)) = (o == 1) := by
 rcases orderOk_iff.1 h with rfl | rfl <;> rfl

end

section
open Go.ChangeShapes Go.WideShapes Go.ChangeAt Go.RowKit Go.Joins
set_option linter.unusedVariables false

end

section
open Go.ChangeShapes Go.WideShapes Go.ChangeAt Go.RowKit Go.Joins
set_option linter.unusedVariables false

theorem extract_bits (s : ByteArray) (a b : Nat) (hb : b ≤ s.size) : bitsL (s.extract a b) = ((bitsL s).drop a).take (b - a) := by
 simp [bitsL, List.map_drop, List.map_take]
theorem extract_all {s : ByteArray} (h : s.data.toList.all isBit = true) (a b : Nat) : (s.extract a b).data.toList.all isBit = true := by
 rw [List.all_eq_true] at *
 intro x hx
 refine h x ?_
 simp at hx
 exact List.mem_of_mem_drop (List.mem_of_mem_take hx)

theorem Tryz.info_u8b : (Tryz.prog.info? 5).map (fun i => (i.zero, i.size, i.bytes)) = some (some (.int .u8 0), 1, 1) := by kernel_rfl

theorem c_bytesFor (n : Int) (w : World) (h0 : 0 ≤ n) (h1 : n ≤ 1000000000) : Calls Tryz.prog 141 #[.int .i64 n] w (Same (.int .i64 ((n + 7) / 8)) w) := by
 go_enter Tryz.func141, Tryz.ntmps141
 go_wp2
 go_ret
 exact ⟨ret_int (by omega), rfl⟩

end

section
open Go.ChangeShapes Go.WideShapes Go.ChangeAt Go.RowKit Go.Joins
set_option linter.unusedVariables false

def stOk (o : Int) (s : ByteArray) : Bool := orderOk o && decide (s.size ≤ 4000)
theorem stOk_iff {o : Int} {s : ByteArray} : stOk o s = true ↔ orderOk o = true ∧ s.size ≤ 4000 := by simp [stOk]

theorem c_streamReadable (o : Int) (s : ByteArray) (w : World) (hs : s.size ≤ maxLen) : Calls Tryz.prog 163 #[.int .i64 o, .string s] w (Same (.bool (stOk o s)) w) := by
 unfold maxLen at hs
 cases h1 : orderOk o with
 | false =>
  go_enter Tryz.func163, Tryz.ntmps163
  go_wp2_with (go_at_call 128; refine (c_valid _ _).mono ?_; rintro e w' ⟨rfl, rfl⟩)
  go_ret
  exact ⟨ret_bool (by simp [stOk, h1]), rfl⟩
 | true =>
  go_enter Tryz.func163, Tryz.ntmps163
  go_wp2_with (go_at_call 128; refine (c_valid _ _).mono ?_; rintro e w' ⟨rfl, rfl⟩)
  go_ret
  exact ⟨ret_bool (by rw [Bool.eq_iff_iff]; simp [stOk, h1]; omega), rfl⟩

def unpackL (o : Int) (s : ByteArray) : List UInt8 := M.asc (M.unpack (o == 1) s.data.toList)
theorem unpack_snoc (h : Bool) (s : ByteArray) (k : Nat) (hk : k < s.size) : M.asc (M.unpack h (s.data.toList.take (k + 1))) = M.asc (M.unpack h (s.data.toList.take k)) ++ M.codeBits h (s[k]).toNat 8 := by
 rw [take_snoc s k hk]; simp [M.unpack, M.asc, M.codeBits, M.byteBits]

theorem c_UnpackBits_no (o : Int) (s : ByteArray) (w : World) (hs : s.size ≤ maxLen) (h : stOk o s = false) : Calls Tryz.prog 139 #[.int .i64 o, .string s] w fun e w' => e = .returned (.tuple #[.string ByteArray.empty, .bool false]) ∧ Below w.heap.size w w' := by
 go_enter Tryz.func139, Tryz.ntmps139
 go_wp2_with (go_at_call 163; refine (c_streamReadable _ _ _ hs).mono ?_; rintro e w' ⟨rfl, rfl⟩)
 go_ret2
 exact ⟨rfl, by exact obB⟩

set_option maxHeartbeats 1000000 in
theorem c_UnpackBits_yes (o : Int) (s : ByteArray) (w : World) (hs : s.size ≤ maxLen) (h : stOk o s = true) : Calls Tryz.prog 139 #[.int .i64 o, .string s] w fun e w' => e = .returned (.tuple #[.string (str (unpackL o s)), .bool true]) ∧ Below w.heap.size w w' := by
 obtain ⟨h1, h2⟩ := stOk_iff.1 h
 have HO := hid (orderOk_iff.1 h1)
 go_enter Tryz.func139, Tryz.ntmps139
 go_wp2_with (first | (go_at_call 163; refine (c_streamReadable _ _ _ hs).mono ?_; rintro e w' ⟨rfl, rfl⟩) | (at_make; refine make_bytes0 rfl _ _ 98 rfl w.heap.size 5 Tryz.underlying98 Tryz.info_u8b .i64 .i64 _ (s.size * 8) rfl rfl (by omega) (by omega) (Nat.le_refl _) ?_; rintro v1 w1 rfl hown1 hb1 hg1))
 go_loopw [6, 18] (fun v i wr => ∃ k : Nat, k ≤ s.size ∧ i = .int .i64 k ∧ wr.ownsRow w.heap.size 5 1 v (8 * k) ((M.asc (M.unpack (o == 1) (s.data.toList.take k))).map vb) ∧ Below w.heap.size w wr) (fun _ i _ => (s.size - intOf i).toNat)
 case atStart => exact ⟨0, Nat.zero_le _, rfl, by simpa [M.unpack, M.asc] using hown1, by exact obB⟩
 case round =>
  obtain ⟨k, hk, rfl, hown, hbl⟩ := hrel
  have hsz := hbl.size
  by_cases hlt : k < s.size
  ·have hb8 := byte_le s k hlt
   have HU := hid (unpack_snoc (o == 1) s k hlt)
   have HD := hid (show dl o ((s[k]).toNat : Int) 8 8 = M.codeBits (o == 1) (s[k]).toNat 8 from dl_codeBits o ((s[k]).toNat : Int) 8 HO.out (by omega))
   go_wp2_with (go_at_call 157; refine (c_appendNumber o _ 8 w.heap.size _ (8 * k) _ _ (by omega) (by omega) (by decide) (by decide) (by omega) (by omega) hown).mono ?_; rintro e w2 ⟨v2, rfl, hown2, hb2⟩)
   go_roundw
   case rel => exact ⟨k + 1, by omega, by go_num, by rw [HU.out, ← HD.out]; exact hown2, hbl.trans hb2⟩
   case measure => simp [intOf]; omega
  ·have hcv := run_str Tryz.underlying98 Tryz.underlying5 Tryz.underlying9 hown
   have HK := hid (show M.asc (M.unpack (o == 1) (s.data.toList.take k)) = unpackL o s by rw [List.take_of_length_le (by simp; omega)]; rfl)
   go_wp2
   go_ret2
   exact ⟨by rw [← HK.out]; rfl, by exact obB⟩

set_option maxHeartbeats 1000000 in
theorem c_l1Unpack (o : Int) (s : ByteArray) (w : World) (ho : o = 0 ∨ o = 1) (hs : s.size ≤ 4000) : Calls Tryz.prog 113 #[.int .i64 o, .string s] w fun e w' => e = .returned (.string (str (unpackL o s))) ∧ Below w.heap.size w w' := by
 have HO := hid ho
 clear ho
 go_enter Tryz.func113, Tryz.ntmps113
 go_wp2_with (at_make; refine make_bytes0 rfl _ _ 98 rfl w.heap.size 5 Tryz.underlying98 Tryz.info_u8b .i64 .i64 _ (8 * s.size) rfl rfl (by omega) (by omega) (Nat.le_refl _) ?_; rintro v1 w1 rfl hown1 hb1 hg1)
 go_loopw [5, 6] (fun v i wr => ∃ k : Nat, k ≤ s.size ∧ i = .int .i64 k ∧ wr.ownsRow w.heap.size 5 1 v (8 * k) ((M.asc (M.unpack (o == 1) (s.data.toList.take k))).map vb) ∧ Below w.heap.size w wr) (fun _ i _ => (s.size - intOf i).toNat)
 case atStart => exact ⟨0, Nat.zero_le _, rfl, by simpa [M.unpack, M.asc] using hown1, by exact obB⟩
 case round =>
  obtain ⟨k, hk, rfl, hown, hbl⟩ := hrel
  have hsz := hbl.size
  by_cases hlt : k < s.size
  ·have hb8 := byte_le s k hlt
   have HU := hid (unpack_snoc (o == 1) s k hlt)
   obtain ⟨C, hC⟩ : ∃ C, C = codeBitsS o ((s[k]).toNat : Int) 8 := ⟨_, rfl⟩
   have hCs : C.size = 8 := by rw [hC, codeBitsS, str_size, codeBits_len]; rfl
   have HC := hid (show ∀ w, Calls Tryz.prog 123 #[.int .i64 o, .int .i64 ((s[k]).toNat : Int), .int .i64 8] w fun e w' => e = .returned (.string C) ∧ Below w.heap.size w w' by intro w; rw [hC]; exact c_l1Code o _ 8 w HO.out (by omega) (by omega) (by decide) (by decide))
   have HE := hid (show C.data.toList = M.codeBits (o == 1) (s[k]).toNat 8 by rw [hC, codeBitsS, str_list]; rfl)
   have HS := hid hCs
   have hCs2 : C.size ≤ 8 := by omega
   clear hC hCs
   go_wp2_with (first | (go_at_call 123; refine (HC.out _).mono ?_; rintro e w2 ⟨rfl, hb2⟩; have hown2 := own_below hown hb2; have hsz2 := hb2.size) | (at_builtin; refine app_str rfl _ _ 98 9 rfl w.heap.size 5 Tryz.underlying98 Tryz.underlying9 Tryz.info_u8b _ _ _ rfl hown2 C rfl (by omega) (by omega) ?_; intro v3 w3 hown3 hb3 hg3))
   go_roundw
   case rel => exact ⟨k + 1, by omega, by go_num, by rw [HU.out, ← HE.out]; have := hown3; rw [HS.out] at this; exact this, (hbl.trans (hb2.mono (by omega))).trans hb3⟩
   case measure => simp [intOf]; omega
  ·have hcv := run_str Tryz.underlying98 Tryz.underlying5 Tryz.underlying9 hown
   have HK := hid (show M.asc (M.unpack (o == 1) (s.data.toList.take k)) = unpackL o s by rw [List.take_of_length_le (by simp; omega)]; rfl)
   go_wp2
   go_ret
   exact ⟨by rw [← HK.out]; rfl, by exact obB⟩
end
end Go.Proofs.YtmlaaammfnboiaaGreatDoor
