/- Contracts of DataFits and BitsValid in both programs. No condition but that a string has a length. Contracts of CodeBits, BitsCode, ReverseBits in both programs, and of what they call. Contracts of the loops that append bits. Contracts of CodeBits, BitsCode and ReverseBits in both programs, and of what they call. Contracts of BitsCode, ReverseBits and the model's CodeBits, and of what they call. Contracts of ReverseBits in both programs. Contracts of PackBits in both programs, and of what it calls. Contracts of UnpackBits in both programs, and of what they call. -/
import Derived.Test.YtmfnfheahehpcaaGreatDoorBa
namespace Go.Proofs.YtmfnfheahehpcaaGreatDoor
section
open Go.ChangeShapes Go.WideShapes Go.ChangeAt Go.RowKit Go.Joins
set_option linter.unusedVariables false

def ltc (c : Int) (x : UInt8) : Bool := decide ((x.toNat : Int) < c)
def dataFits (o l m : Int) (s : ByteArray) : Bool := setOk o l m && decide (s.size ≤ 2000) && s.data.toList.all (ltc (pow2 l))

def isBit (x : UInt8) : Bool := x == 48 || x == 49
def bitsOk (s : ByteArray) : Bool := decide (s.size ≤ 32000) && s.data.toList.all isBit

theorem isBit_yes {x : UInt8} (h : ((x.toNat : Int) = 48 ∨ (x.toNat : Int) = 49)) : isBit x = true := by
  have : x = 48 ∨ x = 49 := by
    rcases h with h | h
    · left; apply UInt8.toNat_inj.1; simp; omega
    · right; apply UInt8.toNat_inj.1; simp; omega
  rcases this with rfl | rfl <;> rfl
theorem isBit_no {x : UInt8} (h : ¬((x.toNat : Int) = 48 ∨ (x.toNat : Int) = 49)) : isBit x = false := by
  have h1 : x ≠ 48 := fun e => h (by subst e; left; rfl)
  have h2 : x ≠ 49 := fun e => h (by subst e; right; rfl)
  simp [isBit, h1, h2]

theorem c_BitsValid (s : ByteArray) (w : World) (hs : s.size ≤ maxLen) : Calls Tryz.prog 109 #[.string s] w (Same (.bool (bitsOk s)) w) := by
  unfold maxLen at hs
  by_cases h : s.size ≤ 32000
  · have hd : decide ((32000 : Int) < (s.size : Int)) = false := by simp; omega
    have HF := hid (show bitsOk s = s.data.toList.all isBit by simp [bitsOk, h])
    go_enter Tryz.func109, Tryz.ntmps109
    go_wp2
    go_loop [9] (fun i => ∃ k : Nat, k ≤ s.size ∧ i = .int .i64 k ∧ Hid ((s.data.toList.take k).all isBit = true)) (fun i => s.size - (intOf i).toNat)
    case atStart => exact ⟨0, Nat.zero_le _, rfl, hid rfl⟩
    case round =>
      obtain ⟨k, hk, rfl, HK⟩ := hrel
      by_cases hlt : k < s.size
      · have hb8 := byte_le s k hlt
        rcases (show ((48 : Int) ≤ ((s[k]).toNat : Int) ∧ ((s[k]).toNat : Int) ≤ 48) ∨ ((49 : Int) ≤ ((s[k]).toNat : Int) ∧ ((s[k]).toNat : Int) ≤ 49) ∨ ((s[k]).toNat : Int) < 48 ∨ (49 : Int) < ((s[k]).toNat : Int) from by omega) with hb | hb | hb | hb
        · have b1 : (((s[k]).toNat : Int) != 48) = false := ne_no (by omega)
          go_wp2
          go_round
          case rel => exact ⟨k + 1, by omega, by go_num, hid (by rw [all_snoc s _ k hlt, HK.out, isBit_yes (by omega)]; rfl)⟩
          case measure => simp [intOf]; omega
        · have b1 : (((s[k]).toNat : Int) != 48) = true := ne_yes (by omega)
          have b2 : (((s[k]).toNat : Int) != 49) = false := ne_no (by omega)
          go_wp2
          go_round
          case rel => exact ⟨k + 1, by omega, by go_num, hid (by rw [all_snoc s _ k hlt, HK.out, isBit_yes (by omega)]; rfl)⟩
          case measure => simp [intOf]; omega
        · have b1 : (((s[k]).toNat : Int) != 48) = true := ne_yes (by omega)
          have b2 : (((s[k]).toNat : Int) != 49) = true := ne_yes (by omega)
          go_wp2
          go_ret
          exact ⟨ret_bool (by rw [HF.out, all_not s _ k hlt (isBit_no (by omega))]), rfl⟩
        · have b1 : (((s[k]).toNat : Int) != 48) = true := ne_yes (by omega)
          have b2 : (((s[k]).toNat : Int) != 49) = true := ne_yes (by omega)
          go_wp2
          go_ret
          exact ⟨ret_bool (by rw [HF.out, all_not s _ k hlt (isBit_no (by omega))]), rfl⟩
      · go_wp2
        go_ret
        exact ⟨ret_bool (by rw [HF.out, ← all_whole s _ k (by omega), HK.out]), rfl⟩
  · go_enter Tryz.func109, Tryz.ntmps109
    go_wp2
    go_ret
    exact ⟨ret_bool (by simp [bitsOk]; omega), rfl⟩

theorem c_sBitsValid (s : ByteArray) (w : World) (hs : s.size ≤ maxLen) : Calls Tryz.prog 107 #[.string s] w (Same (.bool (bitsOk s)) w) := by
  unfold maxLen at hs
  go_enter Tryz.func107, Tryz.ntmps107
  go_wp2_with fail
  go_loop [3] (fun i => ∃ k : Nat, k ≤ s.size ∧ i = .int .i64 k ∧ Hid ((s.data.toList.take k).all isBit = true)) (fun i => s.size - (intOf i).toNat)
  case atStart => exact ⟨0, Nat.zero_le _, rfl, hid rfl⟩
  case round =>
    obtain ⟨k, hk, rfl, HK⟩ := hrel
    by_cases hlt : k < s.size
    · have hb8 := byte_le s k hlt
      rcases (show ((48 : Int) ≤ ((s[k]).toNat : Int) ∧ ((s[k]).toNat : Int) ≤ 48) ∨ ((49 : Int) ≤ ((s[k]).toNat : Int) ∧ ((s[k]).toNat : Int) ≤ 49) ∨ ((s[k]).toNat : Int) < 48 ∨ (49 : Int) < ((s[k]).toNat : Int) from by omega) with hb | hb | hb | hb
      · have b1 : (((s[k]).toNat : Int) != 48) = false := ne_no (by omega)
        go_wp2
        go_round
        case rel => exact ⟨k + 1, by omega, by go_num, hid (by rw [all_snoc s _ k hlt, HK.out, isBit_yes (by omega)]; rfl)⟩
        case measure => simp [intOf]; omega
      · have b1 : (((s[k]).toNat : Int) != 48) = true := ne_yes (by omega)
        have b2 : (((s[k]).toNat : Int) != 49) = false := ne_no (by omega)
        go_wp2
        go_round
        case rel => exact ⟨k + 1, by omega, by go_num, hid (by rw [all_snoc s _ k hlt, HK.out, isBit_yes (by omega)]; rfl)⟩
        case measure => simp [intOf]; omega
      · have b1 : (((s[k]).toNat : Int) != 48) = true := ne_yes (by omega)
        have b2 : (((s[k]).toNat : Int) != 49) = true := ne_yes (by omega)
        go_wp2
        go_ret
        exact ⟨ret_bool (by rw [bitsOk, all_not s _ k hlt (isBit_no (by omega))]; simp), rfl⟩
      · have b1 : (((s[k]).toNat : Int) != 48) = true := ne_yes (by omega)
        have b2 : (((s[k]).toNat : Int) != 49) = true := ne_yes (by omega)
        go_wp2
        go_ret
        exact ⟨ret_bool (by rw [bitsOk, all_not s _ k hlt (isBit_no (by omega))]; simp), rfl⟩
    · go_wp2
      go_ret
      exact ⟨ret_bool (by rw [bitsOk, ← all_whole s _ k (by omega), HK.out, Bool.and_true]; rw [Bool.eq_iff_iff]; simp; omega), rfl⟩
end

section
open Go.ChangeShapes Go.WideShapes Go.ChangeAt Go.RowKit Go.Joins
set_option linter.unusedVariables false

def place (o i width : Int) : Int := if o = 1 then width - 1 - i else i

/-- a binary digit -/
def dgI (n p : Int) : Int := ((n / 2 ^ p.toNat) % 2)
theorem dgI_bd (n p : Int) : 0 ≤ dgI n p ∧ dgI n p ≤ 1 := by unfold dgI; omega
theorem and_one {x : Int} (h0 : 0 ≤ x) (h1 : x ≤ 9223372036854775807) : bits .and .i64 x 1 = x % 2 := by
  have := (bits_nat .i64 63 (by decide) (fun n h0 h1 => IntWalk.i64_in n (by omega)) x.toNat 1 (by omega) (by omega)).1
  rw [show ((x.toNat : Nat) : Int) = x from by omega, Nat.and_one_is_mod] at this
  exact this.trans (by omega)
theorem div_pow_bd {n : Int} (k : Nat) (h0 : 0 ≤ n) (h1 : n ≤ 9223372036854775807) : 0 ≤ n / 2 ^ k ∧ n / 2 ^ k ≤ 9223372036854775807 := by
  have hp : (0 : Int) < 2 ^ k := by exact_mod_cast Nat.pow_pos (n := k) (by omega : 0 < 2)
  exact ⟨Int.ediv_nonneg h0 (by omega), Int.le_trans (Int.ediv_le_self _ h0) h1⟩
/-- the first k digits, as letters -/
def dl (o n width : Int) (k : Nat) : List UInt8 := (List.range k).map fun (i : Nat) => M.chr (dgI n (place o i width) == 1)
theorem dl_succ (o n width : Int) (k : Nat) : dl o n width (k + 1) = dl o n width k ++ [M.chr (dgI n (place o k width) == 1)] := by simp [dl, List.range_succ]
theorem chr_dg (n p : Int) : (48 + dgI n p) = ((M.chr (dgI n p == 1)).toNat : Int) := by
  have := dgI_bd n p
  rcases (show dgI n p = 0 ∨ dgI n p = 1 from by omega) with h | h <;> rw [h] <;> rfl
end

section
open Go.ChangeShapes Go.WideShapes Go.ChangeAt Go.RowKit Go.Joins
set_option linter.unusedVariables false

theorem Tryz.info_u8 : (Tryz.prog.info? 5).map (fun i => (i.zero, i.size, i.bytes)) = some (some (.int .u8 0), 1, 1) := by kernel_rfl
end

section
open Go.ChangeShapes Go.WideShapes Go.ChangeAt Go.RowKit Go.Joins
set_option linter.unusedVariables false

def codeFits (code width : Int) : Bool := inB width 1 10 && decide (0 ≤ code) && decide (code < pow2 width)

theorem div_zero {c : Int} {k : Nat} (h : 0 ≤ c) : (c / 2 ^ k == 0) = decide (c < 2 ^ k) := by
  rw [Bool.eq_iff_iff]
  simp only [beq_iff_eq, decide_eq_true_eq]
  have hp : (0 : Int) < 2 ^ k := by exact_mod_cast Nat.pow_pos (n := k) (by omega : 0 < 2)
  constructor
  · intro h1
    have := Int.lt_mul_ediv_self_add hp (x := c)
    rw [h1] at this; omega
  · intro h1; exact Int.ediv_eq_zero_of_lt h h1

def par (c : UInt8) : Bool := c.toNat % 2 == 1
theorem quiet_same {P : Program} {f : FuncId} {args : Array Value} {w : World} {n : Nat} {v : Value} (h : Calls P f args (w.drewN n) (Same v (w.drewN n))) : Calls P f args (w.drewN n) fun e w'' => e = .returned v ∧ ∃ m, w'' = w.drewN m :=
  h.mono fun _ _ ⟨he, hm⟩ => ⟨he, n, hm.symm⟩

theorem or_i64 (a b : Nat) (ha : a < 2 ^ 63) (hb : b < 2 ^ 63) : bits .or .i64 (a : Int) (b : Int) = ((a ||| b : Nat) : Int) :=
  (bits_nat .i64 63 (by decide) (fun n h0 h1 => IntWalk.i64_in n (by omega)) a b ha hb).2
theorem number_step (o width : Int) (ho : o = 0 ∨ o = 1) (k d : Nat) (bs : List Bool) (b : Bool) (hbs : bs.length = k) (hk : (k : Int) < width) (hw : width ≤ 16) (hd : d = b.toNat) :
    bits .or .i64 ((M.numK (o == 1) width.toNat bs : Nat) : Int) (wrap64 ((d : Int) * 2 ^ (place o k width).toNat)) = ((M.numK (o == 1) width.toNat (bs ++ [b]) : Nat) : Int) := by
  have h1 := M.numK_lt (o == 1) width.toNat bs (by omega)
  have h16 : (2 : Nat) ^ width.toNat ≤ 2 ^ 16 := Nat.pow_le_pow_right (by omega) (by omega)
  have hp : (place o k width).toNat ≤ 16 := by unfold place; split <;> omega
  have hpp : (2 : Nat) ^ (place o k width).toNat ≤ 2 ^ 16 := Nat.pow_le_pow_right (by omega) hp
  have hd1 : d ≤ 1 := by subst hd; cases b <;> simp
  have hm : d * 2 ^ (place o k width).toNat ≤ 2 ^ 16 := by
    rcases (show d = 0 ∨ d = 1 from by omega) with h | h <;> rw [h] <;> omega
  have e : (d : Int) * 2 ^ (place o k width).toNat = ((d * 2 ^ (place o k width).toNat : Nat) : Int) := by simp
  rw [e, IntWalk.wrap64_in _ (by omega), or_i64 _ _ (by omega) (by omega)]
  congr 1
  rcases ho with rfl | rfl
  · have : (place 0 k width).toNat = bs.length := by simp [place, hbs]
    rw [this, hd]; exact (M.numK_snoc_low _ _ _).symm
  · have : (place 1 k width).toNat = width.toNat - 1 - bs.length := by simp [place, hbs]; try omega
    rw [this, hd]; exact (M.numK_snoc_high _ _ _ (by omega)).symm
theorem par_toNat (c : UInt8) : c.toNat % 2 = (par c).toNat := by
  unfold par; rcases (show c.toNat % 2 = 0 ∨ c.toNat % 2 = 1 from by omega) with h | h <;> rw [h] <;> rfl

theorem dl_codeBits (o n width : Int) (ho : o = 0 ∨ o = 1) (hn : 0 ≤ n) : dl o n width width.toNat = M.codeBits (o == 1) n.toNat width.toNat := by
  obtain ⟨m, rfl⟩ := Int.eq_ofNat_of_zero_le hn
  have hd : ∀ p : Int, (dgI m p == 1) = m.testBit p.toNat := by
    intro p
    rw [Nat.testBit_eq_decide_div_mod_eq]
    have e : dgI m p = ((m / 2 ^ p.toNat % 2 : Nat) : Int) := by simp [dgI]
    rw [e, Bool.eq_iff_iff, beq_iff_eq, decide_eq_true_iff]; omega
  rw [Int.toNat_natCast]
  rcases ho with rfl | rfl
  · simp only [dl, M.codeBits, M.asc, M.dir, M.bitsOf_map]
    simp only [show ((0 : Int) == 1) = false from rfl, Bool.false_eq_true, if_false, List.map_map]
    apply List.map_congr_left
    intro i hi
    simp [hd, place]
  · simp only [dl, M.codeBits, M.asc, M.dir, show ((1 : Int) == 1) = true from rfl, if_true, M.bitsOf_rev, List.map_map]
    apply List.map_congr_left
    intro i hi
    have : i < width.toNat := by simpa using hi
    simp only [hd, place, if_true, Function.comp]
    congr 2; omega

def codeBitsS (o n width : Int) : ByteArray := str (M.codeBits (o == 1) n.toNat width.toNat)
def codeOk (o n width : Int) : Bool := orderOk o && codeFits n width
theorem codeFits_iff {n width : Int} : codeFits n width = true ↔ (1 ≤ width ∧ width ≤ 10) ∧ 0 ≤ n ∧ n < pow2 width := by simp [codeFits, inB, and_assoc]
theorem orderOk_iff {o : Int} : orderOk o = true ↔ o = 0 ∨ o = 1 := by simp [orderOk]

theorem codeBits_len (h : Bool) (n k : Nat) : (M.codeBits h n k).length = k := by simp [M.codeBits, M.asc, M.dir_length, M.bitsOf_length]
theorem codeBits_succ (o n : Int) (k : Nat) (ho : o = 0 ∨ o = 1) (hn : 0 ≤ n) : M.codeBits (o == 1) n.toNat (k + 1) = if o = 0 then M.codeBits (o == 1) n.toNat k ++ [M.chr (n / 2 ^ k % 2 == 1)] else [M.chr (n / 2 ^ k % 2 == 1)] ++ M.codeBits (o == 1) n.toNat k := by
  obtain ⟨m, rfl⟩ := Int.eq_ofNat_of_zero_le hn
  have hd : ((m : Int) / 2 ^ k % 2 == 1) = m.testBit k := by
    rw [Nat.testBit_eq_decide_div_mod_eq]
    have e : (m : Int) / 2 ^ k % 2 = ((m / 2 ^ k % 2 : Nat) : Int) := by simp
    rw [e, Bool.eq_iff_iff, beq_iff_eq, decide_eq_true_iff]; omega
  rw [Int.toNat_natCast, hd]
  rcases ho with rfl | rfl
  · simp [M.codeBits, M.dir, M.bitsOf_snoc, M.asc]
  · simp [M.codeBits, M.dir, M.bitsOf_snoc, M.asc]

theorem bit_at {s : ByteArray} (h : s.data.toList.all isBit = true) (k : Nat) (hk : k < s.size) : ((s[k]).toNat : Int) = 48 + ((M.bit s[k]).toNat : Int) := by
  have e : s[k] ∈ s.data.toList := by
    have : s[k] = s.data.toList[k]'(by simpa using hk) := rfl
    rw [this]; exact List.getElem_mem _
  have h1 := List.all_eq_true.1 h _ e
  simp only [isBit, Bool.or_eq_true, beq_iff_eq] at h1
  rcases h1 with h1 | h1 <;> rw [h1] <;> rfl
theorem bits_get (s : ByteArray) (k : Nat) (hk : k < s.size) : (s.data.toList.map M.bit)[k]? = some (M.bit s[k]) := by
  rw [List.getElem?_map, List.getElem?_eq_getElem (by simpa using hk)]; rfl
def bitsL (s : ByteArray) : List Bool := s.data.toList.map M.bit
theorem bitsL_len (s : ByteArray) : (bitsL s).length = s.size := by simp [bitsL]
end

section
open Go.ChangeShapes Go.WideShapes Go.ChangeAt Go.RowKit Go.Joins
set_option linter.unusedVariables false

def bitsCodeOk (o : Int) (s : ByteArray) : Bool := orderOk o && inB s.size 1 10 && bitsOk s
def bitsCodeV (o : Int) (s : ByteArray) : Nat := M.num (M.dir (o == 1) (bitsL s))
theorem par_bits {s : ByteArray} (h : bitsOk s = true) : s.data.toList.map par = bitsL s := by
  unfold bitsL
  apply List.map_congr_left
  intro c hc
  simp only [bitsOk, Bool.and_eq_true] at h
  have h1 := List.all_eq_true.1 h.2 _ hc
  simp only [isBit, Bool.or_eq_true, beq_iff_eq] at h1
  rcases h1 with rfl | rfl <;> rfl
theorem bitsOk_all {s : ByteArray} (h : bitsOk s = true) : s.data.toList.all isBit = true := by
  simp only [bitsOk, Bool.and_eq_true] at h; exact h.2
theorem numK_bits {o : Int} {s : ByteArray} {n : Nat} (h : bitsOk s = true) (hn : n = s.size) : M.numK (o == 1) n (s.data.toList.map par) = bitsCodeV o s := by
  rw [par_bits h, bitsCodeV, ← M.numK_full, bitsL_len, hn]
theorem not_zero {o : Int} (h : orderOk o = true) : (!(o == 0)) = (o == 1) := by
  rcases orderOk_iff.1 h with rfl | rfl <;> rfl

theorem bitsCodeOk_iff {o : Int} {s : ByteArray} : bitsCodeOk o s = true ↔ orderOk o = true ∧ inB s.size 1 10 = true ∧ bitsOk s = true := by simp [bitsCodeOk, and_assoc]

def revV (n width : Int) : Nat := M.num (M.dir true (M.bitsOf width.toNat n.toNat))
theorem all_le (k : Nat) (K : Int) (hK : K < k) {Q : Int → Prop} (h : ∀ m : Fin k, Q ((m.val : Nat) : Int)) : ∀ n : Int, 0 ≤ n → n ≤ K → Q n := by
  intro n h0 h1
  have := h ⟨n.toNat, by omega⟩
  rwa [show ((n.toNat : Nat) : Int) = n from by omega] at this

theorem len_at (x k : Int) (w : World) (h0 : 0 ≤ x) (h1 : x ≤ 100) (hk : (Lib.bitLen x.toNat : Int) = k) : Calls Tryz.prog 141 #[.int .u64 x] w (Same (.int .i64 k) w) :=
  (Tryz.bits_Len x w h0 (by omega)).mono fun _ _ ⟨he, hw⟩ => ⟨by rw [he, hk], hw.symm⟩
end

section
open Go.ChangeShapes Go.WideShapes Go.ChangeAt Go.RowKit Go.Joins
set_option linter.unusedVariables false

theorem all_asc (l : List Bool) : (M.asc l).all isBit = true := M.isBits_asc l
theorem bitsL_asc (l : List Bool) : bitsL (str (M.asc l)) = l := by rw [bitsL, str_list, M.bits_asc]
end

section
open Go.ChangeShapes Go.WideShapes Go.ChangeAt Go.RowKit Go.Joins
set_option linter.unusedVariables false

/-- a word n times -/
def rep (l : List UInt8) (n : Nat) : List UInt8 := (List.replicate n l).flatten
theorem rep_len (l : List UInt8) (n : Nat) : (rep l n).length = n * l.length := by simp [rep]
theorem rep_add (l : List UInt8) (a b : Nat) : rep l a ++ rep l b = rep l (a + b) := by simp [rep, ← List.replicate_append_replicate]

theorem rep_one (c : UInt8) (n : Nat) : rep [c] n = List.replicate n c := by
  induction n with
  | zero => rfl
  | succ n ih => simp only [rep, List.replicate_succ, List.flatten_cons] at *; rw [ih]; rfl
def padL (s : ByteArray) : ByteArray := str (s.data.toList ++ List.replicate (M.padN s.size) 48)
theorem bitsL_padL (s : ByteArray) : bitsL (padL s) = M.pad (bitsL s) := by
  rw [bitsL, padL, str_list, List.map_append, List.map_replicate, M.pad, bitsL_len]; rfl
theorem padL_size (s : ByteArray) : (padL s).size = 8 * ((s.size + 7) / 8) := by
  rw [← bitsL_len, bitsL_padL, M.pad_length, bitsL_len]
theorem padL_bits {s : ByteArray} (h : s.data.toList.all isBit = true) : (padL s).data.toList.all isBit = true := by
  rw [padL, str_list, List.all_append, h, Bool.true_and]
  rw [List.all_eq_true]
  intro x hx
  rw [(List.mem_replicate.1 hx).2]; rfl
theorem extract_bits (s : ByteArray) (a b : Nat) (hb : b ≤ s.size) : bitsL (s.extract a b) = ((bitsL s).drop a).take (b - a) := by
  simp [bitsL, List.map_drop, List.map_take]
theorem extract_all {s : ByteArray} (h : s.data.toList.all isBit = true) (a b : Nat) : (s.extract a b).data.toList.all isBit = true := by
  rw [List.all_eq_true] at *
  intro x hx
  refine h x ?_
  simp at hx
  exact List.mem_of_mem_drop (List.mem_of_mem_take hx)

theorem numByte (h : Bool) (l : List Bool) (hl : l.length = 8) : (((M.num (M.dir h l) : Nat) : Int)) = ((M.byteOf h l).toNat : Int) := by
  have h1 := M.num_lt (M.dir h l)
  rw [M.dir_length, hl] at h1
  have e : M.byteOf h l = UInt8.ofNat (M.num (M.dir h l)) := by simp [M.byteOf, hl]
  rw [e, UInt8.toNat_ofNat']; omega

theorem packN_snoc (h : Bool) (k : Nat) (l : List Bool) : M.packN h (k + 1) l = M.packN h k l ++ [M.byteOf h ((l.drop (8 * k)).take 8)] := by
  induction k generalizing l with
  | zero => simp [M.packN]
  | succ k ih =>
    rw [M.packN, ih, M.packN, List.drop_drop, List.cons_append]
    congr 6; omega

theorem Tryz.info_u8b : (Tryz.prog.info? 5).map (fun i => (i.zero, i.size, i.bytes)) = some (some (.int .u8 0), 1, 1) := by kernel_rfl

def packS (o : Int) (s : ByteArray) : ByteArray := str (M.pack (o == 1) (bitsL s))
def packOk (o : Int) (s : ByteArray) : Bool := orderOk o && bitsOk s
theorem bitsOk_size {s : ByteArray} (h : bitsOk s = true) : s.size ≤ 32000 := by simp only [bitsOk, Bool.and_eq_true, decide_eq_true_eq] at h; exact h.1
theorem numK_byteOf (h : Bool) (l : List Bool) (hl : l.length ≤ 8) : ((M.numK h 8 l : Nat) : Int) = ((M.byteOf h l).toNat : Int) ∧ M.numK h 8 l < 256 := by
  have h1 := M.numK_lt h 8 l hl
  refine ⟨?_, h1⟩
  have e : M.byteOf h l = UInt8.ofNat (M.numK h 8 l) := by rw [M.numK_byte]; rfl
  rw [e, UInt8.toNat_ofNat']; omega
end

section
open Go.ChangeShapes Go.WideShapes Go.ChangeAt Go.RowKit Go.Joins
set_option linter.unusedVariables false

def stOk (o : Int) (s : ByteArray) : Bool := orderOk o && decide (s.size ≤ 4000)
theorem stOk_iff {o : Int} {s : ByteArray} : stOk o s = true ↔ orderOk o = true ∧ s.size ≤ 4000 := by simp [stOk]

def unpackL (o : Int) (s : ByteArray) : List UInt8 := M.asc (M.unpack (o == 1) s.data.toList)
theorem unpack_snoc (h : Bool) (s : ByteArray) (k : Nat) (hk : k < s.size) : M.asc (M.unpack h (s.data.toList.take (k + 1))) = M.asc (M.unpack h (s.data.toList.take k)) ++ M.codeBits h (s[k]).toNat 8 := by
  rw [take_snoc s k hk]; simp [M.unpack, M.asc, M.codeBits, M.byteBits]
end
end Go.Proofs.YtmfnfheahehpcaaGreatDoor
