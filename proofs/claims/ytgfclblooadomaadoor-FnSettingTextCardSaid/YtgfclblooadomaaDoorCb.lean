/- Contracts of CodeBits, BitsCode and ReverseBits in both programs, and of what they call. -/
import Derived.Test.YtgfclblooadomaaDoorApp
namespace Go.Proofs.YtgfclblooadomaaDoor
open Go.ChangeShapes Go.WideShapes Go.ChangeAt Go.RowKit Go.Joins
set_option linter.unusedVariables false

def codeFits (code width : Int) : Bool := inB width 1 10 && decide (0 ≤ code) && decide (code < pow2 width)

theorem div_zero {c : Int} {k : Nat} (h : 0 ≤ c) : (c / 2 ^ k == 0) = decide (c < 2 ^ k) := by
  rw [Bool.eq_iff_iff]
  simp only [beq_iff_eq, decide_eq_true_eq]
  have hp : (0 : Int) < 2 ^ k := by exact_mod_cast Nat.pow_pos (n := k) (by omega : 0 < 2)
  constructor
  · intro h1
    have := Int.lt_mul_ediv_self_add hp (x := c)
    rw [h1] at this; omega
  · intro h1; exact Int.ediv_eq_zero_of_lt h h1

def par (c : UInt8) : Bool := c.toNat % 2 == 1
theorem quiet_same {P : Program} {f : FuncId} {args : Array Value} {w : World} {n : Nat} {v : Value} (h : Calls P f args (w.drewN n) (Same v (w.drewN n))) : Calls P f args (w.drewN n) fun e w'' => e = .returned v ∧ ∃ m, w'' = w.drewN m :=
  h.mono fun _ _ ⟨he, hm⟩ => ⟨he, n, hm.symm⟩

theorem or_i64 (a b : Nat) (ha : a < 2 ^ 63) (hb : b < 2 ^ 63) : bits .or .i64 (a : Int) (b : Int) = ((a ||| b : Nat) : Int) :=
  (bits_nat .i64 63 (by decide) (fun n h0 h1 => IntWalk.i64_in n (by omega)) a b ha hb).2
theorem number_step (o width : Int) (ho : o = 0 ∨ o = 1) (k d : Nat) (bs : List Bool) (b : Bool) (hbs : bs.length = k) (hk : (k : Int) < width) (hw : width ≤ 16) (hd : d = b.toNat) :
    bits .or .i64 ((M.numK (o == 1) width.toNat bs : Nat) : Int) (wrap64 ((d : Int) * 2 ^ (place o k width).toNat)) = ((M.numK (o == 1) width.toNat (bs ++ [b]) : Nat) : Int) := by
  have h1 := M.numK_lt (o == 1) width.toNat bs (by omega)
  have h16 : (2 : Nat) ^ width.toNat ≤ 2 ^ 16 := Nat.pow_le_pow_right (by omega) (by omega)
  have hp : (place o k width).toNat ≤ 16 := by unfold place; split <;> omega
  have hpp : (2 : Nat) ^ (place o k width).toNat ≤ 2 ^ 16 := Nat.pow_le_pow_right (by omega) hp
  have hd1 : d ≤ 1 := by subst hd; cases b <;> simp
  have hm : d * 2 ^ (place o k width).toNat ≤ 2 ^ 16 := by
    rcases (show d = 0 ∨ d = 1 from by omega) with h | h <;> rw [h] <;> omega
  have e : (d : Int) * 2 ^ (place o k width).toNat = ((d * 2 ^ (place o k width).toNat : Nat) : Int) := by simp
  rw [e, IntWalk.wrap64_in _ (by omega), or_i64 _ _ (by omega) (by omega)]
  congr 1
  rcases ho with rfl | rfl
  · have : (place 0 k width).toNat = bs.length := by simp [place, hbs]
    rw [this, hd]; exact (M.numK_snoc_low _ _ _).symm
  · have : (place 1 k width).toNat = width.toNat - 1 - bs.length := by simp [place, hbs]; try omega
    rw [this, hd]; exact (M.numK_snoc_high _ _ _ (by omega)).symm
theorem par_toNat (c : UInt8) : c.toNat % 2 = (par c).toNat := by
  unfold par; rcases (show c.toNat % 2 = 0 ∨ c.toNat % 2 = 1 from by omega) with h | h <;> rw [h] <;> rfl

theorem dl_codeBits (o n width : Int) (ho : o = 0 ∨ o = 1) (hn : 0 ≤ n) : dl o n width width.toNat = M.codeBits (o == 1) n.toNat width.toNat := by
  obtain ⟨m, rfl⟩ := Int.eq_ofNat_of_zero_le hn
  have hd : ∀ p : Int, (dgI m p == 1) = m.testBit p.toNat := by
    intro p
    rw [Nat.testBit_eq_decide_div_mod_eq]
    have e : dgI m p = ((m / 2 ^ p.toNat % 2 : Nat) : Int) := by simp [dgI]
    rw [e, Bool.eq_iff_iff, beq_iff_eq, decide_eq_true_iff]; omega
  rw [Int.toNat_natCast]
  rcases ho with rfl | rfl
  · simp only [dl, M.codeBits, M.asc, M.dir, M.bitsOf_map]
    simp only [show ((0 : Int) == 1) = false from rfl, Bool.false_eq_true, if_false, List.map_map]
    apply List.map_congr_left
    intro i hi
    simp [hd, place]
  · simp only [dl, M.codeBits, M.asc, M.dir, show ((1 : Int) == 1) = true from rfl, if_true, M.bitsOf_rev, List.map_map]
    apply List.map_congr_left
    intro i hi
    have : i < width.toNat := by simpa using hi
    simp only [hd, place, if_true, Function.comp]
    congr 2; omega

def codeBitsS (o n width : Int) : ByteArray := str (M.codeBits (o == 1) n.toNat width.toNat)
def codeOk (o n width : Int) : Bool := orderOk o && codeFits n width
theorem codeFits_iff {n width : Int} : codeFits n width = true ↔ (1 ≤ width ∧ width ≤ 10) ∧ 0 ≤ n ∧ n < pow2 width := by simp [codeFits, inB, and_assoc]
theorem orderOk_iff {o : Int} : orderOk o = true ↔ o = 0 ∨ o = 1 := by simp [orderOk]

theorem codeBits_len (h : Bool) (n k : Nat) : (M.codeBits h n k).length = k := by simp [M.codeBits, M.asc, M.dir_length, M.bitsOf_length]
theorem codeBits_succ (o n : Int) (k : Nat) (ho : o = 0 ∨ o = 1) (hn : 0 ≤ n) : M.codeBits (o == 1) n.toNat (k + 1) = if o = 0 then M.codeBits (o == 1) n.toNat k ++ [M.chr (n / 2 ^ k % 2 == 1)] else [M.chr (n / 2 ^ k % 2 == 1)] ++ M.codeBits (o == 1) n.toNat k := by
  obtain ⟨m, rfl⟩ := Int.eq_ofNat_of_zero_le hn
  have hd : ((m : Int) / 2 ^ k % 2 == 1) = m.testBit k := by
    rw [Nat.testBit_eq_decide_div_mod_eq]
    have e : (m : Int) / 2 ^ k % 2 = ((m / 2 ^ k % 2 : Nat) : Int) := by simp
    rw [e, Bool.eq_iff_iff, beq_iff_eq, decide_eq_true_iff]; omega
  rw [Int.toNat_natCast, hd]
  rcases ho with rfl | rfl
  · simp [M.codeBits, M.dir, M.bitsOf_snoc, M.asc]
  · simp [M.codeBits, M.dir, M.bitsOf_snoc, M.asc]

theorem bit_at {s : ByteArray} (h : s.data.toList.all isBit = true) (k : Nat) (hk : k < s.size) : ((s[k]).toNat : Int) = 48 + ((M.bit s[k]).toNat : Int) := by
  have e : s[k] ∈ s.data.toList := by
    have : s[k] = s.data.toList[k]'(by simpa using hk) := rfl
    rw [this]; exact List.getElem_mem _
  have h1 := List.all_eq_true.1 h _ e
  simp only [isBit, Bool.or_eq_true, beq_iff_eq] at h1
  rcases h1 with h1 | h1 <;> rw [h1] <;> rfl
theorem bits_get (s : ByteArray) (k : Nat) (hk : k < s.size) : (s.data.toList.map M.bit)[k]? = some (M.bit s[k]) := by
  rw [List.getElem?_map, List.getElem?_eq_getElem (by simpa using hk)]; rfl
def bitsL (s : ByteArray) : List Bool := s.data.toList.map M.bit
theorem bitsL_len (s : ByteArray) : (bitsL s).length = s.size := by simp [bitsL]
end Go.Proofs.YtgfclblooadomaaDoor
