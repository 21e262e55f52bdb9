/- Contracts of DataFits and BitsValid in both programs. No condition but that a string has a length. -/
import Derived.Test.YtgfclblooadomacCode
import Derived.Test.YtgfclblooadomacStr
namespace Go.Proofs.Ytgfclblooadomac
open Go.ChangeShapes Go.WideShapes Go.ChangeAt Go.RowKit Go.Joins
set_option linter.unusedVariables false

def ltc (c : Int) (x : UInt8) : Bool := decide ((x.toNat : Int) < c)
def dataFits (o l m : Int) (s : ByteArray) : Bool := setOk o l m && decide (s.size ≤ 2000) && s.data.toList.all (ltc (pow2 l))

def isBit (x : UInt8) : Bool := x == 48 || x == 49
def bitsOk (s : ByteArray) : Bool := decide (s.size ≤ 32000) && s.data.toList.all isBit

theorem isBit_yes {x : UInt8} (h : ((x.toNat : Int) = 48 ∨ (x.toNat : Int) = 49)) : isBit x = true := by
  have : x = 48 ∨ x = 49 := by
    rcases h with h | h
    · left; apply UInt8.toNat_inj.1; simp; omega
    · right; apply UInt8.toNat_inj.1; simp; omega
  rcases this with rfl | rfl <;> rfl
theorem isBit_no {x : UInt8} (h : ¬((x.toNat : Int) = 48 ∨ (x.toNat : Int) = 49)) : isBit x = false := by
  have h1 : x ≠ 48 := fun e => h (by subst e; left; rfl)
  have h2 : x ≠ 49 := fun e => h (by subst e; right; rfl)
  simp [isBit, h1, h2]

theorem c_BitsValid (s : ByteArray) (w : World) (hs : s.size ≤ maxLen) : Calls Try.prog 35 #[.string s] w (Same (.bool (bitsOk s)) w) := by
  unfold maxLen at hs
  by_cases h : s.size ≤ 32000
  · have hd : decide ((32000 : Int) < (s.size : Int)) = false := by simp; omega
    have HF := hid (show bitsOk s = s.data.toList.all isBit by simp [bitsOk, h])
    go_enter Try.func35, Try.ntmps35
    go_wp2
    go_loop [9] (fun i => ∃ k : Nat, k ≤ s.size ∧ i = .int .i64 k ∧ Hid ((s.data.toList.take k).all isBit = true)) (fun i => s.size - (intOf i).toNat)
    case atStart => exact ⟨0, Nat.zero_le _, rfl, hid rfl⟩
    case round =>
      obtain ⟨k, hk, rfl, HK⟩ := hrel
      by_cases hlt : k < s.size
      · have hb8 := byte_le s k hlt
        rcases (show ((48 : Int) ≤ ((s[k]).toNat : Int) ∧ ((s[k]).toNat : Int) ≤ 48) ∨ ((49 : Int) ≤ ((s[k]).toNat : Int) ∧ ((s[k]).toNat : Int) ≤ 49) ∨ ((s[k]).toNat : Int) < 48 ∨ (49 : Int) < ((s[k]).toNat : Int) from by omega) with hb | hb | hb | hb
        · have b1 : (((s[k]).toNat : Int) != 48) = false := ne_no (by omega)
          go_wp2
          go_round
          case rel => exact ⟨k + 1, by omega, by go_num, hid (by rw [all_snoc s _ k hlt, HK.out, isBit_yes (by omega)]; rfl)⟩
          case measure => simp [intOf]; omega
        · have b1 : (((s[k]).toNat : Int) != 48) = true := ne_yes (by omega)
          have b2 : (((s[k]).toNat : Int) != 49) = false := ne_no (by omega)
          go_wp2
          go_round
          case rel => exact ⟨k + 1, by omega, by go_num, hid (by rw [all_snoc s _ k hlt, HK.out, isBit_yes (by omega)]; rfl)⟩
          case measure => simp [intOf]; omega
        · have b1 : (((s[k]).toNat : Int) != 48) = true := ne_yes (by omega)
          have b2 : (((s[k]).toNat : Int) != 49) = true := ne_yes (by omega)
          go_wp2
          go_ret
          exact ⟨ret_bool (by rw [HF.out, all_not s _ k hlt (isBit_no (by omega))]), rfl⟩
        · have b1 : (((s[k]).toNat : Int) != 48) = true := ne_yes (by omega)
          have b2 : (((s[k]).toNat : Int) != 49) = true := ne_yes (by omega)
          go_wp2
          go_ret
          exact ⟨ret_bool (by rw [HF.out, all_not s _ k hlt (isBit_no (by omega))]), rfl⟩
      · go_wp2
        go_ret
        exact ⟨ret_bool (by rw [HF.out, ← all_whole s _ k (by omega), HK.out]), rfl⟩
  · go_enter Try.func35, Try.ntmps35
    go_wp2
    go_ret
    exact ⟨ret_bool (by simp [bitsOk]; omega), rfl⟩

theorem c_sBitsValid (s : ByteArray) (w : World) (hs : s.size ≤ maxLen) : Calls Try.prog 33 #[.string s] w (Same (.bool (bitsOk s)) w) := by
  unfold maxLen at hs
  go_enter Try.func33, Try.ntmps33
  go_wp2_with fail
  go_loop [3] (fun i => ∃ k : Nat, k ≤ s.size ∧ i = .int .i64 k ∧ Hid ((s.data.toList.take k).all isBit = true)) (fun i => s.size - (intOf i).toNat)
  case atStart => exact ⟨0, Nat.zero_le _, rfl, hid rfl⟩
  case round =>
    obtain ⟨k, hk, rfl, HK⟩ := hrel
    by_cases hlt : k < s.size
    · have hb8 := byte_le s k hlt
      rcases (show ((48 : Int) ≤ ((s[k]).toNat : Int) ∧ ((s[k]).toNat : Int) ≤ 48) ∨ ((49 : Int) ≤ ((s[k]).toNat : Int) ∧ ((s[k]).toNat : Int) ≤ 49) ∨ ((s[k]).toNat : Int) < 48 ∨ (49 : Int) < ((s[k]).toNat : Int) from by omega) with hb | hb | hb | hb
      · have b1 : (((s[k]).toNat : Int) != 48) = false := ne_no (by omega)
        go_wp2
        go_round
        case rel => exact ⟨k + 1, by omega, by go_num, hid (by rw [all_snoc s _ k hlt, HK.out, isBit_yes (by omega)]; rfl)⟩
        case measure => simp [intOf]; omega
      · have b1 : (((s[k]).toNat : Int) != 48) = true := ne_yes (by omega)
        have b2 : (((s[k]).toNat : Int) != 49) = false := ne_no (by omega)
        go_wp2
        go_round
        case rel => exact ⟨k + 1, by omega, by go_num, hid (by rw [all_snoc s _ k hlt, HK.out, isBit_yes (by omega)]; rfl)⟩
        case measure => simp [intOf]; omega
      · have b1 : (((s[k]).toNat : Int) != 48) = true := ne_yes (by omega)
        have b2 : (((s[k]).toNat : Int) != 49) = true := ne_yes (by omega)
        go_wp2
        go_ret
        exact ⟨ret_bool (by rw [bitsOk, all_not s _ k hlt (isBit_no (by omega))]; simp), rfl⟩
      · have b1 : (((s[k]).toNat : Int) != 48) = true := ne_yes (by omega)
        have b2 : (((s[k]).toNat : Int) != 49) = true := ne_yes (by omega)
        go_wp2
        go_ret
        exact ⟨ret_bool (by rw [bitsOk, all_not s _ k hlt (isBit_no (by omega))]; simp), rfl⟩
    · go_wp2
      go_ret
      exact ⟨ret_bool (by rw [bitsOk, ← all_whole s _ k (by omega), HK.out, Bool.and_true]; rw [Bool.eq_iff_iff]; simp; omega), rfl⟩
end Go.Proofs.Ytgfclblooadomac
