/- Contracts of ParseHex in both programs. -/
import Derived.Test.YtmfnfheahehpcaaGreatDoorHex
import Derived.Test.YtmfnfheahehpcaaGreatDoorShelf
namespace Go.Proofs.YtmfnfheahehpcaaGreatDoor
open Go.ChangeShapes Go.WideShapes Go.ChangeAt Go.RowKit Go.Joins
set_option linter.unusedVariables false

def hexI (c : UInt8) : Int := match M.hexv c with | some n => (n : Int) | none => -1
theorem hexI_all : ∀ n : Fin 256, Lib.indexByte hexS.data.toList (UInt8.ofNat n.val) = hexI (UInt8.ofNat n.val) := by decide +kernel
theorem hexI_ix (c : UInt8) : Lib.indexByte hexS.data.toList c = hexI c := by
  have := hexI_all ⟨c.toNat, c.toNat_lt⟩
  simpa using this
theorem hexI_some {c : UInt8} {n : Nat} (h : M.hexv c = some n) : hexI c = n := by simp [hexI, h]
theorem hexI_none {c : UInt8} (h : M.hexv c = none) : hexI c = -1 := by simp [hexI, h]

theorem indexByte_ge (l : List UInt8) (c : UInt8) : -1 ≤ Lib.indexByte l c := by
  induction l with
  | nil => simp [Lib.indexByte]
  | cons b t ih => rw [Lib.indexByte]; split <;> (try split) <;> omega
def fI (l : List UInt8) (c : UInt8) (k : Nat) : Int := if Lib.indexByte l c = -1 then -1 else (k : Int) + Lib.indexByte l c
theorem fI_zero (l : List UInt8) (c : UInt8) : fI l c 0 = Lib.indexByte l c := by unfold fI; split <;> simp_all
theorem fI_hit (c : UInt8) (t : List UInt8) (k : Nat) : fI (c :: t) c k = k := by simp [fI, Lib.indexByte]
theorem fI_miss (b c : UInt8) (t : List UInt8) (k : Nat) (h : b ≠ c) : fI (b :: t) c k = fI t c (k + 1) := by
  have hb : (b == c) = false := by simpa using h
  have := indexByte_ge t c
  simp only [fI, Lib.indexByte, hb, Bool.false_eq_true, if_false]
  by_cases hx : Lib.indexByte t c = -1
  · simp [hx]
  · have hx2 : (Lib.indexByte t c == -1) = false := by simpa using hx
    simp only [hx2, Bool.false_eq_true, if_false, hx]
    rw [if_neg (by omega)]; omega
theorem drop_cons (s : ByteArray) (k : Nat) (hk : k < s.size) : s.data.toList.drop k = s[k] :: s.data.toList.drop (k + 1) := by
  rw [List.drop_eq_getElem_cons (by simpa using hk)]; rfl

theorem c_l9Find (s : ByteArray) (c : UInt8) (w : World) (hs : s.size ≤ maxLen) : Calls Tryz.prog 83 #[.string s, .int .u8 (c.toNat : Int)] w (Same (.int .i64 (Lib.indexByte s.data.toList c)) w) := by
  unfold maxLen at hs
  have hc := c.toNat_lt
  go_enter Tryz.func83, Tryz.ntmps83
  go_wp2
  go_loop [5] (fun i => ∃ k : Nat, k ≤ s.size ∧ i = .int .i64 k ∧ Hid (Lib.indexByte s.data.toList c = fI (s.data.toList.drop k) c k)) (fun i => s.size - (intOf i).toNat)
  case atStart => exact ⟨0, Nat.zero_le _, rfl, hid (by rw [List.drop_zero, fI_zero])⟩
  case round =>
    obtain ⟨k, hk, rfl, HK⟩ := hrel
    by_cases hlt : k < s.size
    · by_cases he : s[k] = c
      · have hb : (((s[k]).toNat : Int) == (c.toNat : Int)) = true := by rw [he]; simp
        have HR := hid (show fI (s.data.toList.drop k) c k = k by rw [drop_cons s k hlt, he, fI_hit])
        clear he
        go_wp2
        go_ret
        exact ⟨ret_int (by rw [HK.out, HR.out]), rfl⟩
      · have hb : (((s[k]).toNat : Int) == (c.toNat : Int)) = false := by
          rw [beq_eq_false_iff_ne]; intro h; exact he (UInt8.toNat_inj.1 (by omega))
        have HR := hid (show fI (s.data.toList.drop k) c k = fI (s.data.toList.drop (k + 1)) c (k + 1) by rw [drop_cons s k hlt, fI_miss _ _ _ _ he])
        clear he
        go_wp2
        go_round
        case rel => exact ⟨k + 1, by omega, by go_num, hid (by rw [HK.out, HR.out])⟩
        case measure => simp [intOf]; omega
    · have HR := hid (show fI (s.data.toList.drop k) c k = -1 by rw [List.drop_of_length_le (by simp; omega)]; simp [fI, Lib.indexByte])
      go_wp2
      go_ret
      exact ⟨ret_int (by rw [HK.out, HR.out]), rfl⟩
theorem c_hexFind (c : UInt8) (w : World) : Calls Tryz.prog 83 #[.string ⟨#[48, 49, 50, 51, 52, 53, 54, 55, 56, 57, 97, 98, 99, 100, 101, 102]⟩, .int .u8 (c.toNat : Int)] w (Same (.int .i64 (hexI c)) w) := by
  rw [← hexI_ix]; exact c_l9Find hexS c w (by decide)

theorem or_hex (x y : Nat) (hx : x < 16) (hy : y < 16) : bits .or .i64 ((x : Int) * 16) (y : Int) = ((16 * x + y : Nat) : Int) := by
  have e : (x : Int) * 16 = ((x * 16 : Nat) : Int) := by omega
  rw [e, or_i64 _ _ (by omega) (by omega), Nat.mul_comm x 16, show (16 : Nat) = 2 ^ 4 from rfl, M.or_add 4 x y (by omega)]
theorem byte_16 (x y : Nat) (hx : x < 16) (hy : y < 16) : ((16 * x + y : Nat) : Int) = (((UInt8.ofNat (16 * x + y)).toNat : Nat) : Int) := by
  rw [UInt8.toNat_ofNat']; omega
theorem byte_get (s : ByteArray) (k : Nat) (hk : k < s.size) : s.data.toList[k]? = some s[k] := by
  rw [List.getElem?_eq_getElem (by simpa using hk)]; rfl

theorem parseHex_none_of (s : ByteArray) (h : ¬(s.size % 2 = 0 ∧ s.size ≤ 8000)) : M.parseHex s.data.toList = none := by
  rw [M.parseHex, if_neg (by simpa using h)]
theorem parseHex_of (s : ByteArray) (h1 : s.size % 2 = 0) (h2 : s.size ≤ 8000) : M.parseHex s.data.toList = M.unhex s.data.toList := by
  rw [M.parseHex, if_pos (by simpa using ⟨h1, h2⟩)]

/-- what ParseHex returns -/
def PH (s : ByteArray) (e : Ending) : Prop := (M.parseHex s.data.toList = none ∧ e = .returned (.tuple #[.string ByteArray.empty, .bool false])) ∨ ∃ d, M.parseHex s.data.toList = some d ∧ e = .returned (.tuple #[.string (str d), .bool true])
end Go.Proofs.YtmfnfheahehpcaaGreatDoor
