/- Small facts on the bytes of a string. No condition. -/
import Derived.Test.YtoiifopjipfjhaaOpen
import Derived.Laws.DeepStrings4
namespace Go.Proofs.Ytoiifopjipfjhaa
open Go.ChangeShapes Go.WideShapes Go.ChangeAt Go.RowKit Go.Joins
set_option linter.unusedVariables false

theorem take_snoc (s : ByteArray) (k : Nat) (h : k < s.size) : s.data.toList.take (k + 1) = s.data.toList.take k ++ [s[k]] := by
  rw [List.take_succ_eq_append_getElem (by simpa using h)]; rfl

theorem all_snoc (s : ByteArray) (p : UInt8 → Bool) (k : Nat) (h : k < s.size) : (s.data.toList.take (k + 1)).all p = ((s.data.toList.take k).all p && p s[k]) := by
  rw [take_snoc s k h]; simp

theorem all_whole (s : ByteArray) (p : UInt8 → Bool) (k : Nat) (h : s.size ≤ k) : (s.data.toList.take k).all p = s.data.toList.all p := by
  rw [List.take_of_length_le (by simpa using h)]

theorem all_not (s : ByteArray) (p : UInt8 → Bool) (k : Nat) (h : k < s.size) (hp : p s[k] = false) : s.data.toList.all p = false := by
  have e : s[k] ∈ s.data.toList := by
    have : s[k] = s.data.toList[k]'(by simpa using h) := rfl
    rw [this]; exact List.getElem_mem _
  rw [List.all_eq_false]
  exact ⟨_, e, by simp [hp]⟩

theorem len_toList (s : ByteArray) : s.data.toList.length = s.size := by simp

theorem byte_le (s : ByteArray) (k : Nat) (h : k < s.size) : ((s[k]).toNat : Int) ≤ 255 := by have := (s[k]).toNat_lt; omega

/-- 's[a:b]' at numbers that are casts only behind a computation. -/
theorem slice_str {P : Program} {t : TypeId} (ht : P.underlying t = some .string) (s : ByteArray) (A B : Int) (a b : Nat) (ha : A = (a : Int)) (hb : B = (b : Int)) (hab : a ≤ b) (hbs : b ≤ s.size) (w : World) :
    (Instr.slice t (.string s) (some (.int .i64 A)) (some (.int .i64 B)) none).run P w = .ok (.string (s.extract a b)) w := by
  subst ha hb
  rw [run_slice_string_if w t s .i64 .i64 _ _ ht, if_pos (by omega), if_pos (by omega), Int.toNat_natCast, Int.toNat_natCast]
end Go.Proofs.Ytoiifopjipfjhaa
