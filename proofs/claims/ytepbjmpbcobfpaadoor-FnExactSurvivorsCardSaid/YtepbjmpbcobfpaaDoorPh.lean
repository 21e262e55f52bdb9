/- Contracts of SharedStart, SharedEnd, PatchOf, ApplyPatch, InvertPatch in both programs. No condition but that the numbers are int's. -/
import Derived.Test.YtepbjmpbcobfpaaDoorBa
import Derived.Test.YtepbjmpbcobfpaaDoorBb
import Derived.Deep.QuietTactic
import Derived.BigQuiet
namespace Go.Proofs.YtepbjmpbcobfpaaDoor
open Go.ChangeShapes Go.WideShapes Go.ChangeAt Go.RowKit Go.Joins
set_option linter.unusedVariables false

/-- how many bytes two strings share at their beginnings -/
def agree : List UInt8 → List UInt8 → Nat
  | a :: s, b :: t => if a = b then agree s t + 1 else 0
  | _, _ => 0
theorem agree_of : ∀ (n : Nat) (a b : List UInt8), n ≤ a.length → n ≤ b.length → (∀ i, i < n → a[i]? = b[i]?) → (n = a.length ∨ n = b.length ∨ a[n]? ≠ b[n]?) → agree a b = n
  | 0, a, b, _, _, _, h => by
    cases a with
    | nil => rfl
    | cons x s =>
      cases b with
      | nil => rfl
      | cons y t =>
        rcases h with h | h | h
        · simp at h
        · simp at h
        · have : x ≠ y := fun e => h (by simp [e])
          simp [agree, this]
  | n + 1, a, b, ha, hb, he, h => by
    cases a with
    | nil => simp at ha
    | cons x s =>
      cases b with
      | nil => simp at hb
      | cons y t =>
        have h0 := he 0 (by omega)
        simp at h0
        have ih := agree_of n s t (by simpa using ha) (by simpa using hb) (fun i hi => by have := he (i + 1) (by omega); simpa using this) (by simpa using h)
        simp [agree, h0, ih]
def sharedS (a b : ByteArray) : Nat := agree a.data.toList b.data.toList
def sharedE (a b : ByteArray) : Nat := agree a.data.toList.reverse b.data.toList.reverse
theorem agree_le (a b : List UInt8) : agree a b ≤ a.length ∧ agree a b ≤ b.length := by
  induction a generalizing b with
  | nil => simp [agree]
  | cons x s ih =>
    cases b with
    | nil => simp [agree]
    | cons y t =>
      have := ih t
      unfold agree
      split <;> simp <;> omega
theorem sharedS_le (a b : ByteArray) : sharedS a b ≤ a.size ∧ sharedS a b ≤ b.size := by
  have := agree_le a.data.toList b.data.toList
  simpa [sharedS] using this
theorem sharedE_le (a b : ByteArray) : sharedE a b ≤ a.size ∧ sharedE a b ≤ b.size := by
  have := agree_le a.data.toList.reverse b.data.toList.reverse
  simpa [sharedE] using this
theorem at_get (a : ByteArray) (n : Nat) (h : n < a.size) : a.data.toList[n]? = some a[n] := by
  rw [List.getElem?_eq_getElem (by simpa using h)]
  rfl
theorem at_rev (a : ByteArray) (n : Nat) (h : n < a.size) : a.data.toList.reverse[n]? = some (a[a.size - 1 - n]'(by omega)) := by
  rw [List.getElem?_reverse (by simpa using h)]
  rw [at_get a _ (by simp; omega)]
  simp
theorem byte_eq {x y : UInt8} (h : ((x.toNat : Int) == (y.toNat : Int)) = true) : x = y := by
  have : (x.toNat : Int) = y.toNat := by simpa using h
  exact UInt8.toNat_inj.1 (by omega)
theorem byte_eq' {x y : UInt8} (h : (x.toNat : Int) = (y.toNat : Int)) : x = y := UInt8.toNat_inj.1 (by omega)
theorem byte_ne {x y : UInt8} (h : (x.toNat : Int) ≠ (y.toNat : Int)) : x ≠ y := fun e => h (by rw [e])

theorem idx_st {P : Program} {t : TypeId} (ht : P.underlying t = some .string) (s : ByteArray) (n : Nat) (h : n < s.size) (k : IntKind) (X : Int) (hX : X = (n : Int)) (w : World) :
    (Instr.index t (.string s) (.int k X)).run P w = .ok (.int .u8 ((s[n]).toNat : Int)) w := by
  subst hX
  have e := run_index_string (P := P) (w := w) t s k (n : Int) ht
  rw [dif_pos (by omega)] at e
  exact e
end Go.Proofs.YtepbjmpbcobfpaaDoor
