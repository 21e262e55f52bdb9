/- Contracts of UnpackBits by the model, BitAt and SpanBits in both programs. -/
import Derived.Test.YtmfnfheahehpcaaGreatDoorBj
namespace Go.Proofs.YtmfnfheahehpcaaGreatDoor
open Go.ChangeShapes Go.WideShapes Go.ChangeAt Go.RowKit Go.Joins
set_option linter.unusedVariables false

/-- the bit with an index, of a stream that has it -/
def bitV (o : Int) (s : ByteArray) (a : Nat) : Int := dgI (((s.data.toList[a / 8]?.getD 0).toNat : Nat) : Int) (place o ((a % 8 : Nat) : Int) 8)
theorem bitV_bd (o : Int) (s : ByteArray) (a : Nat) : 0 ≤ bitV o s a ∧ bitV o s a ≤ 1 := dgI_bd _ _
theorem byte_getD (s : ByteArray) (k : Nat) (h : k < s.size) : s.data.toList[k]?.getD 0 = s[k] := by
  rw [List.getElem?_eq_getElem (by simpa using h)]; rfl

def bitAtV (o : Int) (s : ByteArray) (at' : Int) : Int := if stOk o s = true ∧ 0 ≤ at' ∧ at' < 8 * s.size then bitV o s at'.toNat else -1

theorem codeBits_at (o : Int) (c : Nat) (i : Nat) (ho : o = 0 ∨ o = 1) (hi : i < 8) (h : i < (codeBitsS o c 8).size) : (((codeBitsS o c 8)[i]'h).toNat : Int) = 48 + dgI c (place o i 8) := by
  have e : (codeBitsS o c 8).data.toList = dl o c 8 8 := by rw [codeBitsS, str_list]; exact (dl_codeBits o c 8 ho (by omega)).symm
  have e1 : (codeBitsS o c 8)[i]'h = (codeBitsS o c 8).data.toList[i]'(by simpa using h) := rfl
  have e2 : (codeBitsS o c 8).data.toList[i]? = some (M.chr (dgI c (place o i 8) == 1)) := by
    rw [e]; simp [dl, hi]
  rw [List.getElem?_eq_getElem (by simpa using h)] at e2
  rw [e1, Option.some.inj e2, chr_dg]

theorem unpackL_len (o : Int) (s : ByteArray) : (unpackL o s).length = 8 * s.size := by simp [unpackL, M.asc, M.unpack_length]
theorem unpackL_get (o : Int) (s : ByteArray) (j : Nat) (ho : o = 0 ∨ o = 1) (hj : j < 8 * s.size) : (unpackL o s)[j]? = some (M.chr (bitV o s j == 1)) := by
  have e : dl o (((s.data.toList[j / 8]?.getD 0).toNat : Nat) : Int) 8 8 = M.codeBits (o == 1) (s.data.toList[j / 8]?.getD 0).toNat 8 := dl_codeBits o _ 8 ho (by omega)
  have e2 : M.asc (M.byteBits (o == 1) (s.data.toList[j / 8]?.getD 0)) = dl o (((s.data.toList[j / 8]?.getD 0).toNat : Nat) : Int) 8 8 := by rw [e]; rfl
  rw [unpackL, M.asc, List.getElem?_map, M.unpack_get _ _ _ (by simpa using hj), ← List.getElem?_map]
  have e3 : (M.byteBits (o == 1) (s.data.toList[j / 8]?.getD 0)).map M.chr = dl o (((s.data.toList[j / 8]?.getD 0).toNat : Nat) : Int) 8 8 := e2
  rw [e3]
  simp only [dl, bitV]
  rw [List.getElem?_map, List.getElem?_range (by omega)]
  rfl

def spanOk (o : Int) (s : ByteArray) (f n : Int) : Bool := stOk o s && inB f 0 (8 * s.size) && inB n 0 (8 * s.size - f)
def spanL (o : Int) (s : ByteArray) (f n : Nat) : List UInt8 := ((unpackL o s).drop f).take n
theorem spanOk_iff {o : Int} {s : ByteArray} {f n : Int} : spanOk o s f n = true ↔ stOk o s = true ∧ (0 ≤ f ∧ f ≤ 8 * s.size) ∧ 0 ≤ n ∧ n ≤ 8 * s.size - f := by simp [spanOk, inB, and_assoc]
theorem spanL_snoc (o : Int) (s : ByteArray) (f k : Nat) (ho : o = 0 ∨ o = 1) (h : f + k < 8 * s.size) : spanL o s f (k + 1) = spanL o s f k ++ [M.chr (bitV o s (f + k) == 1)] := by
  have h1 := unpackL_get o s (f + k) ho h
  rw [spanL, List.take_add_one, List.getElem?_drop, h1]; rfl
theorem spanL_len (o : Int) (s : ByteArray) (f k : Nat) (h : f + k ≤ 8 * s.size) : (spanL o s f k).length = k := by
  simp [spanL, unpackL_len]; omega
theorem chr_bitV (o : Int) (s : ByteArray) (j : Nat) : 48 + bitV o s j = ((M.chr (bitV o s j == 1)).toNat : Int) := chr_dg _ _
end Go.Proofs.YtmfnfheahehpcaaGreatDoor
