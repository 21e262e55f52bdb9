/- Contracts of TurnBytes in both programs. -/
import Derived.Test.YtlocmgibmclgnaaBit
namespace Go.Proofs.Ytlocmgibmclgnaa
open Go.ChangeShapes Go.WideShapes Go.ChangeAt Go.RowKit Go.Joins
set_option linter.unusedVariables false

/-- Block G holds the bytes l, none of them frozen. -/
def RowAt (w : World) (G : Nat) (l : List UInt8) : Prop := ∀ j, j < l.length → w.cell? ⟨G, j, none⟩ = some (.int .u8 ((l[j]?.getD 0).toNat : Int)) ∧ w.frozen? ⟨G, j, none⟩ = false

theorem RowAt.set_ {w : World} {G : Nat} {l : List UInt8} (h : RowAt w G l) (k : Nat) (hk : k < l.length) (X : Int) (c : UInt8) (hX : X = (c.toNat : Int)) : RowAt (w.setCell ⟨G, k, none⟩ (.int .u8 X)) G (l.set k c) := by
  intro j hj
  rw [List.length_set] at hj
  obtain ⟨h1, h2⟩ := h j hj
  by_cases e : j = k
  · subst e
    refine ⟨?_, ?_⟩
    · rw [List.getElem?_set_self hk, hX]; exact World.cell?_setCell_same _ _ _ h1
    · rw [World.frozen?_setCell]; exact h2
  · refine ⟨?_, ?_⟩
    · rw [List.getElem?_set_ne (by omega), World.cell?_setCell_other _ _ _ _ (by simp; try omega)]; exact h1
    · rw [World.frozen?_setCell]; exact h2

theorem rowAt_new (w : World) (s : ByteArray) (c : Nat) (e : TypeId) (hc : s.size ≤ (bytesRow s c).size) : RowAt (w.alloc (.cells (bytesRow s c) e ((bytesRow s c).size, (bytesRow s c).size + 1))) w.heap.size s.data.toList := by
  intro j hj
  have hj2 : j < s.size := by simpa using hj
  refine ⟨?_, ?_⟩
  · rw [World.cell?_alloc_mark, bytesRow_at s c j (by simpa using hj), List.getElem?_eq_getElem hj]; simp
  · rw [World.frozen?_alloc_mark]; simp; omega
theorem bytesRow_size (s : ByteArray) (c : Nat) : s.size ≤ (bytesRow s c).size := by simp [bytesRow]

def turnS (s : ByteArray) : ByteArray := str (M.turn s.data.toList)
theorem rev_turn (c : UInt8) : (revV (c.toNat : Int) 8 : Int) = ((M.turnByte c).toNat : Int) := by
  have h1 := M.num_lt (M.dir true (M.bitsOf 8 c.toNat))
  rw [M.dir_length, M.bitsOf_length] at h1
  have e : M.turnByte c = UInt8.ofNat (M.num (M.dir true (M.bitsOf 8 c.toNat))) := by
    rw [M.turnByte, M.byteOf, M.byteBits_length]; simp [M.byteBits, M.dir]
  rw [e, UInt8.toNat_ofNat']
  show ((M.num (M.dir true (M.bitsOf 8 c.toNat)) : Nat) : Int) = _
  omega
def turnK (s : ByteArray) (k : Nat) : List UInt8 := M.turn (s.data.toList.take k) ++ s.data.toList.drop k
theorem turnK_len (s : ByteArray) (k : Nat) : (turnK s k).length = s.size := by simp [turnK, M.turn]; omega
theorem turnK_at (s : ByteArray) (k : Nat) (hk : k < s.size) : (turnK s k)[k]?.getD 0 = s[k] := by
  have hl : (M.turn (s.data.toList.take k)).length = k := by simp [M.turn]; omega
  rw [turnK, List.getElem?_append_right (by omega), hl, Nat.sub_self, List.getElem?_drop, Nat.add_zero]
  exact byte_getD s k hk
theorem turnK_set (s : ByteArray) (k : Nat) (hk : k < s.size) : (turnK s k).set k (M.turnByte s[k]) = turnK s (k + 1) := by
  have hl : (M.turn (s.data.toList.take k)).length = k := by simp [M.turn]; omega
  have hd : s.data.toList.drop k = s[k] :: s.data.toList.drop (k + 1) := by
    rw [List.drop_eq_getElem_cons (by simpa using hk)]; rfl
  rw [turnK, turnK, List.set_append, hl, if_neg (by omega), Nat.sub_self, hd, List.set_cons_zero, take_snoc s k hk]
  simp [M.turn]
end Go.Proofs.Ytlocmgibmclgnaa
