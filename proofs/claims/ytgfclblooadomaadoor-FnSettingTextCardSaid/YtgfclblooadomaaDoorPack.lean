/- Contracts of PackBits in both programs, and of what it calls. -/
import Derived.Test.YtgfclblooadomaaDoorRb
namespace Go.Proofs.YtgfclblooadomaaDoor
open Go.ChangeShapes Go.WideShapes Go.ChangeAt Go.RowKit Go.Joins
set_option linter.unusedVariables false

/-- a word n times -/
def rep (l : List UInt8) (n : Nat) : List UInt8 := (List.replicate n l).flatten
theorem rep_len (l : List UInt8) (n : Nat) : (rep l n).length = n * l.length := by simp [rep]
theorem rep_add (l : List UInt8) (a b : Nat) : rep l a ++ rep l b = rep l (a + b) := by simp [rep, ← List.replicate_append_replicate]

theorem rep_one (c : UInt8) (n : Nat) : rep [c] n = List.replicate n c := by
  induction n with
  | zero => rfl
  | succ n ih => simp only [rep, List.replicate_succ, List.flatten_cons] at *; rw [ih]; rfl
def padL (s : ByteArray) : ByteArray := str (s.data.toList ++ List.replicate (M.padN s.size) 48)
theorem bitsL_padL (s : ByteArray) : bitsL (padL s) = M.pad (bitsL s) := by
  rw [bitsL, padL, str_list, List.map_append, List.map_replicate, M.pad, bitsL_len]; rfl
theorem padL_size (s : ByteArray) : (padL s).size = 8 * ((s.size + 7) / 8) := by
  rw [← bitsL_len, bitsL_padL, M.pad_length, bitsL_len]
theorem padL_bits {s : ByteArray} (h : s.data.toList.all isBit = true) : (padL s).data.toList.all isBit = true := by
  rw [padL, str_list, List.all_append, h, Bool.true_and]
  rw [List.all_eq_true]
  intro x hx
  rw [(List.mem_replicate.1 hx).2]; rfl
theorem extract_bits (s : ByteArray) (a b : Nat) (hb : b ≤ s.size) : bitsL (s.extract a b) = ((bitsL s).drop a).take (b - a) := by
  simp [bitsL, List.map_drop, List.map_take]
theorem extract_all {s : ByteArray} (h : s.data.toList.all isBit = true) (a b : Nat) : (s.extract a b).data.toList.all isBit = true := by
  rw [List.all_eq_true] at *
  intro x hx
  refine h x ?_
  simp at hx
  exact List.mem_of_mem_drop (List.mem_of_mem_take hx)

theorem numByte (h : Bool) (l : List Bool) (hl : l.length = 8) : (((M.num (M.dir h l) : Nat) : Int)) = ((M.byteOf h l).toNat : Int) := by
  have h1 := M.num_lt (M.dir h l)
  rw [M.dir_length, hl] at h1
  have e : M.byteOf h l = UInt8.ofNat (M.num (M.dir h l)) := by simp [M.byteOf, hl]
  rw [e, UInt8.toNat_ofNat']; omega

theorem packN_snoc (h : Bool) (k : Nat) (l : List Bool) : M.packN h (k + 1) l = M.packN h k l ++ [M.byteOf h ((l.drop (8 * k)).take 8)] := by
  induction k generalizing l with
  | zero => simp [M.packN]
  | succ k ih =>
    rw [M.packN, ih, M.packN, List.drop_drop, List.cons_append]
    congr 6; omega

theorem Tryd.info_u8b : (Tryd.prog.info? 5).map (fun i => (i.zero, i.size, i.bytes)) = some (some (.int .u8 0), 1, 1) := by kernel_rfl

def packS (o : Int) (s : ByteArray) : ByteArray := str (M.pack (o == 1) (bitsL s))
def packOk (o : Int) (s : ByteArray) : Bool := orderOk o && bitsOk s
theorem bitsOk_size {s : ByteArray} (h : bitsOk s = true) : s.size ≤ 32000 := by simp only [bitsOk, Bool.and_eq_true, decide_eq_true_eq] at h; exact h.1
theorem numK_byteOf (h : Bool) (l : List Bool) (hl : l.length ≤ 8) : ((M.numK h 8 l : Nat) : Int) = ((M.byteOf h l).toNat : Int) ∧ M.numK h 8 l < 256 := by
  have h1 := M.numK_lt h 8 l hl
  refine ⟨?_, h1⟩
  have e : M.byteOf h l = UInt8.ofNat (M.numK h 8 l) := by rw [M.numK_byte]; rfl
  rw [e, UInt8.toNat_ofNat']; omega
end Go.Proofs.YtgfclblooadomaaDoor
