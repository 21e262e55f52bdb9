/- What the program's errors and the layout are, in a world; the strings behind the first bytes of a stream. No condition. -/
import Derived.Test.YtmlaaammfnboiaaGreatDoorUb
import Derived.Test.YtmlaaammfnboiaaGreatDoorPh
namespace Go.Proofs.YtmlaaammfnboiaaGreatDoor
open Go.ChangeShapes Go.WideShapes Go.ChangeAt Go.RowKit Go.Joins
set_option linter.unusedVariables false

/-- an error that the program has made at its start -/
def errV (a : Addr) : Value := .iface 212 (.pointer (some a))

/-- the layout and the first error alone: some laws' texts name no other -/
structure Glob0 (w : World) (a0 : Addr) : Prop where
 lay : Lay w
 broken : w.cell? ⟨3, 0, none⟩ = some (errV a0)

theorem Glob0.on {w w' : World} {a0 : Addr} (h : Glob0 w a0) (hb : Below w.heap.size w w') : Glob0 w' a0 :=
 ⟨h.lay.on hb, cell_to h.broken hb⟩

/-- the layout and the three errors of chapter 5 -/
structure Glob (w : World) (a0 a1 a2 : Addr) : Prop where
 lay : Lay w
 broken : w.cell? ⟨3, 0, none⟩ = some (errV a0)
 number : w.cell? ⟨1, 0, none⟩ = some (errV a1)
 long : w.cell? ⟨2, 0, none⟩ = some (errV a2)

theorem Glob.on {w w' : World} {a0 a1 a2 : Addr} (h : Glob w a0 a1 a2) (hb : Below w.heap.size w w') : Glob w' a0 a1 a2 :=
 ⟨h.lay.on hb, cell_to h.broken hb, cell_to h.number hb, cell_to h.long hb⟩

theorem Glob.g0 {w : World} {a0 a1 a2 : Addr} (h : Glob w a0 a1 a2) : Glob0 w a0 := ⟨h.lay, h.broken⟩

/-- the string behind the first j bytes -/
def dr (S : ByteArray) (j : Nat) : ByteArray := S.extract j S.size

theorem dr_zero (S : ByteArray) : dr S 0 = S := by
 simp [dr]

theorem dr_size (S : ByteArray) (j : Nat) : (dr S j).size = S.size - j := by
 rw [dr, ByteArray.size_extract]; omega

theorem dr_list (S : ByteArray) (j : Nat) : (dr S j).data.toList = S.data.toList.drop j := by
 simp [dr, ByteArray.data_extract, List.extract]
 rw [List.take_of_length_le (by simp)]

theorem dr_dr (S : ByteArray) (i j : Nat) : dr (dr S i) j = dr S (i + j) := by
 apply ByteArray.ext
 apply Array.toList_inj.1
 rw [dr_list, dr_list, dr_list, List.drop_drop]

theorem dr_empty {S : ByteArray} {j : Nat} (h : S.size ≤ j) : (dr S j).toList.isEmpty = true := by
 have : dr S j = ByteArray.empty := by
  apply ByteArray.ext
  apply Array.toList_inj.1
  rw [dr_list, List.drop_of_length_le (by simpa using h)]
  rfl
 rw [this, ByteArray.toList_eq]; rfl

theorem toList_size (S : ByteArray) (h : S.toList.isEmpty = true) : S.size = 0 := by
 rw [ByteArray.toList_eq, List.isEmpty_iff] at h
 have := congrArg List.length h
 simpa using this

theorem dr_not {S : ByteArray} {j : Nat} (h : j < S.size) : (dr S j).toList.isEmpty = false := by
 cases hh : (dr S j).toList.isEmpty with
 | false => rfl
 | true =>
  have := toList_size _ hh
  rw [dr_size] at this
  omega

theorem dr_get {P : Program} {t : TypeId} (ht : P.underlying t = some .string) {S : ByteArray} {j : Nat} (h : j < S.size) (w : World) :
  (Instr.index t (.string (dr S j)) (.int .i64 0)).run P w = .ok (.int .u8 ((bat S.data.toList j : Nat) : Int)) w := by
 rw [idx_st ht (dr S j) 0 (by rw [dr_size]; omega) .i64 0 rfl w]
 have e1 : (dr S j)[0]'(by rw [dr_size]; omega) = (S.data.toList.getD j 0) := by
  have e2 : (dr S j)[0]'(by rw [dr_size]; omega) = (dr S j).data.toList[0]'(by rw [dr_list]; simp; omega) := rfl
  rw [e2, List.getD_eq_getElem?_getD, List.getElem?_eq_getElem (by simpa using h)]
  simp only [dr_list, List.getElem_drop, Option.getD_some, Nat.add_zero]
 rw [e1]; rfl

theorem dr_cut {P : Program} {t : TypeId} (ht : P.underlying t = some .string) {S : ByteArray} {j : Nat} (h : j < S.size) (w : World) :
  (Instr.slice t (.string (dr S j)) (some (.int .i64 1)) none none).run P w = .ok (.string (dr S (j + 1))) w := by
 rw [run_slice_string_l w t (dr S j) ht .i64 1 (by omega) (by rw [dr_size]; omega)]
 rw [← dr_dr]; rfl
end Go.Proofs.YtmlaaammfnboiaaGreatDoor
