/- Decimal numbers by the library's table, dashes in place of empty texts, FormatPatch in both programs, its law's walk. The library's table is as the program's text lays it. -/
import Derived.Test.YtmfnfheahehpcaaGreatDoorFs
import Derived.Test.YtmfnfheahehpcaaGreatDoorHex
import Derived.Test.YtmfnfheahehpcaaGreatDoorIb
import Derived.Lib.Join
import Derived.Test.YtmfnfheahehpcaaGreatDoorQz
import Derived.Lib.LaidTab
import Derived.Lib.AppendIntMem
import Derived.Deep.QuietTactic
import Derived.BigQuiet
namespace Go.Proofs.YtmfnfheahehpcaaGreatDoor
open Go.ChangeShapes Go.WideShapes Go.ChangeAt Go.RowKit Go.Joins
set_option linter.unusedVariables false
set_option linter.unusedSimpArgs false

/-- a table is kept -/
theorem tabOn {nm : String} {k : IntKind} {zs : List Int} {w w' : World} (h : Lib.TabIs Tryz.prog w nm k zs) (hb : Below w.heap.size w w') : Lib.TabIs Tryz.prog w' nm k zs := by
  unfold Lib.TabIs World.var? at h ⊢
  cases hg : Tryz.prog.globalNamed nm with
  | none => rw [hg] at h; cases h
  | some g =>
    rw [hg] at h
    simp only [Option.bind_some] at h ⊢
    rcases Nat.lt_or_ge g w.heap.size with h1 | h1
    · rw [hb.block g h1]; exact h
    · rw [Array.getElem?_eq_none h1] at h; cases h

theorem same_belI {P : Program} {f : FuncId} {args : Array Value} {v : Value} {w : World} (h : Calls P f args w (fun e w2 => e = .returned v ∧ w = w2)) : Calls P f args w fun e w2 => e = .returned v ∧ Below w.heap.size w w2 := h.mono fun e w2 h2 => ⟨h2.1, by rw [h2.2]; exact Below.refl _ _⟩
theorem itoa_dec (n : Int) (h : 0 ≤ n) : Lib.itoa n = dec n := by unfold Lib.itoa dec; rw [if_neg (by omega)]
/-- the library writes numbers, in this world and what it becomes -/
def Tab (w : World) : Prop := ∀ (v : World), Below w.heap.size w v → ∀ n : Int, 0 ≤ n → n ≤ 1000000000 → Calls Tryz.prog 25 #[.int .i64 n] v fun e w' => e = .returned (.string (str (dec n))) ∧ Below v.heap.size v w'
theorem Tab.on {w w' : World} (h : Tab w) (hb : Below w.heap.size w w') : Tab w' := fun v hv n h0 h1 => h v (hb.trans (hv.mono hb.size)) n h0 h1
theorem itoaOf {n : Int} {v : World} (h0 : 0 ≤ n) (h : Calls Tryz.prog 25 #[.int .i64 n] v fun e w' => e = .returned (.string ⟨(Lib.itoa n).toArray⟩) ∧ ∃ k os, w' = Go.Sort.grow (v.drewN k) os) : Calls Tryz.prog 25 #[.int .i64 n] v fun e w' => e = .returned (.string (str (dec n))) ∧ Below v.heap.size v w' := by
  refine h.mono ?_
  rintro e w' ⟨rfl, k, os, rfl⟩
  rw [itoa_dec n h0]
  exact ⟨rfl, Lib.below_grow _ v (Nat.le_refl _) k os⟩
theorem c_itoaT (n : Int) (w : World) (h0 : 0 ≤ n) (h1 : n ≤ 1000000000) (hT : Tab w) : Calls Tryz.prog 25 #[.int .i64 n] w fun e w' => e = .returned (.string (str (dec n))) ∧ Below w.heap.size w w' := hT w (Below.refl _ w) n h0 h1
theorem dec_len (n : Int) (h0 : 0 ≤ n) (h1 : n ≤ 1000000000) : 1 ≤ (dec n).length ∧ (dec n).length ≤ 10 := by
  refine ⟨?_, decD_len 9 n.toNat (by simp; omega)⟩
  unfold dec
  by_cases h : n.toNat < 10
  · rw [decD_small h]; simp
  · rw [decD_big (by omega)]; simp

def dashI (T : ByteArray) : ByteArray := if T.size = 0 then str [45] else T
theorem size_zeroI {T : ByteArray} (h : T.size = 0) : T = ByteArray.empty := by
  apply ByteArray.ext
  apply Array.toList_inj.1
  have : T.data.toList.length = 0 := by simpa using h
  rw [List.length_eq_zero_iff.1 this]; rfl
theorem isEmpty_noI {T : ByteArray} (h : ¬ T.size = 0) : T.toList.isEmpty = false := by
  rw [ByteArray.toList_eq]
  cases e : T.data.toList with
  | nil => exact absurd (by have : T.data.toList.length = 0 := by rw [e]; rfl
                            simpa using this) h
  | cons a r => rfl
theorem dashI_size {T : ByteArray} {n : Nat} (h : T.size ≤ n) (hn : 1 ≤ n) : (dashI T).size ≤ n := by
  unfold dashI; split
  · rw [str_size]; simpa using hn
  · exact h

theorem c_dashIfEmptyI (T : ByteArray) (w : World) : Calls Tryz.prog 58 #[.string T] w (Same (.string (dashI T)) w) := by
  by_cases h : T.size = 0
  · rw [dashI, if_pos h, size_zeroI h]
    go_enter Tryz.func58, Tryz.ntmps58
    go_wp2
    go_ret
    exact ⟨rfl, rfl⟩
  · rw [dashI, if_neg h]
    have he := isEmpty_noI h
    clear h
    go_enter Tryz.func58, Tryz.ntmps58
    go_wp2
    go_ret
    exact ⟨rfl, rfl⟩

theorem c_l3SomeI (T : ByteArray) (w : World) : Calls Tryz.prog 31 #[.string T] w (Same (.string (dashI T)) w) := by
  by_cases h : T.size = 0
  · rw [dashI, if_pos h, size_zeroI h]
    go_enter Tryz.func31, Tryz.ntmps31
    go_wp2
    go_ret
    exact ⟨rfl, rfl⟩
  · rw [dashI, if_neg h]
    have he := isEmpty_noI h
    clear h
    go_enter Tryz.func31, Tryz.ntmps31
    go_wp2
    go_ret
    exact ⟨rfl, rfl⟩

/-- a patch is valid -/
def pvOk (f t : Int) (d : ByteArray) : Prop := (0 ≤ f ∧ f ≤ t) ∧ t ≤ 2000 ∧ d.size ≤ 2000
instance (f t : Int) (d : ByteArray) : Decidable (pvOk f t d) := by unfold pvOk; exact inferInstance
/-- the three fields -/
def fpF (f t : Int) (d : ByteArray) : List ByteArray := [str (dec f), str (dec t), dashI (str (M.fmtHex d.data.toList))]
def fpT (f t : Int) (d : ByteArray) : ByteArray := if pvOk f t d then ((str (dec f) ++ str [32]) ++ str (dec t) ++ str [32]) ++ dashI (str (M.fmtHex d.data.toList)) else ByteArray.empty
theorem hexI_len {d : ByteArray} (h : d.size ≤ 2000) : (M.fmtHex d.data.toList).length ≤ 4000 := by
  rw [M.fmtHex]
  split
  · rw [M.hex_length]; simp; omega
  · simp
theorem fp_join (x y z : ByteArray) : (⟨(Lib.join ([x, y, z].map (·.data.toList)) [32]).toArray⟩ : ByteArray) = (x ++ str [32] ++ y ++ str [32]) ++ z := by
  have e : Lib.join ([x, y, z].map (·.data.toList)) [32] = x.data.toList ++ [32] ++ y.data.toList ++ [32] ++ z.data.toList := by
    simp [Lib.join, List.intercalate]
  rw [e]
  show str _ = _
  rw [← str_append, ← str_append, ← str_append, ← str_append, str_self, str_self, str_self]

theorem pv_eq (f t : Int) (d : ByteArray) : decide (0 ≤ f ∧ f ≤ t ∧ t ≤ 2000 ∧ d.size ≤ 2000) = decide (pvOk f t d) := by
  by_cases h : pvOk f t d
  · rw [decide_eq_true h, decide_eq_true ⟨h.1.1, h.1.2, h.2.1, h.2.2⟩]
  · rw [decide_eq_false h, decide_eq_false (fun h9 => h ⟨⟨h9.1, h9.2.1⟩, h9.2.2.1, h9.2.2.2⟩)]
end Go.Proofs.YtmfnfheahehpcaaGreatDoor
