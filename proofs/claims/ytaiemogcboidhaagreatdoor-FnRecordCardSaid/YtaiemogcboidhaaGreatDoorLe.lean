/- Fields of texts: numbers and data read from them. -/
import Derived.Test.YtaiemogcboidhaaGreatDoorLc
import Derived.Test.YtaiemogcboidhaaGreatDoorKd
namespace Go.Proofs.YtaiemogcboidhaaGreatDoor
open Go.ChangeShapes Go.WideShapes Go.ChangeAt Go.RowKit Go.Joins
set_option linter.unusedVariables false
set_option linter.unusedSimpArgs false

theorem dec_no32 (n : Int) : ∀ x ∈ (str (dec n)).data.toList, x ≠ (32 : UInt8) := by
  intro x hx e
  rw [str_list] at hx
  have := (dig_dec _ x hx).1
  subst e
  exact absurd this (by decide)
theorem hex_ge (s : List UInt8) : ∀ x ∈ M.hex s, 48 ≤ x.toNat := by
  intro x hx
  unfold M.hex at hx
  rw [List.mem_flatMap] at hx
  obtain ⟨c, _, hc⟩ := hx
  have hc2 := c.toNat_lt
  have key : ∀ n : Fin 16, 48 ≤ (M.hexd n.val).toNat := by decide
  simp only [List.mem_cons, List.not_mem_nil, or_false] at hc
  rcases hc with rfl | rfl
  · exact key ⟨c.toNat / 16, by omega⟩
  · exact key ⟨c.toNat % 16, by omega⟩
theorem fmtHex_ge (s : List UInt8) : ∀ x ∈ M.fmtHex s, 48 ≤ x.toNat := by
  unfold M.fmtHex
  split
  · exact hex_ge s
  · simp
theorem dashH_no32 (d : ByteArray) : ∀ x ∈ (dashI (str (M.fmtHex d.data.toList))).data.toList, x ≠ (32 : UInt8) := by
  intro x hx e
  subst e
  unfold dashI at hx
  split at hx
  · rw [str_list] at hx; simp at hx
  · rw [str_list] at hx
    exact absurd (fmtHex_ge _ _ hx) (by decide)
theorem und_dash (d : ByteArray) (hd : d.size ≤ 4000) : M.parseHex (undI (dashI (str (M.fmtHex d.data.toList)))).data.toList = some d.data.toList := by
  have hl : d.data.toList.length ≤ 4000 := by simpa using hd
  have h2 : M.parseHex (M.fmtHex d.data.toList) = some d.data.toList := by
    rw [M.fmtHex, if_pos hl, M.parseHex, if_pos (by rw [M.hex_length]; omega), M.unhex_hex]
  by_cases hz : (str (M.fmtHex d.data.toList)).size = 0
  · rw [dashI, if_pos hz, undI, if_pos rfl]
    have e0 : M.fmtHex d.data.toList = [] := by rw [str_size] at hz; exact List.length_eq_zero_iff.1 hz
    rw [e0] at h2
    exact h2
  · rw [dashI, if_neg hz]
    have hne : ¬ str (M.fmtHex d.data.toList) = str [45] := by
      intro e
      have e2 : M.fmtHex d.data.toList = [45] := by
        have := congrArg (fun x : ByteArray => x.data.toList) e
        simpa [str_list] using this
      have := fmtHex_ge d.data.toList 45 (by rw [e2]; simp)
      exact absurd this (by decide)
    rw [undI, if_neg hne, str_list]
    exact h2

/-- a number read from a field -/
def NumOf (x : ByteArray) (n : Int) : Prop := ∀ k : Int, 0 ≤ k → k ≤ 1000000000000000 → x = str (dec k) → n = k
/-- data read from a field -/
def DatOf (x D : ByteArray) : Prop := D.size ≤ 4000 ∧ ∀ d : ByteArray, d.size ≤ 4000 → x = dashI (str (M.fmtHex d.data.toList)) → D = d
theorem dat_of {x : ByteArray} {e : Ending} (h : PH (undI x) e) : ∃ (D : ByteArray) (b : Bool), e = .returned (.tuple #[.string D, .bool b]) ∧ DatOf x D := by
  rcases h with ⟨h1, rfl⟩ | ⟨d, h1, rfl⟩
  · refine ⟨_, _, rfl, Nat.zero_le _, fun d hd hx => ?_⟩
    rw [hx, und_dash d hd] at h1
    cases h1
  · have hl : d.length ≤ 4000 := by
      unfold M.parseHex at h1
      split at h1
      · have := M.unhex_length _ _ h1; omega
      · cases h1
    refine ⟨_, _, rfl, by rw [str_size]; exact hl, fun d2 hd hx => ?_⟩
    rw [hx, und_dash d2 hd] at h1
    injection h1 with h1
    rw [← h1, str_self]

theorem bytes_neI {a b : ByteArray} (h : ¬ a = b) : (a.toList == b.toList) = false := by
  rw [ByteArray.toList_eq, ByteArray.toList_eq, beq_eq_false_iff_ne]
  intro e
  exact h (ByteArray.ext (Array.toList_inj.1 e))
theorem Blk.set_farI {w : World} {g R : Nat} {t : TypeId} {cs : Array Value} (h : Blk w g t cs) (i : Nat) (a : Value) (hn : g ≠ R) : Blk (w.setCell ⟨R, i, none⟩ a) g t cs :=
  h.grown (grown_set (grown_refl w (some R)) i a) (by simp; omega)
theorem cutL_len (c : UInt8) : ∀ (T : List UInt8) (x : List UInt8), x ∈ cutL c T → x.length ≤ T.length
  | [], x, h => by simp [cutL] at h; subst h; simp
  | b :: r, x, h => by
    have ih := cutL_len c r
    rw [cutL] at h
    split at h
    · rcases List.mem_cons.1 h with rfl | h
      · simp
      · have := ih x h; simp; omega
    · split at h
      · simp at h; subst h; simp
      · rename_i p q e
        rw [e] at ih
        rcases List.mem_cons.1 h with rfl | h
        · have := ih p (by simp); simp; omega
        · have := ih x (by simp [h]); simp; omega
theorem cut_sizes {c : UInt8} {T : ByteArray} {l : List ByteArray} (h : l.map (·.data.toList) = cutL c T.data.toList) (x : ByteArray) (hx : x ∈ l) : x.size ≤ T.size := by
  have h1 := cutL_len c T.data.toList x.data.toList (by rw [← h]; exact List.mem_map_of_mem hx)
  simpa using h1
theorem cut_one {T : ByteArray} {l : List ByteArray} (h : l.map (·.data.toList) = cutL 32 T.data.toList) (h3 : 2 ≤ l.length) : ¬ T = ByteArray.empty := by
  rintro rfl
  have h1 := congrArg List.length h
  rw [List.length_map] at h1
  have h2 : (cutL 32 (ByteArray.empty.data.toList)).length = 1 := rfl
  omega

theorem c_readHex (x : ByteArray) (w : World) (hx : x.size ≤ maxLen) : Calls Tryz.prog 72 #[.string (undI x)] w fun e w' => (∃ (D : ByteArray) (b : Bool), e = .returned (.tuple #[.string D, .bool b]) ∧ DatOf x D) ∧ Below w.heap.size w w' :=
  (c_ParseHex (undI x) w (Nat.le_trans (undI_size x) hx)).mono fun _ _ h => ⟨dat_of h.1, h.2⟩
theorem c_sreadHex (x : ByteArray) (w : World) (hx : x.size ≤ 1048576) : Calls Tryz.prog 38 #[.string (undI x)] w fun e w' => (∃ (D : ByteArray) (b : Bool), e = .returned (.tuple #[.string D, .bool b]) ∧ DatOf x D) ∧ Below w.heap.size w w' :=
  (c_sParseHex (undI x) w (Nat.le_trans (undI_size x) hx)).mono fun _ _ h => ⟨dat_of h.1, h.2⟩
end Go.Proofs.YtaiemogcboidhaaGreatDoor
