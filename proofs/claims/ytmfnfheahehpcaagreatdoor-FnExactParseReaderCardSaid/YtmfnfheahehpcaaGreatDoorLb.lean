/- Texts cut and numbers read, in both programs: SplitN, Atoi, l9Cut, l9Num, dashes taken away. -/
import Derived.Test.YtmfnfheahehpcaaGreatDoorLa
import Derived.Test.YtmfnfheahehpcaaGreatDoorUnhex
import Derived.Test.YtmfnfheahehpcaaGreatDoorYn
namespace Go.Proofs.YtmfnfheahehpcaaGreatDoor
open Go.ChangeShapes Go.WideShapes Go.ChangeAt Go.RowKit Go.Joins
set_option linter.unusedVariables false
set_option linter.unusedSimpArgs false

/-- the cells of the library's two error values -/
def ErrAt (w : World) : Prop := ∃ e0 e1 : Value, w.cell? ⟨0, 0, none⟩ = some e0 ∧ (e0 = .nilIface ∨ ∃ te pe, e0 = .iface te pe) ∧ w.cell? ⟨1, 0, none⟩ = some e1 ∧ (e1 = .nilIface ∨ ∃ te pe, e1 = .iface te pe)
theorem cell_kept {w W : World} {g o : Nat} {x : Value} (h : w.cell? ⟨g, o, none⟩ = some x) (c : Below w.heap.size w W) : W.cell? ⟨g, o, none⟩ = some x :=
  ((bcell c).1 g o (World.block_lt_of_cell? w _ h)).trans h
theorem ErrAt.kept {w W : World} (h : ErrAt w) (c : Below w.heap.size w W) : ErrAt W := by
  obtain ⟨e0, e1, h0, t0, h1, t1⟩ := h
  exact ⟨e0, e1, cell_kept h0 c, t0, cell_kept h1 c, t1⟩

theorem c_Atoi (s : ByteArray) (w : World) (hs : s.size ≤ 281474976710656) (hE : ErrAt w) : Calls Tryz.prog 39 #[.string s] w fun e w' => (∃ (n : Int) (ev : Value), e = .returned (.tuple #[.int .i64 n, ev]) ∧ (-9223372036854775808 ≤ n ∧ n ≤ 9223372036854775807) ∧ (∀ v : Int, Lib.atoiAll s.data.toList = .ok v → n = v)) ∧ Below w.heap.size w w' := by
  obtain ⟨e0, e1, h0, t0, h1, t1⟩ := hE
  cases h : Lib.atoiAll s.data.toList with
  | ok v =>
    refine (Any.strconv_Atoi_ok Tryz.laysC172 s (by omega) v h w).mono ?_
    rintro e w' ⟨rfl, hw⟩
    refine ⟨⟨v, _, rfl, Lib.atoiAll_bounds h, fun u hu => by cases hu; rfl⟩, ?_⟩
    rcases hw with rfl | ⟨x, rfl⟩
    · exact Below.refl _ _
    · exact Lib.bytesWorld_below _ _ _
  | range =>
    refine (Any.strconv_Atoi_range Tryz.laysC172 s hs h e1 w h1 t1).mono ?_
    rintro e w' ⟨M, rfl, _, _, hb⟩
    refine ⟨⟨_, _, rfl, ?_, fun u hu => by cases hu⟩, hb⟩
    unfold Lib.atoiSat
    split <;> omega
  | _ =>
    refine (Any.strconv_Atoi_syntax Tryz.laysC172 s hs h e0 w h0 t0).mono ?_
    rintro e w' ⟨M, rfl, _, _, hb⟩
    exact ⟨⟨_, _, rfl, by omega, fun u hu => by cases hu⟩, hb⟩

theorem splitB_size (sep : ByteArray) (k : Nat) : ∀ s x : ByteArray, x ∈ Lib.splitB sep 0 k s → x.size ≤ s.size := by
  induction k with
  | zero => intro s x h; rw [Lib.splitB] at h; rw [List.mem_singleton.1 h]; exact Nat.le_refl _
  | succ k ih =>
    intro s x h
    rw [Lib.splitB] at h
    split at h
    · rw [List.mem_singleton.1 h]; exact Nat.le_refl _
    · rcases List.mem_cons.1 h with rfl | h
      · rw [ByteArray.size_extract]; omega
      · have := ih _ _ h; rw [ByteArray.size_extract] at this; omega
theorem splitB_pos (sep : ByteArray) (k : Nat) (s : ByteArray) : 1 ≤ (Lib.splitB sep 0 k s).length := by
  cases k with
  | zero => simp [Lib.splitB]
  | succ k => rw [Lib.splitB]; split <;> simp

/-- a row of texts is what was joined by a byte -/
def CutAs (c : UInt8) (n : Nat) (t : ByteArray) (l : List ByteArray) : Prop := ∀ fs : List ByteArray, fs ≠ [] → fs.length ≤ n → (∀ f ∈ fs, ∀ x ∈ f.data.toList, x ≠ c) → t.data.toList = joinL c (fs.map (·.data.toList)) → l = fs
theorem bytes_back {l fs : List ByteArray} (h : l.map (·.data.toList) = fs.map (·.data.toList)) : l = fs := by
  induction l generalizing fs with
  | nil => cases fs with
    | nil => rfl
    | cons a r => simp at h
  | cons a r ih => cases fs with
    | nil => simp at h
    | cons b q =>
      simp only [List.map_cons, List.cons.injEq] at h
      rw [ih h.2, ByteArray.ext (Array.toList_inj.1 h.1)]

theorem c_SplitN (c : UInt8) (n : Nat) (t : ByteArray) (w : World) (ht : t.size ≤ 1048576) (hn : 1 ≤ n) (hn2 : n ≤ 1000) (mm : Int) (hm : w.cell? ⟨3, 0, none⟩ = some (.int .i64 mm)) :
    Calls Tryz.prog 37 #[.string t, .string ⟨#[c]⟩, .int .i64 n] w fun e w' => ∃ (l : List ByteArray) (cap : Nat), 1 ≤ l.length ∧ l.length ≤ n ∧ l.length ≤ cap ∧ cap ≤ n ∧ (∀ x ∈ l, x.size ≤ t.size) ∧ CutAs c n t l ∧ (t = ByteArray.empty → l = [ByteArray.empty]) ∧ e = .returned (.slice (some ⟨w.heap.size, 0, none⟩) l.length cap) ∧ w' = w.alloc (.cells (Lib.cellsOf l cap) 9) := by
  have hz : (⟨#[c]⟩ : ByteArray).size = 1 := rfl
  refine (Tryz.strings_SplitN t ⟨#[c]⟩ n mm w (by omega) hm (by omega) hn (by omega)).mono ?_
  rintro e w' ⟨he, hw⟩
  have hle := Lib.splitB_length_le ⟨#[c]⟩ 0 (min n (t.size + 1) - 1) t
  refine ⟨_, _, splitB_pos _ _ _, by omega, by omega, by omega, fun x hx => splitB_size _ _ _ x hx, ?_, ?_, he, hw⟩
  · intro fs h1 h2 h3 h4
    have hk := join_len c (fs.map (·.data.toList))
    rw [List.length_map, ← h4] at hk
    have hts : t.data.toList.length = t.size := by simp
    rw [hts] at hk
    have := splitK_join c (fs.map (·.data.toList)) (min n (t.size + 1) - 1) (by simpa using h1) (by rw [List.length_map]; omega) (by
      intro f hf x hx
      obtain ⟨g, hg, rfl⟩ := List.mem_map.1 hf
      exact h3 g hg x hx)
    refine bytes_back ?_
    rw [Lib.splitB_data, h4]
    exact this
  · rintro rfl
    have e0 : min n (ByteArray.empty.size + 1) - 1 = 0 := by
      have : ByteArray.empty.size = 0 := rfl
      omega
    rw [e0]; rfl

theorem cells_of_at (l : List ByteArray) (cap i : Nat) (s : ByteArray) (h : l[i]? = some s) : (Lib.cellsOf l cap)[i]? = some (.string s) := by
  have hi : i < l.length := (List.getElem?_eq_some_iff.1 h).1
  unfold Lib.cellsOf
  rw [List.getElem?_toArray, List.getElem?_append_left (by rw [List.length_map]; exact hi), List.getElem?_map, h]
  rfl

/-- a dash taken away -/
def undI (T : ByteArray) : ByteArray := if T = str [45] then ByteArray.empty else T
theorem undI_size (T : ByteArray) : (undI T).size ≤ T.size := by
  unfold undI; split
  · exact Nat.zero_le _
  · exact Nat.le_refl _
theorem dash_yes {T : ByteArray} (h : T = str [45]) : (T.toList == [45]) = true := by rw [h, ByteArray.toList_eq]; rfl
theorem dash_no {T : ByteArray} (h : ¬ T = str [45]) : (T.toList == [45]) = false := by
  rw [ByteArray.toList_eq, beq_eq_false_iff_ne]
  intro e
  exact h (ByteArray.ext (Array.toList_inj.1 e))
theorem c_emptyIfDash (T : ByteArray) (w : World) : Calls Tryz.prog 53 #[.string T] w (Same (.string (undI T)) w) := by
  by_cases h : T = str [45]
  · have hb := dash_yes h
    rw [undI, if_pos h]
    clear h
    go_enter Tryz.func53, Tryz.ntmps53
    go_wp2
    go_ret
    exact ⟨rfl, rfl⟩
  · have hb := dash_no h
    rw [undI, if_neg h]
    clear h
    go_enter Tryz.func53, Tryz.ntmps53
    go_wp2
    go_ret
    exact ⟨rfl, rfl⟩

theorem c_l3None (T : ByteArray) (w : World) : Calls Tryz.prog 51 #[.string T] w (Same (.string (undI T)) w) := by
  by_cases h : T = str [45]
  · have hb := dash_yes h
    rw [undI, if_pos h]
    clear h
    go_enter Tryz.func51, Tryz.ntmps51
    go_wp2
    go_ret
    exact ⟨rfl, rfl⟩
  · have hb := dash_no h
    rw [undI, if_neg h]
    clear h
    go_enter Tryz.func51, Tryz.ntmps51
    go_wp2
    go_ret
    exact ⟨rfl, rfl⟩
end Go.Proofs.YtmfnfheahehpcaaGreatDoor
