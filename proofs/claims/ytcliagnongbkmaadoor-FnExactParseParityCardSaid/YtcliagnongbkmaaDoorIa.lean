/- Decimal numbers by the library's table, dashes in place of empty texts, FormatPatch in both programs, its law's walk. The library's table is as the program's text lays it. -/
import Derived.Test.YtcliagnongbkmaaDoorFs
import Derived.Test.YtcliagnongbkmaaDoorHex
import Derived.Test.YtcliagnongbkmaaDoorIb
import Derived.Lib.Join
import Derived.Test.YtcliagnongbkmaaDoorQz
import Derived.Lib.LaidTab
import Derived.Lib.AppendIntMem
import Derived.Deep.QuietTactic
import Derived.BigQuiet
namespace Go.Proofs.YtcliagnongbkmaaDoor
open Go.ChangeShapes Go.WideShapes Go.ChangeAt Go.RowKit Go.Joins
set_option linter.unusedVariables false
set_option linter.unusedSimpArgs false

/-- a table is kept -/
theorem tabOn {nm : String} {k : IntKind} {zs : List Int} {w w' : World} (h : Lib.TabIs Tryd.prog w nm k zs) (hb : Below w.heap.size w w') : Lib.TabIs Tryd.prog w' nm k zs := by
  unfold Lib.TabIs World.var? at h ⊢
  cases hg : Tryd.prog.globalNamed nm with
  | none => rw [hg] at h; cases h
  | some g =>
    rw [hg] at h
    simp only [Option.bind_some] at h ⊢
    rcases Nat.lt_or_ge g w.heap.size with h1 | h1
    · rw [hb.block g h1]; exact h
    · rw [Array.getElem?_eq_none h1] at h; cases h

theorem same_belI {P : Program} {f : FuncId} {args : Array Value} {v : Value} {w : World} (h : Calls P f args w (fun e w2 => e = .returned v ∧ w = w2)) : Calls P f args w fun e w2 => e = .returned v ∧ Below w.heap.size w w2 := h.mono fun e w2 h2 => ⟨h2.1, by rw [h2.2]; exact Below.refl _ _⟩
theorem itoa_dec (n : Int) (h : 0 ≤ n) : Lib.itoa n = dec n := by unfold Lib.itoa dec; rw [if_neg (by omega)]
/-- the library writes numbers, in this world and what it becomes -/
def Tab (w : World) : Prop := ∀ (v : World), Below w.heap.size w v → ∀ n : Int, 0 ≤ n → n ≤ 1000000000 → Calls Tryd.prog 46 #[.int .i64 n] v fun e w' => e = .returned (.string (str (dec n))) ∧ Below v.heap.size v w'
theorem Tab.on {w w' : World} (h : Tab w) (hb : Below w.heap.size w w') : Tab w' := fun v hv n h0 h1 => h v (hb.trans (hv.mono hb.size)) n h0 h1
theorem itoaOf {n : Int} {v : World} (h0 : 0 ≤ n) (h : Calls Tryd.prog 46 #[.int .i64 n] v fun e w' => e = .returned (.string ⟨(Lib.itoa n).toArray⟩) ∧ ∃ k os, w' = Go.Sort.grow (v.drewN k) os) : Calls Tryd.prog 46 #[.int .i64 n] v fun e w' => e = .returned (.string (str (dec n))) ∧ Below v.heap.size v w' := by
  refine h.mono ?_
  rintro e w' ⟨rfl, k, os, rfl⟩
  rw [itoa_dec n h0]
  exact ⟨rfl, Lib.below_grow _ v (Nat.le_refl _) k os⟩
theorem c_itoaT (n : Int) (w : World) (h0 : 0 ≤ n) (h1 : n ≤ 1000000000) (hT : Tab w) : Calls Tryd.prog 46 #[.int .i64 n] w fun e w' => e = .returned (.string (str (dec n))) ∧ Below w.heap.size w w' := hT w (Below.refl _ w) n h0 h1
theorem dec_len (n : Int) (h0 : 0 ≤ n) (h1 : n ≤ 1000000000) : 1 ≤ (dec n).length ∧ (dec n).length ≤ 10 := by
  refine ⟨?_, decD_len 9 n.toNat (by simp; omega)⟩
  unfold dec
  by_cases h : n.toNat < 10
  · rw [decD_small h]; simp
  · rw [decD_big (by omega)]; simp

def dashI (T : ByteArray) : ByteArray := if T.size = 0 then str [45] else T
theorem size_zeroI {T : ByteArray} (h : T.size = 0) : T = ByteArray.empty := by
  apply ByteArray.ext
  apply Array.toList_inj.1
  have : T.data.toList.length = 0 := by simpa using h
  rw [List.length_eq_zero_iff.1 this]; rfl
theorem isEmpty_noI {T : ByteArray} (h : ¬ T.size = 0) : T.toList.isEmpty = false := by
  rw [ByteArray.toList_eq]
  cases e : T.data.toList with
  | nil => exact absurd (by have : T.data.toList.length = 0 := by rw [e]; rfl
                            simpa using this) h
  | cons a r => rfl
theorem dashI_size {T : ByteArray} {n : Nat} (h : T.size ≤ n) (hn : 1 ≤ n) : (dashI T).size ≤ n := by
  unfold dashI; split
  · rw [str_size]; simpa using hn
  · exact h

theorem c_dashIfEmptyI (T : ByteArray) (w : World) : Calls Tryd.prog 47 #[.string T] w (Same (.string (dashI T)) w) := by
  by_cases h : T.size = 0
  · rw [dashI, if_pos h, size_zeroI h]
    go_enter Tryd.func47, Tryd.ntmps47
    go_wp2
    go_ret
    exact ⟨rfl, rfl⟩
  · rw [dashI, if_neg h]
    have he := isEmpty_noI h
    clear h
    go_enter Tryd.func47, Tryd.ntmps47
    go_wp2
    go_ret
    exact ⟨rfl, rfl⟩

theorem c_l3SomeI (T : ByteArray) (w : World) : Calls Tryd.prog 39 #[.string T] w (Same (.string (dashI T)) w) := by
  by_cases h : T.size = 0
  · rw [dashI, if_pos h, size_zeroI h]
    go_enter Tryd.func39, Tryd.ntmps39
    go_wp2
    go_ret
    exact ⟨rfl, rfl⟩
  · rw [dashI, if_neg h]
    have he := isEmpty_noI h
    clear h
    go_enter Tryd.func39, Tryd.ntmps39
    go_wp2
    go_ret
    exact ⟨rfl, rfl⟩

/-- a patch is valid -/
def pvOk (f t : Int) (d : ByteArray) : Prop := (0 ≤ f ∧ f ≤ t) ∧ t ≤ 2000 ∧ d.size ≤ 2000
instance (f t : Int) (d : ByteArray) : Decidable (pvOk f t d) := by unfold pvOk; exact inferInstance
/-- the three fields -/
def fpF (f t : Int) (d : ByteArray) : List ByteArray := [str (dec f), str (dec t), dashI (str (M.fmtHex d.data.toList))]
def fpT (f t : Int) (d : ByteArray) : ByteArray := if pvOk f t d then ((str (dec f) ++ str [32]) ++ str (dec t) ++ str [32]) ++ dashI (str (M.fmtHex d.data.toList)) else ByteArray.empty
theorem hexI_len {d : ByteArray} (h : d.size ≤ 2000) : (M.fmtHex d.data.toList).length ≤ 4000 := by
  rw [M.fmtHex]
  split
  · rw [M.hex_length]; simp; omega
  · simp
theorem fp_join (x y z : ByteArray) : (⟨(Lib.join ([x, y, z].map (·.data.toList)) [32]).toArray⟩ : ByteArray) = (x ++ str [32] ++ y ++ str [32]) ++ z := by
  have e : Lib.join ([x, y, z].map (·.data.toList)) [32] = x.data.toList ++ [32] ++ y.data.toList ++ [32] ++ z.data.toList := by
    simp [Lib.join, List.intercalate]
  rw [e]
  show str _ = _
  rw [← str_append, ← str_append, ← str_append, ← str_append, str_self, str_self, str_self]

theorem c_l6Valid (f t : Int) (d : ByteArray) (w : World) (hd : d.size ≤ maxLen) : Calls Tryd.prog 37 #[.agg #[.int .i64 f, .int .i64 t, .string d]] w fun e w' => e = .returned (.bool (decide (pvOk f t d))) ∧ Below w.heap.size w w' := by
  have H1 := hid (fun v => c_l6RangeI f t 2000 v)
  have hB0 : Below w.heap.size w (w.alloc (.cells #[.int .i64 f, .int .i64 t, .string d] 23)) := by (repeat (first | with_reducible (first | assumption | exact Below.refl _ _ | refine bel_alloc ?_ _ | refine bel_drew ?_ | refine bel_drewN ?_ _ | refine bel_set ?_ (by first | omega | (simp; done) | (simp; omega)) _ | refine bel_trans ?_ (by assumption)) | assumption | refine bel_trans ?_ (by assumption)))
  have kS := Blk.new w 23 #[.int .i64 f, .int .i64 t, .string d]
  obtain ⟨y0, y1, y2⟩ := kS.cells3
  unfold maxLen at hd
  by_cases h1 : 0 ≤ f ∧ f ≤ t ∧ t ≤ 2000
  · rw [decide_eq_true h1] at H1
    by_cases h2 : (d.size : Int) ≤ 2000
    · have HR := hid (show decide (pvOk f t d) = true from decide_eq_true ⟨⟨h1.1, h1.2.1⟩, h1.2.2, by omega⟩)
      clear h1 kS
      go_enter Tryd.func37, Tryd.ntmps37
      go_wp2_with fail
      refine (H1.out _).mono ?_
      rintro e w1 ⟨rfl, rfl⟩
      go_wp2_with fail
      go_ret
      exact ⟨ret_bool HR.out.symm, hB0⟩
    · have HR := hid (show decide (pvOk f t d) = false from decide_eq_false (fun h => h2 (by have := h.2.2; omega)))
      clear h1 kS
      go_enter Tryd.func37, Tryd.ntmps37
      go_wp2_with fail
      refine (H1.out _).mono ?_
      rintro e w1 ⟨rfl, rfl⟩
      go_wp2_with fail
      go_ret
      exact ⟨ret_bool ((decide_eq_false (by omega)).trans HR.out.symm), hB0⟩
  · rw [decide_eq_false h1] at H1
    have HR := hid (show decide (pvOk f t d) = false from decide_eq_false (fun h => h1 ⟨h.1.1, h.1.2, h.2.1⟩))
    clear h1 kS
    go_enter Tryd.func37, Tryd.ntmps37
    go_wp2_with fail
    refine (H1.out _).mono ?_
    rintro e w1 ⟨rfl, rfl⟩
    go_wp2_with fail
    go_ret
    exact ⟨ret_bool HR.out.symm, hB0⟩

theorem pv_eq (f t : Int) (d : ByteArray) : decide (0 ≤ f ∧ f ≤ t ∧ t ≤ 2000 ∧ d.size ≤ 2000) = decide (pvOk f t d) := by
  by_cases h : pvOk f t d
  · rw [decide_eq_true h, decide_eq_true ⟨h.1.1, h.1.2, h.2.1, h.2.2⟩]
  · rw [decide_eq_false h, decide_eq_false (fun h9 => h ⟨⟨h9.1, h9.2.1⟩, h9.2.2.1, h9.2.2.2⟩)]

set_option maxHeartbeats 4000000 in
set_option maxRecDepth 100000 in
theorem c_sFormatPatch (f t : Int) (d : ByteArray) (w : World) (hd : d.size ≤ maxLen) : Calls Tryd.prog 23 #[.agg #[.int .i64 f, .int .i64 t, .string d]] w fun e w' => e = .returned (.string (fpT f t d)) ∧ Below w.heap.size w w' := by
  have HV := hid (fun v => c_l6Valid f t d v hd)
  have hB0 : Below w.heap.size w (w.alloc (.cells #[.int .i64 f, .int .i64 t, .string d] 23)) := by (repeat (first | with_reducible (first | assumption | exact Below.refl _ _ | refine bel_alloc ?_ _ | refine bel_drew ?_ | refine bel_drewN ?_ _ | refine bel_set ?_ (by first | omega | (simp; done) | (simp; omega)) _ | refine bel_trans ?_ (by assumption)) | assumption | refine bel_trans ?_ (by assumption)))
  have kS := Blk.new w 23 #[.int .i64 f, .int .i64 t, .string d]
  obtain ⟨y0, y1, y2⟩ := kS.cells3
  by_cases hok : pvOk f t d
  · rw [decide_eq_true hok] at HV
    obtain ⟨⟨h1, h2⟩, h3, h4⟩ := id hok
    have HF := hid (fun v => c_l9Dec f v (by omega) (by omega))
    have HT := hid (fun v => c_l9Dec t v (by omega) (by omega))
    have HH := hid (fun v => c_sFormatHex_yes d v (by omega))
    obtain ⟨F1, hF1⟩ : ∃ F1, F1 = str (dec f) := ⟨_, rfl⟩
    obtain ⟨T1, hT1⟩ : ∃ T1, T1 = str (dec t) := ⟨_, rfl⟩
    obtain ⟨X1, hX1⟩ : ∃ X1, X1 = str (M.fmtHex d.data.toList) := ⟨_, rfl⟩
    have HD := hid (fun v => same_belI (c_l3SomeI X1 v))
    obtain ⟨H1, hH1⟩ : ∃ H1, H1 = dashI X1 := ⟨_, rfl⟩
    rw [← hF1] at HF
    rw [← hT1] at HT
    rw [← hX1] at HH
    rw [← hH1] at HD
    have zF : F1.size ≤ 10 := by rw [hF1, str_size]; exact (dec_len f h1 (by omega)).2
    have zT : T1.size ≤ 10 := by rw [hT1, str_size]; exact (dec_len t (by omega) (by omega)).2
    have zH : H1.size ≤ 4000 := by rw [hH1, hX1]; exact dashI_size (by rw [str_size]; exact hexI_len h4) (by omega)
    have HR := hid (show fpT f t d = F1 ++ ⟨#[32]⟩ ++ T1 ++ ⟨#[32]⟩ ++ H1 by unfold fpT; rw [if_pos hok, ← hF1, ← hT1, ← hX1, ← hH1]; rfl)
    have e1 : (⟨#[32]⟩ : ByteArray).size = 1 := rfl
    have a0 : ∀ W, (Op.stringOp .add F1 ⟨#[32]⟩).run Tryd.prog W = .ok (.string (F1 ++ ⟨#[32]⟩)) W := fun W => run_string_add W _ _ (by omega) (by omega)
    have a1 : ∀ W, (Op.stringOp .add (F1 ++ ⟨#[32]⟩) T1).run Tryd.prog W = .ok (.string (F1 ++ ⟨#[32]⟩ ++ T1)) W := fun W => run_string_add W _ _ (by rw [ByteArray.size_append]; omega) (by omega)
    have a2 : ∀ W, (Op.stringOp .add (F1 ++ ⟨#[32]⟩ ++ T1) ⟨#[32]⟩).run Tryd.prog W = .ok (.string (F1 ++ ⟨#[32]⟩ ++ T1 ++ ⟨#[32]⟩)) W := fun W => run_string_add W _ _ (by rw [ByteArray.size_append, ByteArray.size_append]; omega) (by omega)
    have a3 : ∀ W, (Op.stringOp .add (F1 ++ ⟨#[32]⟩ ++ T1 ++ ⟨#[32]⟩) H1).run Tryd.prog W = .ok (.string (F1 ++ ⟨#[32]⟩ ++ T1 ++ ⟨#[32]⟩ ++ H1)) W := fun W => run_string_add W _ _ (by rw [ByteArray.size_append, ByteArray.size_append, ByteArray.size_append]; omega) (by omega)
    rw [HR.out]
    clear hok h1 h2 h3 h4 hF1 hT1 hX1 hH1
    have KS := hid kS
    go_enter Tryd.func23, Tryd.ntmps23
    go_wp2_with fail
    refine (HV.out _).mono ?_
    rintro e w1 ⟨rfl, hb1⟩
    have kS1 := KS.out.on hb1
    have hB1 := hB0.trans (hb1.mono hB0.size)
    have hS : w1.cell? ⟨w.heap.size, 0, none⟩ = some (.int .i64 f) ∧ w1.cell? ⟨w.heap.size, 1, none⟩ = some (.int .i64 t) ∧ w1.cell? ⟨w.heap.size, 2, none⟩ = some (.string d) ∧ Below w1.heap.size w1 w1 := ⟨kS1.cell 0, kS1.cell 1, kS1.cell 2, Below.refl _ _⟩
    clear kS kS1 y0 y1 y2 hb1
    go_wp2_with fail
    refine qB (S := (fun v => v.cell? ⟨w.heap.size, 0, none⟩ = some (.int .i64 f) ∧ v.cell? ⟨w.heap.size, 1, none⟩ = some (.int .i64 t) ∧ v.cell? ⟨w.heap.size, 2, none⟩ = some (.string d) ∧ Below w1.heap.size w1 v)) (by kernel_rfl) (by kernel_rfl) (s3_drew hS) ?_
    refine qK ?_
    refine qK ?_
    refine qC (fun wq hSq => HF.out wq) (fun wq wr hbr hSq => s3_bel hbr hSq) ?_
    refine qK ?_
    refine qK ?_
    refine qK ?_
    refine qC (fun wq hSq => HT.out wq) (fun wq wr hbr hSq => s3_bel hbr hSq) ?_
    refine qK ?_
    refine qK ?_
    refine qK ?_
    refine qK ?_
    refine qC (fun wq hSq => HH.out wq) (fun wq wr hbr hSq => s3_bel hbr hSq) ?_
    refine qC (fun wq hSq => HD.out wq) (fun wq wr hbr hSq => s3_bel hbr hSq) ?_
    refine qK ?_
    refine qK ?_
    refine qN ?_
    intro wq hSq
    (try dsimp only at hSq)
    have hbq := hB1.trans (hSq.2.2.2.mono hB1.size)
    clear hSq hS
    go_wp2_with fail
    go_ret
    exact ⟨rfl, hbq⟩
  · rw [decide_eq_false hok] at HV
    have hr : fpT f t d = ByteArray.empty := by unfold fpT; rw [if_neg hok]
    rw [hr]
    clear hr hok kS
    go_enter Tryd.func23, Tryd.ntmps23
    go_wp2_with fail
    refine (HV.out _).mono ?_
    rintro e w1 ⟨rfl, hb1⟩
    go_wp2_with fail
    go_ret
    exact ⟨rfl, hB0.trans (hb1.mono hB0.size)⟩

set_option maxHeartbeats 8000000 in
set_option maxRecDepth 100000 in
theorem c_FormatPatch (f t : Int) (d : ByteArray) (w : World) (hf : -9223372036854775808 ≤ f ∧ f ≤ 9223372036854775807) (ht : -9223372036854775808 ≤ t ∧ t ≤ 9223372036854775807) (hd : d.size ≤ maxLen) (hTab : Tab w) : Calls Tryd.prog 28 #[.agg #[.int .i64 f, .int .i64 t, .string d]] w fun e w' => e = .returned (.string (fpT f t d)) ∧ Below w.heap.size w w' := by
  have HV := hid (fun v => c_patchValidI f t d v hf ht hd)
  rw [pv_eq] at HV
  have hB0 : Below w.heap.size w (w.alloc (.cells #[.int .i64 f, .int .i64 t, .string d] 23)) := by (repeat (first | with_reducible (first | assumption | exact Below.refl _ _ | refine bel_alloc ?_ _ | refine bel_drew ?_ | refine bel_drewN ?_ _ | refine bel_set ?_ (by first | omega | (simp; done) | (simp; omega)) _ | refine bel_trans ?_ (by assumption)) | assumption | refine bel_trans ?_ (by assumption)))
  have kS := Blk.new w 23 #[.int .i64 f, .int .i64 t, .string d]
  obtain ⟨y0, y1, y2⟩ := kS.cells3
  by_cases hok : pvOk f t d
  · rw [decide_eq_true hok] at HV
    obtain ⟨⟨h1, h2⟩, h3, h4⟩ := id hok
    have HF := hid (fun v (hb : Below w.heap.size w v) => c_itoaT f v (by omega) (by omega) (hTab.on hb))
    have HT := hid (fun v (hb : Below w.heap.size w v) => c_itoaT t v (by omega) (by omega) (hTab.on hb))
    have HH := hid (fun v => c_FormatHex_yes d v (by omega))
    obtain ⟨F1, hF1⟩ : ∃ F1, F1 = str (dec f) := ⟨_, rfl⟩
    obtain ⟨T1, hT1⟩ : ∃ T1, T1 = str (dec t) := ⟨_, rfl⟩
    obtain ⟨X1, hX1⟩ : ∃ X1, X1 = str (M.fmtHex d.data.toList) := ⟨_, rfl⟩
    have HD := hid (fun v => c_dashIfEmptyI X1 v)
    obtain ⟨H1, hH1⟩ : ∃ H1, H1 = dashI X1 := ⟨_, rfl⟩
    rw [← hF1] at HF
    rw [← hT1] at HT
    rw [← hX1] at HH
    rw [← hH1] at HD
    have zF : F1.size ≤ 10 := by rw [hF1, str_size]; exact (dec_len f h1 (by omega)).2
    have zT : T1.size ≤ 10 := by rw [hT1, str_size]; exact (dec_len t (by omega) (by omega)).2
    have zH : H1.size ≤ 4000 := by rw [hH1, hX1]; exact dashI_size (by rw [str_size]; exact hexI_len h4) (by omega)
    have HR := hid (show fpT f t d = (⟨(Lib.join ([F1, T1, H1].map (·.data.toList)) [32]).toArray⟩ : ByteArray) by unfold fpT; rw [if_pos hok, ← hF1, ← hT1, ← hX1, ← hH1, fp_join])
    have hjl : (Lib.join ([F1, T1, H1].map (·.data.toList)) [32]).length ≤ 140737488355328 := by
      have e : (Lib.join ([F1, T1, H1].map (·.data.toList)) [32]).length = F1.size + 1 + T1.size + 1 + H1.size := by
        simp [Lib.join, List.intercalate]; omega
      omega
    rw [HR.out]
    obtain ⟨J, hJ⟩ : ∃ J, J = (⟨(Lib.join ([F1, T1, H1].map (·.data.toList)) [32]).toArray⟩ : ByteArray) := ⟨_, rfl⟩
    rw [← hJ]
    have HJ := hid (fun (v : World) => show Calls Tryd.prog 49 #[.slice (some ⟨v.heap.size, 0, none⟩) 3 3, .string ⟨#[32]⟩] (v.alloc (.cells #[.string F1, .string T1, .string H1] 9)) (fun e w' => e = .returned (.string J) ∧ Below (v.alloc (.cells #[.string F1, .string T1, .string H1] 9)).heap.size (v.alloc (.cells #[.string F1, .string T1, .string H1] 9)) w') from by
      rw [hJ]
      refine Tryd.strings_Join v.heap.size 0 3 [F1, T1, H1] ⟨#[32]⟩ _ (fun j x hj => ?_) (by rw [World.size_alloc]; omega) (by simp) (by simp) hjl
      have hN := Blk.new v 9 #[.string F1, .string T1, .string H1]
      rw [Nat.zero_add]
      refine (hN.cell j).trans ?_
      match j, hj with
      | 0, hj => simp at hj; subst hj; rfl
      | 1, hj => simp at hj; subst hj; rfl
      | 2, hj => simp at hj; subst hj; rfl)
    clear hok h1 h2 h3 h4 hF1 hT1 hX1 hH1 hJ hjl hTab HR
    have KS := hid kS
    go_enter Tryd.func28, Tryd.ntmps28
    go_wp2_with fail
    refine (HV.out _).mono ?_
    rintro e w1 ⟨rfl, hb1⟩
    have kS1 := KS.out.on hb1
    have hB1 := hB0.trans (hb1.mono hB0.size)
    clear kS y0 y1 y2 hb1 hB0
    have hS : w1.cell? ⟨w.heap.size, 0, none⟩ = some (.int .i64 f) ∧ w1.cell? ⟨w.heap.size, 1, none⟩ = some (.int .i64 t) ∧ w1.cell? ⟨w.heap.size, 2, none⟩ = some (.string d) ∧ True := ⟨kS1.cell 0, kS1.cell 1, kS1.cell 2, trivial⟩
    go_wp2_with fail
    have HB := hid (hB1.drew)
    have HK := hid (kS1.on (bel_drew (Below.refl _ w1)))
    clear kS1 hB1
    refine wp_region_noPanic ?_
    refine wp_region_held_drew (S := (fun v => v.cell? ⟨w.heap.size, 0, none⟩ = some (.int .i64 f) ∧ v.cell? ⟨w.heap.size, 1, none⟩ = some (.int .i64 t) ∧ v.cell? ⟨w.heap.size, 2, none⟩ = some (.string d) ∧ True)) (by kernel_rfl) (t3_drew hS) (fun hHeld => ?_)
    refine tk 0 ?_
    refine tk 1 ?_
    refine tk 3 ?_
    refine tk 4 ?_
    refine tk 6 ?_
    refine tk 7 ?_
    refine wpAnyH_ready (rs := [2]) (by kernel_rfl) (by simp) ?_
    refine AllReadyH.cons (o := ?or1_2) ?ir1_2 (fun K hK => ?sr1_2) AllReadyH.nil
    case ir1_2 => (simp only [List.getElem?_toArray, List.getElem?_cons_succ, List.getElem?_cons_zero]; rfl)
    (go_simp; (go_at_call 46; refine (HF.out _ HB.out).mono ?_; rintro e wA ⟨rfl, hbA⟩; replace HK := hid (HK.out.on hbA); replace HB := hid (HB.out.trans (hbA.mono HB.out.size)); clear hbA; have tA : wA.cell? ⟨w.heap.size, 0, none⟩ = some (.int .i64 f) ∧ wA.cell? ⟨w.heap.size, 1, none⟩ = some (.int .i64 t) ∧ wA.cell? ⟨w.heap.size, 2, none⟩ = some (.string d) ∧ True := ⟨HK.out.cell 0, HK.out.cell 1, HK.out.cell 2, trivial⟩))
    refine hK.out _ _ ?kr1_2 (fun hHeld => ?_)
    case kr1_2 => (try dsimp only); (first | with_reducible assumption | exact t3_bel (by assumption) (by assumption) | assumption | exact t3_alloc (by assumption) _)
    clear hK K
    try simp only [Act.put, List.setIfInBounds_toArray, List.set_cons_zero, List.set_cons_succ]
    refine wpAnyH_ready (rs := [5]) (by kernel_rfl) (by simp) ?_
    refine AllReadyH.cons (o := ?or1_5) ?ir1_5 (fun K hK => ?sr1_5) AllReadyH.nil
    case ir1_5 => (simp only [List.getElem?_toArray, List.getElem?_cons_succ, List.getElem?_cons_zero]; rfl)
    (go_simp; (go_at_call 46; refine (HT.out _ HB.out).mono ?_; rintro e wB ⟨rfl, hbB⟩; replace HK := hid (HK.out.on hbB); replace HB := hid (HB.out.trans (hbB.mono HB.out.size)); clear hbB; have tB : wB.cell? ⟨w.heap.size, 0, none⟩ = some (.int .i64 f) ∧ wB.cell? ⟨w.heap.size, 1, none⟩ = some (.int .i64 t) ∧ wB.cell? ⟨w.heap.size, 2, none⟩ = some (.string d) ∧ True := ⟨HK.out.cell 0, HK.out.cell 1, HK.out.cell 2, trivial⟩))
    refine hK.out _ _ ?kr1_5 (fun hHeld => ?_)
    case kr1_5 => (try dsimp only); (first | with_reducible assumption | exact t3_bel (by assumption) (by assumption) | assumption | exact t3_alloc (by assumption) _)
    clear hK K
    try simp only [Act.put, List.setIfInBounds_toArray, List.set_cons_zero, List.set_cons_succ]
    refine wpAnyH_ready (rs := [8]) (by kernel_rfl) (by simp) ?_
    refine AllReadyH.cons (o := ?or1_8) ?ir1_8 (fun K hK => ?sr1_8) AllReadyH.nil
    case ir1_8 => (simp only [List.getElem?_toArray, List.getElem?_cons_succ, List.getElem?_cons_zero]; rfl)
    (go_simp; (go_at_call 48; refine (HH.out _).mono ?_; rintro e wC ⟨rfl, hbC⟩; replace HK := hid (HK.out.on hbC); replace HB := hid (HB.out.trans (hbC.mono HB.out.size)); clear hbC; have tC : wC.cell? ⟨w.heap.size, 0, none⟩ = some (.int .i64 f) ∧ wC.cell? ⟨w.heap.size, 1, none⟩ = some (.int .i64 t) ∧ wC.cell? ⟨w.heap.size, 2, none⟩ = some (.string d) ∧ True := ⟨HK.out.cell 0, HK.out.cell 1, HK.out.cell 2, trivial⟩))
    refine hK.out _ _ ?kr1_8 (fun hHeld => ?_)
    case kr1_8 => (try dsimp only); (first | with_reducible assumption | exact t3_bel (by assumption) (by assumption) | assumption | exact t3_alloc (by assumption) _)
    clear hK K
    try simp only [Act.put, List.setIfInBounds_toArray, List.set_cons_zero, List.set_cons_succ]
    refine wpAnyH_ready (rs := [9]) (by kernel_rfl) (by simp) ?_
    refine AllReadyH.cons (o := ?or1_9) ?ir1_9 (fun K hK => ?sr1_9) AllReadyH.nil
    case ir1_9 => (simp only [List.getElem?_toArray, List.getElem?_cons_succ, List.getElem?_cons_zero]; rfl)
    (go_simp; (go_at_call 47; refine (HD.out _).mono ?_; rintro e wD ⟨rfl, rfl⟩))
    refine hK.out _ _ ?kr1_9 (fun hHeld => ?_)
    case kr1_9 => (try dsimp only); (first | with_reducible assumption | exact t3_bel (by assumption) (by assumption) | assumption | exact t3_alloc (by assumption) _)
    clear hK K
    try simp only [Act.put, List.setIfInBounds_toArray, List.set_cons_zero, List.set_cons_succ]
    refine wpAnyH_ready (rs := [10]) (by kernel_rfl) (by simp) ?_
    refine AllReadyH.cons (o := ?or1_10) ?ir1_10 (fun K hK => ?sr1_10) AllReadyH.nil
    case ir1_10 => (simp only [List.getElem?_toArray, List.getElem?_cons_succ, List.getElem?_cons_zero]; rfl)
    ((go_simp))
    refine hK.out _ _ ?kr1_10 (fun hHeld => ?_)
    case kr1_10 => (try dsimp only); (first | with_reducible assumption | exact t3_bel (by assumption) (by assumption) | assumption | exact t3_alloc (by assumption) _)
    clear hK K
    try simp only [Act.put, List.setIfInBounds_toArray, List.set_cons_zero, List.set_cons_succ]
    refine tk 11 ?_
    refine wpAnyH_done (by kernel_rfl) ?_ _
    refine NoPanic.normal ?_
    all_goals
      have hB9 := bel_alloc HB.out (.cells #[.string F1, .string T1, .string H1] 9)
      clear HK
      go_wp2_with fail
      refine (HJ.out _).mono ?_
      rintro e w9 ⟨rfl, hb9⟩
      go_wp2_with fail
      go_ret
      exact ⟨rfl, hB9.trans (hb9.mono hB9.size)⟩
  · rw [decide_eq_false hok] at HV
    have hr : fpT f t d = ByteArray.empty := by unfold fpT; rw [if_neg hok]
    rw [hr]
    clear hr hok kS
    go_enter Tryd.func28, Tryd.ntmps28
    go_wp2_with fail
    refine (HV.out _).mono ?_
    rintro e w1 ⟨rfl, hb1⟩
    go_wp2_with fail
    go_ret
    exact ⟨rfl, hB0.trans (hb1.mono hB0.size)⟩
end Go.Proofs.YtcliagnongbkmaaDoor
