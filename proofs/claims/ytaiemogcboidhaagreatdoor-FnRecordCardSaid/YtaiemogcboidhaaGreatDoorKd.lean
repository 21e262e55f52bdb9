/- The text of an operation in the model. Decimal numbers by the library's table, dashes in place of empty texts as in XIa (no text may import both). -/
import Derived.Test.YtaiemogcboidhaaGreatDoorFs
import Derived.Test.YtaiemogcboidhaaGreatDoorHex
import Derived.Test.YtaiemogcboidhaaGreatDoorKb
import Derived.Test.YtaiemogcboidhaaGreatDoorYn
import Derived.Lib.Join
import Derived.Lib.LaidTab
import Derived.Lib.AppendIntMem
import Derived.Deep.QuietTactic
import Derived.BigQuiet
namespace Go.Proofs.YtaiemogcboidhaaGreatDoor
open Go.ChangeShapes Go.WideShapes Go.ChangeAt Go.RowKit Go.Joins
set_option linter.unusedVariables false
set_option linter.unusedSimpArgs false

/-- a table is kept -/
theorem tabOn {nm : String} {k : IntKind} {zs : List Int} {w w' : World} (h : Lib.TabIs Tryz.prog w nm k zs) (hb : Below w.heap.size w w') : Lib.TabIs Tryz.prog w' nm k zs := by
  unfold Lib.TabIs World.var? at h ⊢
  cases hg : Tryz.prog.globalNamed nm with
  | none => rw [hg] at h; cases h
  | some g =>
    rw [hg] at h
    simp only [Option.bind_some] at h ⊢
    rcases Nat.lt_or_ge g w.heap.size with h1 | h1
    · rw [hb.block g h1]; exact h
    · rw [Array.getElem?_eq_none h1] at h; cases h

theorem same_belI {P : Program} {f : FuncId} {args : Array Value} {v : Value} {w : World} (h : Calls P f args w (fun e w2 => e = .returned v ∧ w = w2)) : Calls P f args w fun e w2 => e = .returned v ∧ Below w.heap.size w w2 := h.mono fun e w2 h2 => ⟨h2.1, by rw [h2.2]; exact Below.refl _ _⟩
theorem itoa_dec (n : Int) (h : 0 ≤ n) : Lib.itoa n = dec n := by unfold Lib.itoa dec; rw [if_neg (by omega)]
/-- the library writes numbers, in this world and what it becomes -/
def Tab (w : World) : Prop := ∀ (v : World), Below w.heap.size w v → ∀ n : Int, 0 ≤ n → n ≤ 1000000000 → Calls Tryz.prog 47 #[.int .i64 n] v fun e w' => e = .returned (.string (str (dec n))) ∧ Below v.heap.size v w'
theorem Tab.on {w w' : World} (h : Tab w) (hb : Below w.heap.size w w') : Tab w' := fun v hv n h0 h1 => h v (hb.trans (hv.mono hb.size)) n h0 h1
theorem itoaOf {n : Int} {v : World} (h0 : 0 ≤ n) (h : Calls Tryz.prog 47 #[.int .i64 n] v fun e w' => e = .returned (.string ⟨(Lib.itoa n).toArray⟩) ∧ ∃ k os, w' = Go.Sort.grow (v.drewN k) os) : Calls Tryz.prog 47 #[.int .i64 n] v fun e w' => e = .returned (.string (str (dec n))) ∧ Below v.heap.size v w' := by
  refine h.mono ?_
  rintro e w' ⟨rfl, k, os, rfl⟩
  rw [itoa_dec n h0]
  exact ⟨rfl, Lib.below_grow _ v (Nat.le_refl _) k os⟩
theorem c_itoaT (n : Int) (w : World) (h0 : 0 ≤ n) (h1 : n ≤ 1000000000) (hT : Tab w) : Calls Tryz.prog 47 #[.int .i64 n] w fun e w' => e = .returned (.string (str (dec n))) ∧ Below w.heap.size w w' := hT w (Below.refl _ w) n h0 h1
theorem dec_len (n : Int) (h0 : 0 ≤ n) (h1 : n ≤ 1000000000) : 1 ≤ (dec n).length ∧ (dec n).length ≤ 10 := by
  refine ⟨?_, decD_len 9 n.toNat (by simp; omega)⟩
  unfold dec
  by_cases h : n.toNat < 10
  · rw [decD_small h]; simp
  · rw [decD_big (by omega)]; simp

def dashI (T : ByteArray) : ByteArray := if T.size = 0 then str [45] else T
theorem size_zeroI {T : ByteArray} (h : T.size = 0) : T = ByteArray.empty := by
  apply ByteArray.ext
  apply Array.toList_inj.1
  have : T.data.toList.length = 0 := by simpa using h
  rw [List.length_eq_zero_iff.1 this]; rfl
theorem isEmpty_noI {T : ByteArray} (h : ¬ T.size = 0) : T.toList.isEmpty = false := by
  rw [ByteArray.toList_eq]
  cases e : T.data.toList with
  | nil => exact absurd (by have : T.data.toList.length = 0 := by rw [e]; rfl
                            simpa using this) h
  | cons a r => rfl
theorem dashI_size {T : ByteArray} {n : Nat} (h : T.size ≤ n) (hn : 1 ≤ n) : (dashI T).size ≤ n := by
  unfold dashI; split
  · rw [str_size]; simpa using hn
  · exact h

theorem c_dashIfEmptyI (T : ByteArray) (w : World) : Calls Tryz.prog 48 #[.string T] w (Same (.string (dashI T)) w) := by
  by_cases h : T.size = 0
  · rw [dashI, if_pos h, size_zeroI h]
    go_enter Tryz.func48, Tryz.ntmps48
    go_wp2
    go_ret
    exact ⟨rfl, rfl⟩
  · rw [dashI, if_neg h]
    have he := isEmpty_noI h
    clear h
    go_enter Tryz.func48, Tryz.ntmps48
    go_wp2
    go_ret
    exact ⟨rfl, rfl⟩

theorem c_l3SomeI (T : ByteArray) (w : World) : Calls Tryz.prog 22 #[.string T] w (Same (.string (dashI T)) w) := by
  by_cases h : T.size = 0
  · rw [dashI, if_pos h, size_zeroI h]
    go_enter Tryz.func22, Tryz.ntmps22
    go_wp2
    go_ret
    exact ⟨rfl, rfl⟩
  · rw [dashI, if_neg h]
    have he := isEmpty_noI h
    clear h
    go_enter Tryz.func22, Tryz.ntmps22
    go_wp2
    go_ret
    exact ⟨rfl, rfl⟩

theorem hexI_len {d : ByteArray} (h : d.size ≤ 2000) : (M.fmtHex d.data.toList).length ≤ 4000 := by
  rw [M.fmtHex]
  split
  · rw [M.hex_length]; simp; omega
  · simp

/-- the end of an operation's text -/
def endT (z : Int) (d : ByteArray) : ByteArray := str (dec z) ++ ⟨#[32]⟩ ++ dashI (str (M.fmtHex d.data.toList))
/-- the text of an operation of a kind -/
def opTx (k : Int) (nm : ByteArray) (f t z : Int) (d : ByteArray) : ByteArray :=
  if k = 0 then ⟨#[112, 117, 116, 32]⟩ ++ nm ++ ⟨#[32]⟩ ++ endT z d
  else if k = 1 then ⟨#[97, 112, 112, 101, 110, 100, 32]⟩ ++ nm ++ ⟨#[32]⟩ ++ endT z d
  else if k = 2 then ⟨#[114, 101, 112, 108, 97, 99, 101, 32]⟩ ++ nm ++ ⟨#[32]⟩ ++ str (dec f) ++ ⟨#[32]⟩ ++ str (dec t) ++ ⟨#[32]⟩ ++ endT z d
  else if k = 3 then ⟨#[109, 101, 114, 103, 101, 32]⟩ ++ nm ++ ⟨#[32]⟩ ++ str (dec z)
  else ⟨#[100, 101, 108, 101, 116, 101, 32]⟩ ++ nm
/-- the text of an operation -/
noncomputable def opT (k : Int) (nm : ByteArray) (f t z : Int) (d : ByteArray) : ByteArray := if opB k nm f t z d = true then opTx k nm f t z d else ByteArray.empty

theorem opB_facts {k : Int} {nm : ByteArray} {f t z : Int} {d : ByteArray} (h : opB k nm f t z d = true) : (0 ≤ k ∧ k < 5) ∧ (1 ≤ nm.size ∧ nm.size ≤ 8) ∧ (0 ≤ z ∧ z ≤ 64) ∧ (0 ≤ f ∧ f ≤ 2000) ∧ (0 ≤ t ∧ t ≤ 2000) ∧ d.size ≤ 2000 := by
  have e := of_decide_eq_true h
  obtain ⟨hk, hn, ⟨_, _, hz, _⟩, hs, h1, h2, h3, h4⟩ := e
  have hn2 : inB nm.size 1 8 = true := by
    unfold nmB at hn
    rw [Bool.and_eq_true] at hn
    exact hn.2
  have hn3 := inB_iff.1 hn2
  refine ⟨hk, by omega, ?_, by omega, by omega, h4⟩
  by_cases k4 : k = 4
  · subst k4
    have hz0 : z = 0 := hz
    omega
  · have := hs (decide_eq_true k4)
    omega

set_option maxHeartbeats 8000000 in
set_option maxRecDepth 100000 in
theorem c_sFormatOp_0 (nm : ByteArray) (f t z : Int) (d : ByteArray) (w : World) (hn : nm.size ≤ 1048576) (hd : d.size ≤ 1048576) (hok : opB 0 nm f t z d = true) :
    Calls Tryz.prog 7 #[.agg #[.int .i64 0, .string nm, .int .i64 f, .int .i64 t, .int .i64 z, .string d]] w fun e w' => e = .returned (.string (opTx 0 nm f t z d)) ∧ Below w.heap.size w w' := by
  have HV := hid (fun v => c_sOpValid 0 nm f t z d v hn hd)
  rw [hok] at HV
  obtain ⟨-, ⟨n1, n2⟩, ⟨z1, z2⟩, ⟨f1, f2⟩, ⟨t1, t2⟩, d1⟩ := opB_facts hok
  have HF := hid (fun v => c_l9Dec f v (by omega) (by omega))
  have HT := hid (fun v => c_l9Dec t v (by omega) (by omega))
  have HZ := hid (fun v => c_l9Dec z v (by omega) (by omega))
  have HH := hid (fun v => c_sFormatHex_yes d v (by omega))
  obtain ⟨F1, hF1⟩ : ∃ F1, F1 = str (dec f) := ⟨_, rfl⟩
  obtain ⟨T1, hT1⟩ : ∃ T1, T1 = str (dec t) := ⟨_, rfl⟩
  obtain ⟨Z1, hZ1⟩ : ∃ Z1, Z1 = str (dec z) := ⟨_, rfl⟩
  obtain ⟨X1, hX1⟩ : ∃ X1, X1 = str (M.fmtHex d.data.toList) := ⟨_, rfl⟩
  have HD := hid (fun v => same_belI (c_l3SomeI X1 v))
  obtain ⟨H1, hH1⟩ : ∃ H1, H1 = dashI X1 := ⟨_, rfl⟩
  rw [← hF1] at HF
  rw [← hT1] at HT
  rw [← hZ1] at HZ
  rw [← hX1] at HH
  rw [← hH1] at HD
  have zF : F1.size ≤ 10 := by rw [hF1, str_size]; exact (dec_len f f1 (by omega)).2
  have zT : T1.size ≤ 10 := by rw [hT1, str_size]; exact (dec_len t t1 (by omega)).2
  have zZ : Z1.size ≤ 10 := by rw [hZ1, str_size]; exact (dec_len z z1 (by omega)).2
  have zH : H1.size ≤ 4000 := by rw [hH1, hX1]; exact dashI_size (by rw [str_size]; exact hexI_len d1) (by omega)
  have HR := hid (show opTx 0 nm f t z d = ⟨#[112, 117, 116, 32]⟩ ++ nm ++ ⟨#[32]⟩ ++ (Z1 ++ ⟨#[32]⟩ ++ H1) by unfold opTx endT; rw [if_pos rfl, ← hZ1, ← hX1, ← hH1])
  have e1 : (⟨#[32]⟩ : ByteArray).size = 1 := rfl
  have ew : (⟨#[112, 117, 116, 32]⟩ : ByteArray).size = 4 := rfl
  have b0 : ∀ W, (Op.stringOp .add Z1 ⟨#[32]⟩).run Tryz.prog W = .ok (.string (Z1 ++ ⟨#[32]⟩)) W := fun W => run_string_add W _ _ (by omega) (by omega)
  have b1 : ∀ W, (Op.stringOp .add (Z1 ++ ⟨#[32]⟩) H1).run Tryz.prog W = .ok (.string (Z1 ++ ⟨#[32]⟩ ++ H1)) W := fun W => run_string_add W _ _ (by rw [ByteArray.size_append]; omega) (by omega)
  obtain ⟨E, hE⟩ : ∃ E, E = Z1 ++ ⟨#[32]⟩ ++ H1 := ⟨_, rfl⟩
  have zE : E.size ≤ 4011 := by rw [hE, ByteArray.size_append, ByteArray.size_append]; omega
  rw [← hE] at b1 HR
  have a0 : ∀ W, (Op.stringOp .add ⟨#[112, 117, 116, 32]⟩ nm).run Tryz.prog W = .ok (.string (⟨#[112, 117, 116, 32]⟩ ++ nm)) W := fun W => run_string_add W _ _ (by omega) (by omega)
  have a1 : ∀ W, (Op.stringOp .add (⟨#[112, 117, 116, 32]⟩ ++ nm) ⟨#[32]⟩).run Tryz.prog W = .ok (.string (⟨#[112, 117, 116, 32]⟩ ++ nm ++ ⟨#[32]⟩)) W := fun W => run_string_add W _ _ (by rw [ByteArray.size_append]; omega) (by omega)
  have a2 : ∀ W, (Op.stringOp .add (⟨#[112, 117, 116, 32]⟩ ++ nm ++ ⟨#[32]⟩) E).run Tryz.prog W = .ok (.string (⟨#[112, 117, 116, 32]⟩ ++ nm ++ ⟨#[32]⟩ ++ E)) W := fun W => run_string_add W _ _ (by rw [ByteArray.size_append, ByteArray.size_append]; omega) (by omega)
  rw [HR.out]
  clear hok hF1 hT1 hX1 hH1 hZ1 hE HR
  have kS := Blk.new w 24 #[.int .i64 0, .string nm, .int .i64 f, .int .i64 t, .int .i64 z, .string d]
  have hB0 : Below w.heap.size w (w.alloc (.cells #[.int .i64 0, .string nm, .int .i64 f, .int .i64 t, .int .i64 z, .string d] 24)) := by exact obB
  obtain ⟨y0, y1, y2, y3, y4, y5⟩ := kS.cells6
  have KS := hid kS
  go_enter Tryz.func7, Tryz.ntmps7
  go_wp2_with fail
  refine (HV.out _).mono ?_
  rintro e w1 ⟨rfl, hb1⟩
  have kS1 := KS.out.on hb1
  have hB1 := hB0.trans (hb1.mono hB0.size)
  clear kS y0 y1 y2 y3 y4 y5 hb1
  obtain ⟨y0, y1, y2, y3, y4, y5⟩ := kS1.cells6
  have hS : w1.cell? ⟨w.heap.size, 4, none⟩ = some (.int .i64 z) ∧ w1.cell? ⟨w.heap.size, 5, none⟩ = some (.string d) ∧ Below w1.heap.size w1 w1 := ⟨y4, y5, Below.refl _ _⟩
  go_wp2_with fail
  refine qB (S := (fun v => v.cell? ⟨w.heap.size, 4, none⟩ = some (.int .i64 z) ∧ v.cell? ⟨w.heap.size, 5, none⟩ = some (.string d) ∧ Below w1.heap.size w1 v)) (by kernel_rfl) (by kernel_rfl) (s2_drew hS) ?_
  refine qK ?_
  refine qK ?_
  refine qC (fun wq hSq => HZ.out wq) (fun wq wr hbr hSq => s2_bel hbr hSq) ?_
  refine qK ?_
  refine qK ?_
  refine qK ?_
  refine qC (fun wq hSq => HH.out wq) (fun wq wr hbr hSq => s2_bel hbr hSq) ?_
  refine qC (fun wq hSq => HD.out wq) (fun wq wr hbr hSq => s2_bel hbr hSq) ?_
  refine qK ?_
  refine qK ?_
  refine qN ?_
  intro wq hSq
  (try dsimp only at hSq)
  have hbq0 := hSq.2.2
  obtain ⟨W2, hW2⟩ : ∃ W2, W2 = wq := ⟨_, rfl⟩
  rw [← hW2] at hbq0 ⊢
  clear hW2 hSq hS y0 y1 y2 y3 y4 y5
  have hB2 := hB1.trans (hbq0.mono hB1.size)
  have kS2 := kS1.on hbq0
  clear kS1 hbq0
  obtain ⟨y0, y1, y2, y3, y4, y5⟩ := kS2.cells6
  go_wp2_with fail
  go_ret
  exact ⟨rfl, hB2⟩

set_option maxHeartbeats 8000000 in
set_option maxRecDepth 100000 in
theorem c_sFormatOp_1 (nm : ByteArray) (f t z : Int) (d : ByteArray) (w : World) (hn : nm.size ≤ 1048576) (hd : d.size ≤ 1048576) (hok : opB 1 nm f t z d = true) :
    Calls Tryz.prog 7 #[.agg #[.int .i64 1, .string nm, .int .i64 f, .int .i64 t, .int .i64 z, .string d]] w fun e w' => e = .returned (.string (opTx 1 nm f t z d)) ∧ Below w.heap.size w w' := by
  have HV := hid (fun v => c_sOpValid 1 nm f t z d v hn hd)
  rw [hok] at HV
  obtain ⟨-, ⟨n1, n2⟩, ⟨z1, z2⟩, ⟨f1, f2⟩, ⟨t1, t2⟩, d1⟩ := opB_facts hok
  have HF := hid (fun v => c_l9Dec f v (by omega) (by omega))
  have HT := hid (fun v => c_l9Dec t v (by omega) (by omega))
  have HZ := hid (fun v => c_l9Dec z v (by omega) (by omega))
  have HH := hid (fun v => c_sFormatHex_yes d v (by omega))
  obtain ⟨F1, hF1⟩ : ∃ F1, F1 = str (dec f) := ⟨_, rfl⟩
  obtain ⟨T1, hT1⟩ : ∃ T1, T1 = str (dec t) := ⟨_, rfl⟩
  obtain ⟨Z1, hZ1⟩ : ∃ Z1, Z1 = str (dec z) := ⟨_, rfl⟩
  obtain ⟨X1, hX1⟩ : ∃ X1, X1 = str (M.fmtHex d.data.toList) := ⟨_, rfl⟩
  have HD := hid (fun v => same_belI (c_l3SomeI X1 v))
  obtain ⟨H1, hH1⟩ : ∃ H1, H1 = dashI X1 := ⟨_, rfl⟩
  rw [← hF1] at HF
  rw [← hT1] at HT
  rw [← hZ1] at HZ
  rw [← hX1] at HH
  rw [← hH1] at HD
  have zF : F1.size ≤ 10 := by rw [hF1, str_size]; exact (dec_len f f1 (by omega)).2
  have zT : T1.size ≤ 10 := by rw [hT1, str_size]; exact (dec_len t t1 (by omega)).2
  have zZ : Z1.size ≤ 10 := by rw [hZ1, str_size]; exact (dec_len z z1 (by omega)).2
  have zH : H1.size ≤ 4000 := by rw [hH1, hX1]; exact dashI_size (by rw [str_size]; exact hexI_len d1) (by omega)
  have HR := hid (show opTx 1 nm f t z d = ⟨#[97, 112, 112, 101, 110, 100, 32]⟩ ++ nm ++ ⟨#[32]⟩ ++ (Z1 ++ ⟨#[32]⟩ ++ H1) by unfold opTx endT; rw [if_neg (by decide), if_pos rfl, ← hZ1, ← hX1, ← hH1])
  have e1 : (⟨#[32]⟩ : ByteArray).size = 1 := rfl
  have ew : (⟨#[97, 112, 112, 101, 110, 100, 32]⟩ : ByteArray).size = 7 := rfl
  have b0 : ∀ W, (Op.stringOp .add Z1 ⟨#[32]⟩).run Tryz.prog W = .ok (.string (Z1 ++ ⟨#[32]⟩)) W := fun W => run_string_add W _ _ (by omega) (by omega)
  have b1 : ∀ W, (Op.stringOp .add (Z1 ++ ⟨#[32]⟩) H1).run Tryz.prog W = .ok (.string (Z1 ++ ⟨#[32]⟩ ++ H1)) W := fun W => run_string_add W _ _ (by rw [ByteArray.size_append]; omega) (by omega)
  obtain ⟨E, hE⟩ : ∃ E, E = Z1 ++ ⟨#[32]⟩ ++ H1 := ⟨_, rfl⟩
  have zE : E.size ≤ 4011 := by rw [hE, ByteArray.size_append, ByteArray.size_append]; omega
  rw [← hE] at b1 HR
  have a0 : ∀ W, (Op.stringOp .add ⟨#[97, 112, 112, 101, 110, 100, 32]⟩ nm).run Tryz.prog W = .ok (.string (⟨#[97, 112, 112, 101, 110, 100, 32]⟩ ++ nm)) W := fun W => run_string_add W _ _ (by omega) (by omega)
  have a1 : ∀ W, (Op.stringOp .add (⟨#[97, 112, 112, 101, 110, 100, 32]⟩ ++ nm) ⟨#[32]⟩).run Tryz.prog W = .ok (.string (⟨#[97, 112, 112, 101, 110, 100, 32]⟩ ++ nm ++ ⟨#[32]⟩)) W := fun W => run_string_add W _ _ (by rw [ByteArray.size_append]; omega) (by omega)
  have a2 : ∀ W, (Op.stringOp .add (⟨#[97, 112, 112, 101, 110, 100, 32]⟩ ++ nm ++ ⟨#[32]⟩) E).run Tryz.prog W = .ok (.string (⟨#[97, 112, 112, 101, 110, 100, 32]⟩ ++ nm ++ ⟨#[32]⟩ ++ E)) W := fun W => run_string_add W _ _ (by rw [ByteArray.size_append, ByteArray.size_append]; omega) (by omega)
  rw [HR.out]
  clear hok hF1 hT1 hX1 hH1 hZ1 hE HR
  have kS := Blk.new w 24 #[.int .i64 1, .string nm, .int .i64 f, .int .i64 t, .int .i64 z, .string d]
  have hB0 : Below w.heap.size w (w.alloc (.cells #[.int .i64 1, .string nm, .int .i64 f, .int .i64 t, .int .i64 z, .string d] 24)) := by exact obB
  obtain ⟨y0, y1, y2, y3, y4, y5⟩ := kS.cells6
  have KS := hid kS
  go_enter Tryz.func7, Tryz.ntmps7
  go_wp2_with fail
  refine (HV.out _).mono ?_
  rintro e w1 ⟨rfl, hb1⟩
  have kS1 := KS.out.on hb1
  have hB1 := hB0.trans (hb1.mono hB0.size)
  clear kS y0 y1 y2 y3 y4 y5 hb1
  obtain ⟨y0, y1, y2, y3, y4, y5⟩ := kS1.cells6
  have hS : w1.cell? ⟨w.heap.size, 4, none⟩ = some (.int .i64 z) ∧ w1.cell? ⟨w.heap.size, 5, none⟩ = some (.string d) ∧ Below w1.heap.size w1 w1 := ⟨y4, y5, Below.refl _ _⟩
  go_wp2_with fail
  refine qB (S := (fun v => v.cell? ⟨w.heap.size, 4, none⟩ = some (.int .i64 z) ∧ v.cell? ⟨w.heap.size, 5, none⟩ = some (.string d) ∧ Below w1.heap.size w1 v)) (by kernel_rfl) (by kernel_rfl) (s2_drew hS) ?_
  refine qK ?_
  refine qK ?_
  refine qC (fun wq hSq => HZ.out wq) (fun wq wr hbr hSq => s2_bel hbr hSq) ?_
  refine qK ?_
  refine qK ?_
  refine qK ?_
  refine qC (fun wq hSq => HH.out wq) (fun wq wr hbr hSq => s2_bel hbr hSq) ?_
  refine qC (fun wq hSq => HD.out wq) (fun wq wr hbr hSq => s2_bel hbr hSq) ?_
  refine qK ?_
  refine qK ?_
  refine qN ?_
  intro wq hSq
  (try dsimp only at hSq)
  have hbq0 := hSq.2.2
  obtain ⟨W2, hW2⟩ : ∃ W2, W2 = wq := ⟨_, rfl⟩
  rw [← hW2] at hbq0 ⊢
  clear hW2 hSq hS y0 y1 y2 y3 y4 y5
  have hB2 := hB1.trans (hbq0.mono hB1.size)
  have kS2 := kS1.on hbq0
  clear kS1 hbq0
  obtain ⟨y0, y1, y2, y3, y4, y5⟩ := kS2.cells6
  go_wp2_with fail
  go_ret
  exact ⟨rfl, hB2⟩

set_option maxHeartbeats 8000000 in
set_option maxRecDepth 100000 in
theorem c_sFormatOp_2 (nm : ByteArray) (f t z : Int) (d : ByteArray) (w : World) (hn : nm.size ≤ 1048576) (hd : d.size ≤ 1048576) (hok : opB 2 nm f t z d = true) :
    Calls Tryz.prog 7 #[.agg #[.int .i64 2, .string nm, .int .i64 f, .int .i64 t, .int .i64 z, .string d]] w fun e w' => e = .returned (.string (opTx 2 nm f t z d)) ∧ Below w.heap.size w w' := by
  have HV := hid (fun v => c_sOpValid 2 nm f t z d v hn hd)
  rw [hok] at HV
  obtain ⟨-, ⟨n1, n2⟩, ⟨z1, z2⟩, ⟨f1, f2⟩, ⟨t1, t2⟩, d1⟩ := opB_facts hok
  have HF := hid (fun v => c_l9Dec f v (by omega) (by omega))
  have HT := hid (fun v => c_l9Dec t v (by omega) (by omega))
  have HZ := hid (fun v => c_l9Dec z v (by omega) (by omega))
  have HH := hid (fun v => c_sFormatHex_yes d v (by omega))
  obtain ⟨F1, hF1⟩ : ∃ F1, F1 = str (dec f) := ⟨_, rfl⟩
  obtain ⟨T1, hT1⟩ : ∃ T1, T1 = str (dec t) := ⟨_, rfl⟩
  obtain ⟨Z1, hZ1⟩ : ∃ Z1, Z1 = str (dec z) := ⟨_, rfl⟩
  obtain ⟨X1, hX1⟩ : ∃ X1, X1 = str (M.fmtHex d.data.toList) := ⟨_, rfl⟩
  have HD := hid (fun v => same_belI (c_l3SomeI X1 v))
  obtain ⟨H1, hH1⟩ : ∃ H1, H1 = dashI X1 := ⟨_, rfl⟩
  rw [← hF1] at HF
  rw [← hT1] at HT
  rw [← hZ1] at HZ
  rw [← hX1] at HH
  rw [← hH1] at HD
  have zF : F1.size ≤ 10 := by rw [hF1, str_size]; exact (dec_len f f1 (by omega)).2
  have zT : T1.size ≤ 10 := by rw [hT1, str_size]; exact (dec_len t t1 (by omega)).2
  have zZ : Z1.size ≤ 10 := by rw [hZ1, str_size]; exact (dec_len z z1 (by omega)).2
  have zH : H1.size ≤ 4000 := by rw [hH1, hX1]; exact dashI_size (by rw [str_size]; exact hexI_len d1) (by omega)
  have HR := hid (show opTx 2 nm f t z d = ⟨#[114, 101, 112, 108, 97, 99, 101, 32]⟩ ++ nm ++ ⟨#[32]⟩ ++ F1 ++ ⟨#[32]⟩ ++ T1 ++ ⟨#[32]⟩ ++ (Z1 ++ ⟨#[32]⟩ ++ H1) by unfold opTx endT; rw [if_neg (by decide), if_neg (by decide), if_pos rfl, ← hF1, ← hT1, ← hZ1, ← hX1, ← hH1])
  have e1 : (⟨#[32]⟩ : ByteArray).size = 1 := rfl
  have ew : (⟨#[114, 101, 112, 108, 97, 99, 101, 32]⟩ : ByteArray).size = 8 := rfl
  have b0 : ∀ W, (Op.stringOp .add Z1 ⟨#[32]⟩).run Tryz.prog W = .ok (.string (Z1 ++ ⟨#[32]⟩)) W := fun W => run_string_add W _ _ (by omega) (by omega)
  have b1 : ∀ W, (Op.stringOp .add (Z1 ++ ⟨#[32]⟩) H1).run Tryz.prog W = .ok (.string (Z1 ++ ⟨#[32]⟩ ++ H1)) W := fun W => run_string_add W _ _ (by rw [ByteArray.size_append]; omega) (by omega)
  obtain ⟨E, hE⟩ : ∃ E, E = Z1 ++ ⟨#[32]⟩ ++ H1 := ⟨_, rfl⟩
  have zE : E.size ≤ 4011 := by rw [hE, ByteArray.size_append, ByteArray.size_append]; omega
  rw [← hE] at b1 HR
  have a0 : ∀ W, (Op.stringOp .add ⟨#[114, 101, 112, 108, 97, 99, 101, 32]⟩ nm).run Tryz.prog W = .ok (.string (⟨#[114, 101, 112, 108, 97, 99, 101, 32]⟩ ++ nm)) W := fun W => run_string_add W _ _ (by omega) (by omega)
  have a1 : ∀ W, (Op.stringOp .add (⟨#[114, 101, 112, 108, 97, 99, 101, 32]⟩ ++ nm) ⟨#[32]⟩).run Tryz.prog W = .ok (.string (⟨#[114, 101, 112, 108, 97, 99, 101, 32]⟩ ++ nm ++ ⟨#[32]⟩)) W := fun W => run_string_add W _ _ (by rw [ByteArray.size_append]; omega) (by omega)
  have a2 : ∀ W, (Op.stringOp .add (⟨#[114, 101, 112, 108, 97, 99, 101, 32]⟩ ++ nm ++ ⟨#[32]⟩) F1).run Tryz.prog W = .ok (.string (⟨#[114, 101, 112, 108, 97, 99, 101, 32]⟩ ++ nm ++ ⟨#[32]⟩ ++ F1)) W := fun W => run_string_add W _ _ (by rw [ByteArray.size_append, ByteArray.size_append]; omega) (by omega)
  have a3 : ∀ W, (Op.stringOp .add (⟨#[114, 101, 112, 108, 97, 99, 101, 32]⟩ ++ nm ++ ⟨#[32]⟩ ++ F1) ⟨#[32]⟩).run Tryz.prog W = .ok (.string (⟨#[114, 101, 112, 108, 97, 99, 101, 32]⟩ ++ nm ++ ⟨#[32]⟩ ++ F1 ++ ⟨#[32]⟩)) W := fun W => run_string_add W _ _ (by rw [ByteArray.size_append, ByteArray.size_append, ByteArray.size_append]; omega) (by omega)
  have a4 : ∀ W, (Op.stringOp .add (⟨#[114, 101, 112, 108, 97, 99, 101, 32]⟩ ++ nm ++ ⟨#[32]⟩ ++ F1 ++ ⟨#[32]⟩) T1).run Tryz.prog W = .ok (.string (⟨#[114, 101, 112, 108, 97, 99, 101, 32]⟩ ++ nm ++ ⟨#[32]⟩ ++ F1 ++ ⟨#[32]⟩ ++ T1)) W := fun W => run_string_add W _ _ (by rw [ByteArray.size_append, ByteArray.size_append, ByteArray.size_append, ByteArray.size_append]; omega) (by omega)
  have a5 : ∀ W, (Op.stringOp .add (⟨#[114, 101, 112, 108, 97, 99, 101, 32]⟩ ++ nm ++ ⟨#[32]⟩ ++ F1 ++ ⟨#[32]⟩ ++ T1) ⟨#[32]⟩).run Tryz.prog W = .ok (.string (⟨#[114, 101, 112, 108, 97, 99, 101, 32]⟩ ++ nm ++ ⟨#[32]⟩ ++ F1 ++ ⟨#[32]⟩ ++ T1 ++ ⟨#[32]⟩)) W := fun W => run_string_add W _ _ (by rw [ByteArray.size_append, ByteArray.size_append, ByteArray.size_append, ByteArray.size_append, ByteArray.size_append]; omega) (by omega)
  have a6 : ∀ W, (Op.stringOp .add (⟨#[114, 101, 112, 108, 97, 99, 101, 32]⟩ ++ nm ++ ⟨#[32]⟩ ++ F1 ++ ⟨#[32]⟩ ++ T1 ++ ⟨#[32]⟩) E).run Tryz.prog W = .ok (.string (⟨#[114, 101, 112, 108, 97, 99, 101, 32]⟩ ++ nm ++ ⟨#[32]⟩ ++ F1 ++ ⟨#[32]⟩ ++ T1 ++ ⟨#[32]⟩ ++ E)) W := fun W => run_string_add W _ _ (by rw [ByteArray.size_append, ByteArray.size_append, ByteArray.size_append, ByteArray.size_append, ByteArray.size_append, ByteArray.size_append]; omega) (by omega)
  rw [HR.out]
  clear hok hF1 hT1 hX1 hH1 hZ1 hE HR
  have kS := Blk.new w 24 #[.int .i64 2, .string nm, .int .i64 f, .int .i64 t, .int .i64 z, .string d]
  have hB0 : Below w.heap.size w (w.alloc (.cells #[.int .i64 2, .string nm, .int .i64 f, .int .i64 t, .int .i64 z, .string d] 24)) := by exact obB
  obtain ⟨y0, y1, y2, y3, y4, y5⟩ := kS.cells6
  have KS := hid kS
  go_enter Tryz.func7, Tryz.ntmps7
  go_wp2_with fail
  refine (HV.out _).mono ?_
  rintro e w1 ⟨rfl, hb1⟩
  have kS1 := KS.out.on hb1
  have hB1 := hB0.trans (hb1.mono hB0.size)
  clear kS y0 y1 y2 y3 y4 y5 hb1
  obtain ⟨y0, y1, y2, y3, y4, y5⟩ := kS1.cells6
  have hS : w1.cell? ⟨w.heap.size, 4, none⟩ = some (.int .i64 z) ∧ w1.cell? ⟨w.heap.size, 5, none⟩ = some (.string d) ∧ Below w1.heap.size w1 w1 := ⟨y4, y5, Below.refl _ _⟩
  go_wp2_with fail
  refine qB (S := (fun v => v.cell? ⟨w.heap.size, 4, none⟩ = some (.int .i64 z) ∧ v.cell? ⟨w.heap.size, 5, none⟩ = some (.string d) ∧ Below w1.heap.size w1 v)) (by kernel_rfl) (by kernel_rfl) (s2_drew hS) ?_
  refine qK ?_
  refine qK ?_
  refine qC (fun wq hSq => HZ.out wq) (fun wq wr hbr hSq => s2_bel hbr hSq) ?_
  refine qK ?_
  refine qK ?_
  refine qK ?_
  refine qC (fun wq hSq => HH.out wq) (fun wq wr hbr hSq => s2_bel hbr hSq) ?_
  refine qC (fun wq hSq => HD.out wq) (fun wq wr hbr hSq => s2_bel hbr hSq) ?_
  refine qK ?_
  refine qK ?_
  refine qN ?_
  intro wq hSq
  (try dsimp only at hSq)
  have hbq0 := hSq.2.2
  obtain ⟨W2, hW2⟩ : ∃ W2, W2 = wq := ⟨_, rfl⟩
  rw [← hW2] at hbq0 ⊢
  clear hW2 hSq hS y0 y1 y2 y3 y4 y5
  have hB2 := hB1.trans (hbq0.mono hB1.size)
  have kS2 := kS1.on hbq0
  clear kS1 hbq0
  obtain ⟨y0, y1, y2, y3, y4, y5⟩ := kS2.cells6
  have hS : W2.cell? ⟨w.heap.size, 1, none⟩ = some (.string nm) ∧ W2.cell? ⟨w.heap.size, 2, none⟩ = some (.int .i64 f) ∧ W2.cell? ⟨w.heap.size, 3, none⟩ = some (.int .i64 t) ∧ Below W2.heap.size W2 W2 := ⟨y1, y2, y3, Below.refl _ _⟩
  go_wp2_with fail
  refine qB (S := (fun v => v.cell? ⟨w.heap.size, 1, none⟩ = some (.string nm) ∧ v.cell? ⟨w.heap.size, 2, none⟩ = some (.int .i64 f) ∧ v.cell? ⟨w.heap.size, 3, none⟩ = some (.int .i64 t) ∧ Below W2.heap.size W2 v)) (by kernel_rfl) (by kernel_rfl) (s3_drew hS) ?_
  refine qK ?_
  refine qK ?_
  refine qK ?_
  refine qK ?_
  refine qK ?_
  refine qK ?_
  refine qC (fun wq hSq => HF.out wq) (fun wq wr hbr hSq => s3_bel hbr hSq) ?_
  refine qK ?_
  refine qK ?_
  refine qK ?_
  refine qK ?_
  refine qC (fun wq hSq => HT.out wq) (fun wq wr hbr hSq => s3_bel hbr hSq) ?_
  refine qK ?_
  refine qK ?_
  refine qK ?_
  refine qK ?_
  refine qK ?_
  refine qN ?_
  intro wq hSq
  (try dsimp only at hSq)
  have hB3 := hB2.trans (hSq.2.2.2.mono hB2.size)
  clear hSq hS
  go_wp2_with fail
  go_ret
  exact ⟨rfl, hB3⟩

set_option maxHeartbeats 8000000 in
set_option maxRecDepth 100000 in
theorem c_sFormatOp_3 (nm : ByteArray) (f t z : Int) (d : ByteArray) (w : World) (hn : nm.size ≤ 1048576) (hd : d.size ≤ 1048576) (hok : opB 3 nm f t z d = true) :
    Calls Tryz.prog 7 #[.agg #[.int .i64 3, .string nm, .int .i64 f, .int .i64 t, .int .i64 z, .string d]] w fun e w' => e = .returned (.string (opTx 3 nm f t z d)) ∧ Below w.heap.size w w' := by
  have HV := hid (fun v => c_sOpValid 3 nm f t z d v hn hd)
  rw [hok] at HV
  obtain ⟨-, ⟨n1, n2⟩, ⟨z1, z2⟩, ⟨f1, f2⟩, ⟨t1, t2⟩, d1⟩ := opB_facts hok
  have HF := hid (fun v => c_l9Dec f v (by omega) (by omega))
  have HT := hid (fun v => c_l9Dec t v (by omega) (by omega))
  have HZ := hid (fun v => c_l9Dec z v (by omega) (by omega))
  have HH := hid (fun v => c_sFormatHex_yes d v (by omega))
  obtain ⟨F1, hF1⟩ : ∃ F1, F1 = str (dec f) := ⟨_, rfl⟩
  obtain ⟨T1, hT1⟩ : ∃ T1, T1 = str (dec t) := ⟨_, rfl⟩
  obtain ⟨Z1, hZ1⟩ : ∃ Z1, Z1 = str (dec z) := ⟨_, rfl⟩
  obtain ⟨X1, hX1⟩ : ∃ X1, X1 = str (M.fmtHex d.data.toList) := ⟨_, rfl⟩
  have HD := hid (fun v => same_belI (c_l3SomeI X1 v))
  obtain ⟨H1, hH1⟩ : ∃ H1, H1 = dashI X1 := ⟨_, rfl⟩
  rw [← hF1] at HF
  rw [← hT1] at HT
  rw [← hZ1] at HZ
  rw [← hX1] at HH
  rw [← hH1] at HD
  have zF : F1.size ≤ 10 := by rw [hF1, str_size]; exact (dec_len f f1 (by omega)).2
  have zT : T1.size ≤ 10 := by rw [hT1, str_size]; exact (dec_len t t1 (by omega)).2
  have zZ : Z1.size ≤ 10 := by rw [hZ1, str_size]; exact (dec_len z z1 (by omega)).2
  have zH : H1.size ≤ 4000 := by rw [hH1, hX1]; exact dashI_size (by rw [str_size]; exact hexI_len d1) (by omega)
  have HR := hid (show opTx 3 nm f t z d = ⟨#[109, 101, 114, 103, 101, 32]⟩ ++ nm ++ ⟨#[32]⟩ ++ Z1 by unfold opTx endT; rw [if_neg (by decide), if_neg (by decide), if_neg (by decide), if_pos rfl, ← hZ1])
  have e1 : (⟨#[32]⟩ : ByteArray).size = 1 := rfl
  have ew : (⟨#[109, 101, 114, 103, 101, 32]⟩ : ByteArray).size = 6 := rfl
  have b0 : ∀ W, (Op.stringOp .add Z1 ⟨#[32]⟩).run Tryz.prog W = .ok (.string (Z1 ++ ⟨#[32]⟩)) W := fun W => run_string_add W _ _ (by omega) (by omega)
  have b1 : ∀ W, (Op.stringOp .add (Z1 ++ ⟨#[32]⟩) H1).run Tryz.prog W = .ok (.string (Z1 ++ ⟨#[32]⟩ ++ H1)) W := fun W => run_string_add W _ _ (by rw [ByteArray.size_append]; omega) (by omega)
  have a0 : ∀ W, (Op.stringOp .add ⟨#[109, 101, 114, 103, 101, 32]⟩ nm).run Tryz.prog W = .ok (.string (⟨#[109, 101, 114, 103, 101, 32]⟩ ++ nm)) W := fun W => run_string_add W _ _ (by omega) (by omega)
  have a1 : ∀ W, (Op.stringOp .add (⟨#[109, 101, 114, 103, 101, 32]⟩ ++ nm) ⟨#[32]⟩).run Tryz.prog W = .ok (.string (⟨#[109, 101, 114, 103, 101, 32]⟩ ++ nm ++ ⟨#[32]⟩)) W := fun W => run_string_add W _ _ (by rw [ByteArray.size_append]; omega) (by omega)
  have a2 : ∀ W, (Op.stringOp .add (⟨#[109, 101, 114, 103, 101, 32]⟩ ++ nm ++ ⟨#[32]⟩) Z1).run Tryz.prog W = .ok (.string (⟨#[109, 101, 114, 103, 101, 32]⟩ ++ nm ++ ⟨#[32]⟩ ++ Z1)) W := fun W => run_string_add W _ _ (by rw [ByteArray.size_append, ByteArray.size_append]; omega) (by omega)
  rw [HR.out]
  clear hok hF1 hT1 hX1 hH1 hZ1 HR
  have kS := Blk.new w 24 #[.int .i64 3, .string nm, .int .i64 f, .int .i64 t, .int .i64 z, .string d]
  have hB0 : Below w.heap.size w (w.alloc (.cells #[.int .i64 3, .string nm, .int .i64 f, .int .i64 t, .int .i64 z, .string d] 24)) := by exact obB
  obtain ⟨y0, y1, y2, y3, y4, y5⟩ := kS.cells6
  have KS := hid kS
  go_enter Tryz.func7, Tryz.ntmps7
  go_wp2_with fail
  refine (HV.out _).mono ?_
  rintro e w1 ⟨rfl, hb1⟩
  have kS1 := KS.out.on hb1
  have hB1 := hB0.trans (hb1.mono hB0.size)
  clear kS y0 y1 y2 y3 y4 y5 hb1
  obtain ⟨y0, y1, y2, y3, y4, y5⟩ := kS1.cells6
  have hS : w1.cell? ⟨w.heap.size, 4, none⟩ = some (.int .i64 z) ∧ w1.cell? ⟨w.heap.size, 5, none⟩ = some (.string d) ∧ Below w1.heap.size w1 w1 := ⟨y4, y5, Below.refl _ _⟩
  go_wp2_with fail
  refine qB (S := (fun v => v.cell? ⟨w.heap.size, 4, none⟩ = some (.int .i64 z) ∧ v.cell? ⟨w.heap.size, 5, none⟩ = some (.string d) ∧ Below w1.heap.size w1 v)) (by kernel_rfl) (by kernel_rfl) (s2_drew hS) ?_
  refine qK ?_
  refine qK ?_
  refine qC (fun wq hSq => HZ.out wq) (fun wq wr hbr hSq => s2_bel hbr hSq) ?_
  refine qK ?_
  refine qK ?_
  refine qK ?_
  refine qC (fun wq hSq => HH.out wq) (fun wq wr hbr hSq => s2_bel hbr hSq) ?_
  refine qC (fun wq hSq => HD.out wq) (fun wq wr hbr hSq => s2_bel hbr hSq) ?_
  refine qK ?_
  refine qK ?_
  refine qN ?_
  intro wq hSq
  (try dsimp only at hSq)
  have hbq0 := hSq.2.2
  obtain ⟨W2, hW2⟩ : ∃ W2, W2 = wq := ⟨_, rfl⟩
  rw [← hW2] at hbq0 ⊢
  clear hW2 hSq hS y0 y1 y2 y3 y4 y5
  have hB2 := hB1.trans (hbq0.mono hB1.size)
  have kS2 := kS1.on hbq0
  clear kS1 hbq0
  obtain ⟨y0, y1, y2, y3, y4, y5⟩ := kS2.cells6
  have hS : W2.cell? ⟨w.heap.size, 1, none⟩ = some (.string nm) ∧ W2.cell? ⟨w.heap.size, 4, none⟩ = some (.int .i64 z) ∧ Below W2.heap.size W2 W2 := ⟨y1, y4, Below.refl _ _⟩
  go_wp2_with fail
  refine qB (S := (fun v => v.cell? ⟨w.heap.size, 1, none⟩ = some (.string nm) ∧ v.cell? ⟨w.heap.size, 4, none⟩ = some (.int .i64 z) ∧ Below W2.heap.size W2 v)) (by kernel_rfl) (by kernel_rfl) (s2_drew hS) ?_
  refine qK ?_
  refine qK ?_
  refine qK ?_
  refine qK ?_
  refine qK ?_
  refine qK ?_
  refine qC (fun wq hSq => HZ.out wq) (fun wq wr hbr hSq => s2_bel hbr hSq) ?_
  refine qK ?_
  refine qK ?_
  refine qN ?_
  intro wq hSq
  (try dsimp only at hSq)
  have hB3 := hB2.trans (hSq.2.2.mono hB2.size)
  clear hSq hS
  go_wp2_with fail
  go_ret
  exact ⟨rfl, hB3⟩

set_option maxHeartbeats 8000000 in
set_option maxRecDepth 100000 in
theorem c_sFormatOp_4 (nm : ByteArray) (f t z : Int) (d : ByteArray) (w : World) (hn : nm.size ≤ 1048576) (hd : d.size ≤ 1048576) (hok : opB 4 nm f t z d = true) :
    Calls Tryz.prog 7 #[.agg #[.int .i64 4, .string nm, .int .i64 f, .int .i64 t, .int .i64 z, .string d]] w fun e w' => e = .returned (.string (opTx 4 nm f t z d)) ∧ Below w.heap.size w w' := by
  have HV := hid (fun v => c_sOpValid 4 nm f t z d v hn hd)
  rw [hok] at HV
  obtain ⟨-, ⟨n1, n2⟩, ⟨z1, z2⟩, ⟨f1, f2⟩, ⟨t1, t2⟩, d1⟩ := opB_facts hok
  have HF := hid (fun v => c_l9Dec f v (by omega) (by omega))
  have HT := hid (fun v => c_l9Dec t v (by omega) (by omega))
  have HZ := hid (fun v => c_l9Dec z v (by omega) (by omega))
  have HH := hid (fun v => c_sFormatHex_yes d v (by omega))
  obtain ⟨F1, hF1⟩ : ∃ F1, F1 = str (dec f) := ⟨_, rfl⟩
  obtain ⟨T1, hT1⟩ : ∃ T1, T1 = str (dec t) := ⟨_, rfl⟩
  obtain ⟨Z1, hZ1⟩ : ∃ Z1, Z1 = str (dec z) := ⟨_, rfl⟩
  obtain ⟨X1, hX1⟩ : ∃ X1, X1 = str (M.fmtHex d.data.toList) := ⟨_, rfl⟩
  have HD := hid (fun v => same_belI (c_l3SomeI X1 v))
  obtain ⟨H1, hH1⟩ : ∃ H1, H1 = dashI X1 := ⟨_, rfl⟩
  rw [← hF1] at HF
  rw [← hT1] at HT
  rw [← hZ1] at HZ
  rw [← hX1] at HH
  rw [← hH1] at HD
  have zF : F1.size ≤ 10 := by rw [hF1, str_size]; exact (dec_len f f1 (by omega)).2
  have zT : T1.size ≤ 10 := by rw [hT1, str_size]; exact (dec_len t t1 (by omega)).2
  have zZ : Z1.size ≤ 10 := by rw [hZ1, str_size]; exact (dec_len z z1 (by omega)).2
  have zH : H1.size ≤ 4000 := by rw [hH1, hX1]; exact dashI_size (by rw [str_size]; exact hexI_len d1) (by omega)
  have HR := hid (show opTx 4 nm f t z d = ⟨#[100, 101, 108, 101, 116, 101, 32]⟩ ++ nm by unfold opTx endT; rw [if_neg (by decide), if_neg (by decide), if_neg (by decide), if_neg (by decide)])
  have e1 : (⟨#[32]⟩ : ByteArray).size = 1 := rfl
  have ew : (⟨#[100, 101, 108, 101, 116, 101, 32]⟩ : ByteArray).size = 7 := rfl
  have b0 : ∀ W, (Op.stringOp .add Z1 ⟨#[32]⟩).run Tryz.prog W = .ok (.string (Z1 ++ ⟨#[32]⟩)) W := fun W => run_string_add W _ _ (by omega) (by omega)
  have b1 : ∀ W, (Op.stringOp .add (Z1 ++ ⟨#[32]⟩) H1).run Tryz.prog W = .ok (.string (Z1 ++ ⟨#[32]⟩ ++ H1)) W := fun W => run_string_add W _ _ (by rw [ByteArray.size_append]; omega) (by omega)
  obtain ⟨E, hE⟩ : ∃ E, E = Z1 ++ ⟨#[32]⟩ ++ H1 := ⟨_, rfl⟩
  have zE : E.size ≤ 4011 := by rw [hE, ByteArray.size_append, ByteArray.size_append]; omega
  rw [← hE] at b1
  have a0 : ∀ W, (Op.stringOp .add ⟨#[100, 101, 108, 101, 116, 101, 32]⟩ nm).run Tryz.prog W = .ok (.string (⟨#[100, 101, 108, 101, 116, 101, 32]⟩ ++ nm)) W := fun W => run_string_add W _ _ (by omega) (by omega)
  rw [HR.out]
  clear hok hF1 hT1 hX1 hH1 hZ1 hE HR
  have kS := Blk.new w 24 #[.int .i64 4, .string nm, .int .i64 f, .int .i64 t, .int .i64 z, .string d]
  have hB0 : Below w.heap.size w (w.alloc (.cells #[.int .i64 4, .string nm, .int .i64 f, .int .i64 t, .int .i64 z, .string d] 24)) := by exact obB
  obtain ⟨y0, y1, y2, y3, y4, y5⟩ := kS.cells6
  have KS := hid kS
  go_enter Tryz.func7, Tryz.ntmps7
  go_wp2_with fail
  refine (HV.out _).mono ?_
  rintro e w1 ⟨rfl, hb1⟩
  have kS1 := KS.out.on hb1
  have hB1 := hB0.trans (hb1.mono hB0.size)
  clear kS y0 y1 y2 y3 y4 y5 hb1
  obtain ⟨y0, y1, y2, y3, y4, y5⟩ := kS1.cells6
  have hS : w1.cell? ⟨w.heap.size, 4, none⟩ = some (.int .i64 z) ∧ w1.cell? ⟨w.heap.size, 5, none⟩ = some (.string d) ∧ Below w1.heap.size w1 w1 := ⟨y4, y5, Below.refl _ _⟩
  go_wp2_with fail
  refine qB (S := (fun v => v.cell? ⟨w.heap.size, 4, none⟩ = some (.int .i64 z) ∧ v.cell? ⟨w.heap.size, 5, none⟩ = some (.string d) ∧ Below w1.heap.size w1 v)) (by kernel_rfl) (by kernel_rfl) (s2_drew hS) ?_
  refine qK ?_
  refine qK ?_
  refine qC (fun wq hSq => HZ.out wq) (fun wq wr hbr hSq => s2_bel hbr hSq) ?_
  refine qK ?_
  refine qK ?_
  refine qK ?_
  refine qC (fun wq hSq => HH.out wq) (fun wq wr hbr hSq => s2_bel hbr hSq) ?_
  refine qC (fun wq hSq => HD.out wq) (fun wq wr hbr hSq => s2_bel hbr hSq) ?_
  refine qK ?_
  refine qK ?_
  refine qN ?_
  intro wq hSq
  (try dsimp only at hSq)
  have hbq0 := hSq.2.2
  obtain ⟨W2, hW2⟩ : ∃ W2, W2 = wq := ⟨_, rfl⟩
  rw [← hW2] at hbq0 ⊢
  clear hW2 hSq hS y0 y1 y2 y3 y4 y5
  have hB2 := hB1.trans (hbq0.mono hB1.size)
  have kS2 := kS1.on hbq0
  clear kS1 hbq0
  obtain ⟨y0, y1, y2, y3, y4, y5⟩ := kS2.cells6
  go_wp2_with fail
  go_ret
  exact ⟨rfl, hB2⟩

theorem c_sFormatOp (k : Int) (nm : ByteArray) (f t z : Int) (d : ByteArray) (w : World) (hn : nm.size ≤ 1048576) (hd : d.size ≤ 1048576) :
    Calls Tryz.prog 7 #[.agg #[.int .i64 k, .string nm, .int .i64 f, .int .i64 t, .int .i64 z, .string d]] w fun e w' => e = .returned (.string (opT k nm f t z d)) ∧ Below w.heap.size w w' := by
  by_cases hok : opB k nm f t z d = true
  · rw [show opT k nm f t z d = opTx k nm f t z d from if_pos hok]
    have hk := (opB_facts hok).1
    have hC : k = 0 ∨ k = 1 ∨ k = 2 ∨ k = 3 ∨ k = 4 := by omega
    rcases hC with rfl | rfl | rfl | rfl | rfl
    · exact c_sFormatOp_0 nm f t z d w hn hd hok
    · exact c_sFormatOp_1 nm f t z d w hn hd hok
    · exact c_sFormatOp_2 nm f t z d w hn hd hok
    · exact c_sFormatOp_3 nm f t z d w hn hd hok
    · exact c_sFormatOp_4 nm f t z d w hn hd hok
  · rw [show opT k nm f t z d = ByteArray.empty from if_neg hok]
    have HV := hid (fun v => c_sOpValid k nm f t z d v hn hd)
    rw [Bool.eq_false_iff.2 hok] at HV
    have kS := Blk.new w 24 #[.int .i64 k, .string nm, .int .i64 f, .int .i64 t, .int .i64 z, .string d]
    have hB0 : Below w.heap.size w (w.alloc (.cells #[.int .i64 k, .string nm, .int .i64 f, .int .i64 t, .int .i64 z, .string d] 24)) := by exact obB
    obtain ⟨y0, y1, y2, y3, y4, y5⟩ := kS.cells6
    clear kS
    go_enter Tryz.func7, Tryz.ntmps7
    go_wp2_with fail
    refine (HV.out _).mono ?_
    rintro e w1 ⟨rfl, hb1⟩
    go_wp2_with fail
    go_ret
    exact ⟨rfl, hB0.trans (hb1.mono hB0.size)⟩
end Go.Proofs.YtaiemogcboidhaaGreatDoor
