/- FormatOp in the program. -/
import Derived.Test.YtaiemogcboidhaaGreatDoorKe
namespace Go.Proofs.YtaiemogcboidhaaGreatDoor
open Go.ChangeShapes Go.WideShapes Go.ChangeAt Go.RowKit Go.Joins
set_option linter.unusedVariables false
set_option linter.unusedSimpArgs false

/-- strings.Join over a row, parted by blanks -/
theorem c_joinS (A : Option Addr) (cap L : Nat) (l : List ByteArray) (w : World) (h : StrsAt w L A cap l) (hL : L ≤ w.heap.size) (h0 : 0 < l.length) (hn : l.length ≤ 1000) (hlen : (Lib.join (l.map (·.data.toList)) [32]).length ≤ 140737488355328) :
    Calls Tryz.prog 18 #[.slice A l.length cap, .string ⟨#[32]⟩] w fun e w' => e = .returned (.string (str (Lib.join (l.map (·.data.toList)) [32]))) ∧ Below w.heap.size w w' := by
  obtain ⟨b, off, rfl, hb, _⟩ := txt_at h 0 h0
  refine Tryz.strings_Join b off cap l ⟨#[32]⟩ w (fun j x hj => ?_) (by omega) (by omega) h.1 hlen
  have hjl : j < l.length := by
    rcases Nat.lt_or_ge j l.length with h1 | h1
    · exact h1
    · rw [List.getElem?_eq_none h1] at hj; cases hj
  obtain ⟨b2, off2, e2, _, hc⟩ := txt_at h j hjl
  cases e2
  rw [List.getElem?_eq_getElem hjl] at hj
  cases hj
  exact hc

set_option maxHeartbeats 8000000 in
set_option maxRecDepth 100000 in
theorem c_FormatOp_in (kn : Nat) (hk : kn < 5) (wd : ByteArray) (r s h : Bool) (nm : ByteArray) (f t z : Int) (d : ByteArray) (l : List ByteArray) (w : World)
    (hV : ∀ v, Below w.heap.size w v → Calls Tryz.prog 8 #[.agg #[.int .i64 kn, .string nm, .int .i64 f, .int .i64 t, .int .i64 z, .string d]] v fun e w' => e = .returned (.bool true) ∧ Below v.heap.size v w')
    (hFd : ∀ v, Below w.heap.size w v → Calls Tryz.prog 19 #[.agg #[.string wd, .bool r, .bool s, .bool h], .agg #[.int .i64 kn, .string nm, .int .i64 f, .int .i64 t, .int .i64 z, .string d]] v fun e w' => ∃ A cap, e = .returned (.slice A l.length cap) ∧ StrsAt w' w'.heap.size A cap l ∧ Below v.heap.size v w')
    (hF : ∀ v, Below w.heap.size w v → v.cell? ⟨0, kn * 4, none⟩ = some (.string wd) ∧ v.cell? ⟨0, kn * 4 + 1, none⟩ = some (.bool r) ∧ v.cell? ⟨0, kn * 4 + 2, none⟩ = some (.bool s) ∧ v.cell? ⟨0, kn * 4 + 3, none⟩ = some (.bool h)) (hFl : 0 < w.heap.size)
    (h0 : 0 < l.length) (hn : l.length ≤ 1000) (hlen : (Lib.join (l.map (·.data.toList)) [32]).length ≤ 140737488355328) :
    Calls Tryz.prog 6 #[.agg #[.int .i64 kn, .string nm, .int .i64 f, .int .i64 t, .int .i64 z, .string d]] w fun e w' => e = .returned (.string (str (Lib.join (l.map (·.data.toList)) [32]))) ∧ Below w.heap.size w w' := by
  have HV := hid hV
  have HFd := hid hFd
  have HJ := hid (fun (A : Option Addr) (cap : Nat) (v : World) (hA : StrsAt v v.heap.size A cap l) => c_joinS A cap _ l v hA (Nat.le_refl _) h0 hn hlen)
  obtain ⟨J, hJ⟩ : ∃ J, J = str (Lib.join (l.map (·.data.toList)) [32]) := ⟨_, rfl⟩
  rw [← hJ] at HJ ⊢
  have HF := hid hF
  clear hJ hlen hn h0 hV hFd hF
  have kS := Blk.new w 24 #[.int .i64 kn, .string nm, .int .i64 f, .int .i64 t, .int .i64 z, .string d]
  have hB0 : Below w.heap.size w (w.alloc (.cells #[.int .i64 kn, .string nm, .int .i64 f, .int .i64 t, .int .i64 z, .string d] 24)) := by exact obB
  obtain ⟨y0, y1, y2, y3, y4, y5⟩ := kS.cells6
  have KS := hid kS
  have hk5 : (kn : Int) < 5 := by omega
  have hk5n : ¬ (5 : Int) ≤ (kn : Int) := by omega
  have hk0 : (0 : Int) ≤ (kn : Int) := by omega
  go_enter Tryz.func6, Tryz.ntmps6
  go_wp2_with fail
  refine (HV.out _ hB0).mono ?_
  rintro e w1 ⟨rfl, hb1⟩
  have kS1 := KS.out.on hb1
  have hB1 := hB0.trans (hb1.mono hB0.size)
  have hc := kS1.cells6
  have hq := HF.out _ hB1
  obtain ⟨W2, hW2⟩ : ∃ W2, W2 = w1 := ⟨_, rfl⟩
  rw [← hW2] at hB1 hc hq ⊢
  have hS : W2.cell? ⟨w.heap.size, 0, none⟩ = some (.int .i64 kn) ∧ W2.cell? ⟨w.heap.size, 1, none⟩ = some (.string nm) ∧ W2.cell? ⟨w.heap.size, 2, none⟩ = some (.int .i64 f) ∧ W2.cell? ⟨w.heap.size, 3, none⟩ = some (.int .i64 t) ∧ W2.cell? ⟨w.heap.size, 4, none⟩ = some (.int .i64 z) ∧ W2.cell? ⟨w.heap.size, 5, none⟩ = some (.string d) ∧ W2.cell? ⟨0, kn * 4, none⟩ = some (.string wd) ∧ W2.cell? ⟨0, kn * 4 + 1, none⟩ = some (.bool r) ∧ W2.cell? ⟨0, kn * 4 + 2, none⟩ = some (.bool s) ∧ W2.cell? ⟨0, kn * 4 + 3, none⟩ = some (.bool h) ∧ Below W2.heap.size W2 W2 := ⟨hc.1, hc.2.1, hc.2.2.1, hc.2.2.2.1, hc.2.2.2.2.1, hc.2.2.2.2.2, hq.1, hq.2.1, hq.2.2.1, hq.2.2.2, Below.refl _ _⟩
  have hg0 : 0 < W2.heap.size := Nat.lt_of_lt_of_le hFl hB1.size
  have HB := hid (bel_drew hB1)
  clear hW2 kS1 hb1 hc hq KS kS hB0 y0 y1 y2 y3 y4 y5 HV hB1
  go_wp2_with fail

  refine wp_region_noPanic ?_
  refine wp_region_held_drew (S := (fun v => v.cell? ⟨w.heap.size, 0, none⟩ = some (.int .i64 kn) ∧ v.cell? ⟨w.heap.size, 1, none⟩ = some (.string nm) ∧ v.cell? ⟨w.heap.size, 2, none⟩ = some (.int .i64 f) ∧ v.cell? ⟨w.heap.size, 3, none⟩ = some (.int .i64 t) ∧ v.cell? ⟨w.heap.size, 4, none⟩ = some (.int .i64 z) ∧ v.cell? ⟨w.heap.size, 5, none⟩ = some (.string d) ∧ v.cell? ⟨0, kn * 4, none⟩ = some (.string wd) ∧ v.cell? ⟨0, kn * 4 + 1, none⟩ = some (.bool r) ∧ v.cell? ⟨0, kn * 4 + 2, none⟩ = some (.bool s) ∧ v.cell? ⟨0, kn * 4 + 3, none⟩ = some (.bool h) ∧ Below W2.heap.size W2 v)) (by kernel_rfl) (s10_drew hS) (fun hHeld => ?_)
  refine tk 0 ?_
  refine tk 1 ?_
  refine tk 2 ?_
  refine tk 3 ?_
  refine tk 4 ?_
  refine wpAnyH_ready (rs := [5]) (by kernel_rfl) (by simp) ?_
  refine AllReadyH.cons (o := ?or1_5) ?ir1_5 (fun K hK => ?sr1_5) AllReadyH.nil
  case ir1_5 => (simp only [List.getElem?_toArray, List.getElem?_cons_succ, List.getElem?_cons_zero]; rfl)
  (go_simp; (go_at_call 19; refine (HFd.out _ HB.out).mono ?_; rintro e wA ⟨Aq, cq, rfl, hAq, hbA⟩; replace HB := hid (HB.out.trans (hbA.mono HB.out.size)); have sA := s10_bel hbA hHeld))
  refine hK.out _ _ ?kr1_5 (fun hHeld => ?_)
  case kr1_5 => (try dsimp only); (first | with_reducible assumption | exact s10_bel (by assumption) (by assumption) | assumption | exact s10_alloc (by assumption) _)
  clear hK K
  try simp only [Act.put, List.setIfInBounds_toArray, List.set_cons_zero, List.set_cons_succ]
  refine wpAnyH_ready (rs := [6]) (by kernel_rfl) (by simp) ?_
  refine AllReadyH.cons (o := ?or1_6) ?ir1_6 (fun K hK => ?sr1_6) AllReadyH.nil
  case ir1_6 => (simp only [List.getElem?_toArray, List.getElem?_cons_succ, List.getElem?_cons_zero]; rfl)
  (go_simp; (go_at_call 18; refine (HJ.out Aq cq _ hAq).mono ?_; rintro e wB ⟨rfl, hbB⟩; replace HB := hid (HB.out.trans (hbB.mono HB.out.size)); have sB := s10_bel hbB hHeld))
  refine hK.out _ _ ?kr1_6 (fun hHeld => ?_)
  case kr1_6 => (try dsimp only); (first | with_reducible assumption | exact s10_bel (by assumption) (by assumption) | assumption | exact s10_alloc (by assumption) _)
  clear hK K
  try simp only [Act.put, List.setIfInBounds_toArray, List.set_cons_zero, List.set_cons_succ]
  refine tk 7 ?_
  refine wpAnyH_done (by kernel_rfl) ?_ _
  refine NoPanic.normal ?_
  all_goals
    go_wp2_with fail
    go_ret
    exact ⟨rfl, HB.out⟩

theorem jn2 (a b : ByteArray) : str (Lib.join ([a, b].map (·.data.toList)) [32]) = a ++ str [32] ++ b := by
  have e : Lib.join ([a, b].map (·.data.toList)) [32] = a.data.toList ++ [32] ++ b.data.toList := by simp [Lib.join, List.intercalate]
  rw [e, ← str_append, ← str_append, str_self, str_self]
theorem jn3 (a b c : ByteArray) : str (Lib.join ([a, b, c].map (·.data.toList)) [32]) = a ++ str [32] ++ b ++ str [32] ++ c := by
  have e : Lib.join ([a, b, c].map (·.data.toList)) [32] = a.data.toList ++ [32] ++ b.data.toList ++ [32] ++ c.data.toList := by simp [Lib.join, List.intercalate]
  rw [e, ← str_append, ← str_append, ← str_append, ← str_append, str_self, str_self, str_self]
theorem jn4 (a b c d : ByteArray) : str (Lib.join ([a, b, c, d].map (·.data.toList)) [32]) = a ++ str [32] ++ b ++ str [32] ++ c ++ str [32] ++ d := by
  have e : Lib.join ([a, b, c, d].map (·.data.toList)) [32] = a.data.toList ++ [32] ++ b.data.toList ++ [32] ++ c.data.toList ++ [32] ++ d.data.toList := by simp [Lib.join, List.intercalate]
  rw [e, ← str_append, ← str_append, ← str_append, ← str_append, ← str_append, ← str_append, str_self, str_self, str_self, str_self]
theorem jn6 (a b c d x y : ByteArray) : str (Lib.join ([a, b, c, d, x, y].map (·.data.toList)) [32]) = a ++ str [32] ++ b ++ str [32] ++ c ++ str [32] ++ d ++ str [32] ++ x ++ str [32] ++ y := by
  have e : Lib.join ([a, b, c, d, x, y].map (·.data.toList)) [32] = a.data.toList ++ [32] ++ b.data.toList ++ [32] ++ c.data.toList ++ [32] ++ d.data.toList ++ [32] ++ x.data.toList ++ [32] ++ y.data.toList := by simp [Lib.join, List.intercalate]
  rw [e, ← str_append, ← str_append, ← str_append, ← str_append, ← str_append, ← str_append, ← str_append, ← str_append, ← str_append, ← str_append, str_self, str_self, str_self, str_self, str_self, str_self]
theorem len_join {l : List ByteArray} {x : ByteArray} (h : str (Lib.join (l.map (·.data.toList)) [32]) = x) (hx : x.size ≤ 100000) : (Lib.join (l.map (·.data.toList)) [32]).length ≤ 140737488355328 := by
  have e := congrArg ByteArray.size h
  rw [str_size] at e
  omega

theorem c_FormatOp (k : Int) (nm : ByteArray) (f t z : Int) (d : ByteArray) (w : World) (hn : nm.size ≤ 1048576) (hd : d.size ≤ 1048576) (hf : -9223372036854775808 ≤ f ∧ f ≤ 9223372036854775807) (ht : -9223372036854775808 ≤ t ∧ t ≤ 9223372036854775807) (hLy : Lay w) (hFm : Frm w) (hT : Tab w) :
    Calls Tryz.prog 6 #[.agg #[.int .i64 k, .string nm, .int .i64 f, .int .i64 t, .int .i64 z, .string d]] w fun e w' => e = .returned (.string (opT k nm f t z d)) ∧ Below w.heap.size w w' := by
  by_cases hok : opB k nm f t z d = true
  · rw [show opT k nm f t z d = opTx k nm f t z d from if_pos hok]
    obtain ⟨hk, ⟨n1, n2⟩, hz, hf2, ht2, d1⟩ := opB_facts hok
    have hV := fun (v : World) (hb : Below w.heap.size w v) => (show Calls Tryz.prog 8 #[.agg #[.int .i64 k, .string nm, .int .i64 f, .int .i64 t, .int .i64 z, .string d]] v (fun e w' => e = .returned (.bool true) ∧ Below v.heap.size v w') from by
      have e := c_OpValid k nm f t z d v hn hd hf ht (hLy.on hb) (hFm.on hb)
      rwa [hok] at e)
    have hFl : 0 < w.heap.size := by
      obtain ⟨t, h⟩ := hFm
      exact Blk.lt (t := t) h
    have zF : (str (dec f)).size ≤ 10 := by rw [str_size]; exact (dec_len f hf2.1 (by omega)).2
    have zT : (str (dec t)).size ≤ 10 := by rw [str_size]; exact (dec_len t ht2.1 (by omega)).2
    have zZ : (str (dec z)).size ≤ 10 := by rw [str_size]; exact (dec_len z hz.1 (by omega)).2
    have zH : (dashI (str (M.fmtHex d.data.toList))).size ≤ 4000 := dashI_size (by rw [str_size]; exact hexI_len d1) (by omega)
    have zs : (str [32]).size = 1 := rfl
    have hC : k = ((0 : Nat) : Int) ∨ k = ((1 : Nat) : Int) ∨ k = ((2 : Nat) : Int) ∨ k = ((3 : Nat) : Int) ∨ k = ((4 : Nat) : Int) := by omega
    rcases hC with rfl | rfl | rfl | rfl | rfl
    · have ej : str (Lib.join (([⟨#[112, 117, 116]⟩, nm, str (dec z), dashI (str (M.fmtHex d.data.toList))] : List ByteArray).map (·.data.toList)) [32]) = opTx ((0 : Nat) : Int) nm f t z d := by
        rw [jn4]
        unfold opTx endT
        rw [if_pos (by decide)]
        rw [show (⟨#[112, 117, 116, 32]⟩ : ByteArray) = ⟨#[112, 117, 116]⟩ ++ str [32] from by decide]
        try simp only [ByteArray.append_assoc]
        try rfl
      have hlen := len_join ej (by rw [← ej, jn4]; simp only [ByteArray.size_append]; have e9 : (⟨#[112, 117, 116]⟩ : ByteArray).size = 3 := rfl; omega)
      rw [← ej]
      exact c_FormatOp_in 0 (by omega) ⟨#[112, 117, 116]⟩ false true true nm f t z d [⟨#[112, 117, 116]⟩, nm, str (dec z), dashI (str (M.fmtHex d.data.toList))] w hV (fun v hb => c_fields_0 _ nm _ f t z d v hz d1 (hT.on hb)) (fun v hb => by obtain ⟨t, h⟩ := hFm.on hb; have hB : Blk v 0 t _ := h; exact ⟨hB.cell 0, hB.cell 1, hB.cell 2, hB.cell 3⟩) hFl (by simp) (by simp) hlen
    · have ej : str (Lib.join (([⟨#[97, 112, 112, 101, 110, 100]⟩, nm, str (dec z), dashI (str (M.fmtHex d.data.toList))] : List ByteArray).map (·.data.toList)) [32]) = opTx ((1 : Nat) : Int) nm f t z d := by
        rw [jn4]
        unfold opTx endT
        rw [if_neg (by decide), if_pos (by decide)]
        rw [show (⟨#[97, 112, 112, 101, 110, 100, 32]⟩ : ByteArray) = ⟨#[97, 112, 112, 101, 110, 100]⟩ ++ str [32] from by decide]
        try simp only [ByteArray.append_assoc]
        try rfl
      have hlen := len_join ej (by rw [← ej, jn4]; simp only [ByteArray.size_append]; have e9 : (⟨#[97, 112, 112, 101, 110, 100]⟩ : ByteArray).size = 6 := rfl; omega)
      rw [← ej]
      exact c_FormatOp_in 1 (by omega) ⟨#[97, 112, 112, 101, 110, 100]⟩ false true true nm f t z d [⟨#[97, 112, 112, 101, 110, 100]⟩, nm, str (dec z), dashI (str (M.fmtHex d.data.toList))] w hV (fun v hb => c_fields_0 _ nm _ f t z d v hz d1 (hT.on hb)) (fun v hb => by obtain ⟨t, h⟩ := hFm.on hb; have hB : Blk v 0 t _ := h; exact ⟨hB.cell 4, hB.cell 5, hB.cell 6, hB.cell 7⟩) hFl (by simp) (by simp) hlen
    · have ej : str (Lib.join (([⟨#[114, 101, 112, 108, 97, 99, 101]⟩, nm, str (dec f), str (dec t), str (dec z), dashI (str (M.fmtHex d.data.toList))] : List ByteArray).map (·.data.toList)) [32]) = opTx ((2 : Nat) : Int) nm f t z d := by
        rw [jn6]
        unfold opTx endT
        rw [if_neg (by decide), if_neg (by decide), if_pos (by decide)]
        rw [show (⟨#[114, 101, 112, 108, 97, 99, 101, 32]⟩ : ByteArray) = ⟨#[114, 101, 112, 108, 97, 99, 101]⟩ ++ str [32] from by decide]
        try simp only [ByteArray.append_assoc]
        try rfl
      have hlen := len_join ej (by rw [← ej, jn6]; simp only [ByteArray.size_append]; have e9 : (⟨#[114, 101, 112, 108, 97, 99, 101]⟩ : ByteArray).size = 7 := rfl; omega)
      rw [← ej]
      exact c_FormatOp_in 2 (by omega) ⟨#[114, 101, 112, 108, 97, 99, 101]⟩ true true true nm f t z d [⟨#[114, 101, 112, 108, 97, 99, 101]⟩, nm, str (dec f), str (dec t), str (dec z), dashI (str (M.fmtHex d.data.toList))] w hV (fun v hb => c_fields_2 _ nm _ f t z d v hf2 ht2 hz d1 (hT.on hb)) (fun v hb => by obtain ⟨t, h⟩ := hFm.on hb; have hB : Blk v 0 t _ := h; exact ⟨hB.cell 8, hB.cell 9, hB.cell 10, hB.cell 11⟩) hFl (by simp) (by simp) hlen
    · have ej : str (Lib.join (([⟨#[109, 101, 114, 103, 101]⟩, nm, str (dec z)] : List ByteArray).map (·.data.toList)) [32]) = opTx ((3 : Nat) : Int) nm f t z d := by
        rw [jn3]
        unfold opTx endT
        rw [if_neg (by decide), if_neg (by decide), if_neg (by decide), if_pos (by decide)]
        rw [show (⟨#[109, 101, 114, 103, 101, 32]⟩ : ByteArray) = ⟨#[109, 101, 114, 103, 101]⟩ ++ str [32] from by decide]
        try simp only [ByteArray.append_assoc]
        try rfl
      have hlen := len_join ej (by rw [← ej, jn3]; simp only [ByteArray.size_append]; have e9 : (⟨#[109, 101, 114, 103, 101]⟩ : ByteArray).size = 5 := rfl; omega)
      rw [← ej]
      exact c_FormatOp_in 3 (by omega) ⟨#[109, 101, 114, 103, 101]⟩ false true false nm f t z d [⟨#[109, 101, 114, 103, 101]⟩, nm, str (dec z)] w hV (fun v hb => c_fields_3 _ nm _ f t z d v hz (hT.on hb)) (fun v hb => by obtain ⟨t, h⟩ := hFm.on hb; have hB : Blk v 0 t _ := h; exact ⟨hB.cell 12, hB.cell 13, hB.cell 14, hB.cell 15⟩) hFl (by simp) (by simp) hlen
    · have ej : str (Lib.join (([⟨#[100, 101, 108, 101, 116, 101]⟩, nm] : List ByteArray).map (·.data.toList)) [32]) = opTx ((4 : Nat) : Int) nm f t z d := by
        rw [jn2]
        unfold opTx endT
        rw [if_neg (by decide), if_neg (by decide), if_neg (by decide), if_neg (by decide)]
        rw [show (⟨#[100, 101, 108, 101, 116, 101, 32]⟩ : ByteArray) = ⟨#[100, 101, 108, 101, 116, 101]⟩ ++ str [32] from by decide]
        try simp only [ByteArray.append_assoc]
        try rfl
      have hlen := len_join ej (by rw [← ej, jn2]; simp only [ByteArray.size_append]; have e9 : (⟨#[100, 101, 108, 101, 116, 101]⟩ : ByteArray).size = 6 := rfl; omega)
      rw [← ej]
      exact c_FormatOp_in 4 (by omega) ⟨#[100, 101, 108, 101, 116, 101]⟩ false false false nm f t z d [⟨#[100, 101, 108, 101, 116, 101]⟩, nm] w hV (fun v hb => c_fields_4 _ nm _ f t z d v) (fun v hb => by obtain ⟨t, h⟩ := hFm.on hb; have hB : Blk v 0 t _ := h; exact ⟨hB.cell 16, hB.cell 17, hB.cell 18, hB.cell 19⟩) hFl (by simp) (by simp) hlen
  · rw [show opT k nm f t z d = ByteArray.empty from if_neg hok]
    have HV := hid (fun (v : World) (hb : Below w.heap.size w v) => (show Calls Tryz.prog 8 #[.agg #[.int .i64 k, .string nm, .int .i64 f, .int .i64 t, .int .i64 z, .string d]] v (fun e w' => e = .returned (.bool false) ∧ Below v.heap.size v w') from by
      have e := c_OpValid k nm f t z d v hn hd hf ht (hLy.on hb) (hFm.on hb)
      rwa [Bool.eq_false_iff.2 hok] at e))
    have hB0 : Below w.heap.size w (w.alloc (.cells #[.int .i64 k, .string nm, .int .i64 f, .int .i64 t, .int .i64 z, .string d] 24)) := by exact obB
    obtain ⟨y0, y1, y2, y3, y4, y5⟩ := (Blk.new w 24 #[.int .i64 k, .string nm, .int .i64 f, .int .i64 t, .int .i64 z, .string d]).cells6
    clear hLy hFm hT
    go_enter Tryz.func6, Tryz.ntmps6
    go_wp2_with fail
    refine (HV.out _ hB0).mono ?_
    rintro e w1 ⟨rfl, hb1⟩
    go_wp2_with fail
    go_ret
    exact ⟨rfl, hB0.trans (hb1.mono hB0.size)⟩
end Go.Proofs.YtaiemogcboidhaaGreatDoor
