/- The contracts of a writer's take. No condition but that a string has a length. -/
import Derived.Test.YtfklkepodpcdgaaQc
import Derived.Test.YtfklkepodpcdgaaBj
namespace Go.Proofs.Ytfklkepodpcdgaa
open Go.ChangeShapes Go.WideShapes Go.ChangeAt Go.RowKit Go.Joins
set_option linter.unusedVariables false
set_option linter.unusedSimpArgs false

theorem ta_part (D : ByteArray) (w : World) : (Instr.typeAssert (.iface 150 (.string D)) 197 150 true).run Try.prog w = .ok (.tuple #[.string D, .bool true]) w := by kernel_rfl
theorem ta_closing (w : World) : (Instr.typeAssert (.iface 164 (.agg #[])) 197 150 true).run Try.prog w = .ok (.tuple #[.string (ByteArray.mk #[]), .bool false]) w := by kernel_rfl
theorem ta_closing2 (w : World) : (Instr.typeAssert (.iface 164 (.agg #[])) 197 164 true).run Try.prog w = .ok (.tuple #[.agg #[], .bool true]) w := by kernel_rfl

section
variable (L wb : Nat) (T : TypeId) (xs : List Value) (pd : Nat → Prop) (fb : Nat) (sv : Value) (x : Wr) (w : World)

set_option maxHeartbeats 4000000 in
set_option maxRecDepth 100000 in
theorem c_take_no (hT : WT T) (hx : x.Go) (hL : L ≤ w.heap.size) (D : ByteArray) (hs : (str x.p ++ D).size ≤ maxLen) (hf : dataFits x.k.o x.k.l x.k.m (str x.p ++ D) = false) (h : WS L wb T xs pd fb sv x w) : Calls Try.prog 134 #[.pointer (some ⟨wb, 0, none⟩), .iface 150 (.string D)] w fun e w' => e = .returned (.tuple #[.string ByteArray.empty, .bool false]) ∧ Below L w w' ∧ WCalm pd w w' ∧ WS L wb T xs pd fb sv x w' := by
  have HDf := hid (fun (u : World) => c_DataFits x.k.o x.k.l x.k.m (str x.p ++ D) u hs)
  simp only [hf] at HDf
  obtain ⟨S, hS⟩ : ∃ S, S = str x.p ++ D := ⟨_, rfl⟩
  obtain ⟨P, hP⟩ : ∃ P, P = str x.p := ⟨_, rfl⟩
  rw [← hP] at hS hs hf
  have hadd : ∀ W, (Op.stringOp .add P D).run Try.prog W = .ok (.string S) W := fun W => by
    rw [run_string_add_sum W _ _ (by rw [ByteArray.size_append] at hs; unfold maxLen at hs; omega), hS]
  rw [← hP, ← hS] at HDf
  have H := hid h
  have HT := hid hT
  have hS1 : w.cell? ⟨wb, 1, none⟩ = some (.string P) ∧ True := ⟨by rw [hP]; exact h.c1, trivial⟩
  have HP := hid hP
  clear h hT hx hf hs hS hP
  have hta := ta_part D
  go_enter Try.func134, Try.ntmps134
  go_wp2_with fail
  have H2 := hid (H.out.on (bel_drew (Below.refl _ w)))
  have hbel : Below w.heap.size w w.drew := bel_drew (Below.refl _ w)
  refine wp_region_noPanic ?_
  refine wp_region_held_drew (S := (fun v => v.cell? ⟨wb, 1, none⟩ = some (.string P) ∧ True)) (by kernel_rfl) (t1_drew hS1) (fun hHeld => ?_)
  refine tk 0 ?_
  refine tk 2 ?_
  refine tk 3 ?_
  refine tk 4 ?_
  refine tk 5 ?_
  refine tk 6 ?_
  refine tk 7 ?_
  refine wpAnyH_ready (rs := [1]) (by kernel_rfl) (by simp) ?_
  refine AllReadyH.cons (o := ?or1_1) ?ir1_1 (fun K hK => ?sr1_1) AllReadyH.nil
  case ir1_1 => (simp only [List.getElem?_toArray, List.getElem?_cons_succ, List.getElem?_cons_zero]; rfl)
  (go_simp; (go_at_call 154; refine (c_wset L wb T xs pd fb sv x _ H2.out).mono ?_; rintro e wQ ⟨rfl, hbQ⟩; replace H2 := hid (H2.out.on hbQ); replace hbel := bel_trans hbel hbQ; clear hbQ; have t1 : wQ.cell? ⟨wb, 1, none⟩ = some (.string P) ∧ True := ⟨by rw [HP.out]; exact H2.out.c1, trivial⟩))
  refine hK.out _ _ ?kr1_1 (fun hHeld => ?_)
  case kr1_1 => (try dsimp only); (first | with_reducible assumption | with_reducible exact t2 | with_reducible exact t1 | exact t1_bel (by assumption) (by assumption) | assumption | exact t1_alloc (by assumption) _ | exact t2 | exact t1)
  clear hK K
  try simp only [Act.put, List.setIfInBounds_toArray, List.set_cons_zero, List.set_cons_succ]
  refine wpAnyH_ready (rs := [8]) (by kernel_rfl) (by simp) ?_
  refine AllReadyH.cons (o := ?or1_8) ?ir1_8 (fun K hK => ?sr1_8) AllReadyH.nil
  case ir1_8 => (simp only [List.getElem?_toArray, List.getElem?_cons_succ, List.getElem?_cons_zero]; rfl)
  (go_simp; (go_at_call 140; refine (HDf.out _).mono ?_; rintro e wR ⟨rfl, hbR⟩; replace H2 := hid (H2.out.on hbR); replace hbel := bel_trans hbel hbR; clear hbR; have t2 : wR.cell? ⟨wb, 1, none⟩ = some (.string P) ∧ True := ⟨by rw [HP.out]; exact H2.out.c1, trivial⟩))
  refine hK.out _ _ ?kr1_8 (fun hHeld => ?_)
  case kr1_8 => (try dsimp only); (first | with_reducible assumption | with_reducible exact t2 | with_reducible exact t1 | exact t1_bel (by assumption) (by assumption) | assumption | exact t1_alloc (by assumption) _ | exact t2 | exact t1)
  clear hK K
  try simp only [Act.put, List.setIfInBounds_toArray, List.set_cons_zero, List.set_cons_succ]
  refine tk 9 ?_
  refine wpAnyH_done (by kernel_rfl) ?_ _
  refine NoPanic.normal ?_
  all_goals
    go_wp2
    go_ret2
    exact ⟨rfl, hbel.mono hL, (WCalm.refl pd w).on hbel, H2.out⟩

set_option maxHeartbeats 4000000 in
set_option maxRecDepth 100000 in
theorem c_take_nil (hT : WT T) (hx : x.Go) (hL : L ≤ w.heap.size) (hbl : x.b.length ≤ 7) (hf : dataFits x.k.o x.k.l x.k.m (str x.p) = true) (hpl : x.p.length ≤ 2000) (n : Nat) (hnn : n = (x).b.length / 8 * 8) (h : WS L wb T xs pd fb sv x w) : Calls Try.prog 134 #[.pointer (some ⟨wb, 0, none⟩), .iface 150 (.string ByteArray.empty)] w fun e w' => e = .returned (.tuple #[.string (packS (x).k.o (str ((x).b.take n))), .bool true]) ∧ Below L w w' ∧ WCalm pd w w' ∧ ∃ v', WS L wb T xs pd fb v' ((x).cut n) w' := by
  have hs : (str x.p).size ≤ 2000 := by rw [str_size]; exact hpl
  have HDf := hid (fun (u : World) => c_DataFits x.k.o x.k.l x.k.m (str x.p) u (by unfold maxLen; omega))
  simp only [hf] at HDf
  obtain ⟨P, hP⟩ : ∃ P, P = str x.p := ⟨_, rfl⟩
  rw [← hP] at hs
  have hadd : ∀ W, (Op.stringOp .add P ByteArray.empty).run Try.prog W = .ok (.string P) W := fun W => by
    rw [run_string_add_sum W _ _ (by simp; omega)]; simp
  rw [← hP] at HDf
  obtain ⟨y, hy⟩ : ∃ y, y = x := ⟨_, rfl⟩
  have HGy := hid (show y.Go by rw [hy]; exact hx)
  have hyb : y.b.length ≤ 30100 := by rw [hy]; omega
  rw [← hy] at hnn
  have HNN := hid hnn
  clear hnn
  rw [← hy]
  have H := hid h
  have HT := hid hT
  have hS1 : w.cell? ⟨wb, 1, none⟩ = some (.string P) ∧ True := ⟨by rw [hP]; exact h.c1, trivial⟩
  have HP := hid hP
  have hta := ta_part ByteArray.empty
  have HYx := hid hy
  clear h hT hx hf hs hP hy
  go_enter Try.func134, Try.ntmps134
  go_wp2_with fail
  have H2 := hid (H.out.on (bel_drew (Below.refl _ w)))
  have hbel : Below w.heap.size w w.drew := bel_drew (Below.refl _ w)
  refine wp_region_noPanic ?_
  refine wp_region_held_drew (S := (fun v => v.cell? ⟨wb, 1, none⟩ = some (.string P) ∧ True)) (by kernel_rfl) (t1_drew hS1) (fun hHeld => ?_)
  refine tk 0 ?_
  refine tk 2 ?_
  refine tk 3 ?_
  refine tk 4 ?_
  refine tk 5 ?_
  refine tk 6 ?_
  refine tk 7 ?_
  refine wpAnyH_ready (rs := [1]) (by kernel_rfl) (by simp) ?_
  refine AllReadyH.cons (o := ?or2_1) ?ir2_1 (fun K hK => ?sr2_1) AllReadyH.nil
  case ir2_1 => (simp only [List.getElem?_toArray, List.getElem?_cons_succ, List.getElem?_cons_zero]; rfl)
  (go_simp; (go_at_call 154; refine (c_wset L wb T xs pd fb sv x _ H2.out).mono ?_; rintro e wQ ⟨rfl, hbQ⟩; replace H2 := hid (H2.out.on hbQ); replace hbel := bel_trans hbel hbQ; clear hbQ; have t1 : wQ.cell? ⟨wb, 1, none⟩ = some (.string P) ∧ True := ⟨by rw [HP.out]; exact H2.out.c1, trivial⟩))
  refine hK.out _ _ ?kr2_1 (fun hHeld => ?_)
  case kr2_1 => (try dsimp only); (first | with_reducible assumption | with_reducible exact t2 | with_reducible exact t1 | exact t1_bel (by assumption) (by assumption) | assumption | exact t1_alloc (by assumption) _ | exact t2 | exact t1)
  clear hK K
  try simp only [Act.put, List.setIfInBounds_toArray, List.set_cons_zero, List.set_cons_succ]
  refine wpAnyH_ready (rs := [8]) (by kernel_rfl) (by simp) ?_
  refine AllReadyH.cons (o := ?or2_8) ?ir2_8 (fun K hK => ?sr2_8) AllReadyH.nil
  case ir2_8 => (simp only [List.getElem?_toArray, List.getElem?_cons_succ, List.getElem?_cons_zero]; rfl)
  (go_simp; (go_at_call 140; refine (HDf.out _).mono ?_; rintro e wR ⟨rfl, hbR⟩; replace H2 := hid (H2.out.on hbR); replace hbel := bel_trans hbel hbR; clear hbR; have t2 : wR.cell? ⟨wb, 1, none⟩ = some (.string P) ∧ True := ⟨by rw [HP.out]; exact H2.out.c1, trivial⟩))
  refine hK.out _ _ ?kr2_8 (fun hHeld => ?_)
  case kr2_8 => (try dsimp only); (first | with_reducible assumption | with_reducible exact t2 | with_reducible exact t1 | exact t1_bel (by assumption) (by assumption) | assumption | exact t1_alloc (by assumption) _ | exact t2 | exact t1)
  clear hK K
  try simp only [Act.put, List.setIfInBounds_toArray, List.set_cons_zero, List.set_cons_succ]
  refine tk 9 ?_
  refine wpAnyH_done (by kernel_rfl) ?_ _
  refine NoPanic.normal ?_
  all_goals
    clear hHeld t2 t1
    go_wp2_with fail
    refine (c_wwrite_nil L wb T xs pd fb sv x _ H2.out).mono ?_
    rintro e w3 ⟨rfl, hb3, hc3, v3, h3⟩
    have HB3 := hid ((hbel.mono hL).trans hb3)
    have HC3 := hid (((WCalm.refl pd w).on hbel).trans hc3)
    rw [← HYx.out] at h3
    have H3 := hid h3
    obtain ⟨A3, c3, rfl⟩ := h3.row.sl
    obtain ⟨m, hm⟩ : ∃ m, m = y.b.length := ⟨_, rfl⟩
    rw [← hm] at hyb H3
    have HNm := hid (show n = m / 8 * 8 by rw [HNN.out, hm])
    have p2 : w3.cell? ⟨wb, 2, none⟩ = some (.slice A3 m c3) := H3.out.c2
    have HM := hid hm
    clear hb3 hc3 h3 hm H2 hbel HDf
    obtain ⟨q, hq⟩ : ∃ q, q = m / 8 := ⟨_, rfl⟩
    have hq1 : (m : Int).tdiv 8 = (q : Int) := by rw [Int.tdiv_eq_ediv_of_nonneg (by omega)]; omega
    have hq3 : (m : Int) / 8 = (q : Int) := by omega
    have hq2 : (q : Int) * 8 = (n : Int) := by have := HNm.out; omega
    clear hq
    go_wp2_with fail
    refine (c_pack L wb T xs pd fb _ y _ HT.out HGy.out (Nat.le_trans hL HB3.out.size) n (by have := HM.out; have := HNm.out; omega) (by have := HNm.out; omega) H3.out).mono ?_
    rintro e w4 ⟨rfl, hb4, hc4, h4⟩
    go_wp2
    go_ret2
    exact ⟨rfl, HB3.out.trans hb4, HC3.out.trans hc4, h4⟩

set_option maxHeartbeats 4000000 in
set_option maxRecDepth 100000 in
theorem c_take_yes (hT : WT T) (hx : x.Go) (hL : L ≤ w.heap.size) (D : ByteArray) (hD : 0 < D.size) (hbl : x.b.length ≤ 7) (hl : Lits x.k.c D.data.toList) (hn : x.p.length + D.size ≤ 2000) (hf : dataFits x.k.o x.k.l x.k.m (str x.p ++ D) = true) (n : Nat) (hnn : n = (x.write D.data.toList).b.length / 8 * 8) (h : WS L wb T xs pd fb sv x w) : Calls Try.prog 134 #[.pointer (some ⟨wb, 0, none⟩), .iface 150 (.string D)] w fun e w' => e = .returned (.tuple #[.string (packS (x.write D.data.toList).k.o (str ((x.write D.data.toList).b.take n))), .bool true]) ∧ Below L w w' ∧ WCalm pd w w' ∧ ∃ v', WS L wb T xs pd fb v' ((x.write D.data.toList).cut n) w' := by
  have hs : (str x.p ++ D).size ≤ 2000 := by rw [ByteArray.size_append, str_size]; exact hn
  have HDf := hid (fun (u : World) => c_DataFits x.k.o x.k.l x.k.m (str x.p ++ D) u (by unfold maxLen; omega))
  simp only [hf] at HDf
  obtain ⟨S, hS⟩ : ∃ S, S = str x.p ++ D := ⟨_, rfl⟩
  obtain ⟨P, hP⟩ : ∃ P, P = str x.p := ⟨_, rfl⟩
  rw [← hP] at hS hs
  have hadd : ∀ W, (Op.stringOp .add P D).run Try.prog W = .ok (.string S) W := fun W => by
    rw [run_string_add_sum W _ _ (by rw [ByteArray.size_append] at hs; omega), hS]
  rw [← hP, ← hS] at HDf
  have hw := hx.write_ hl hbl (by rw [len_toList]; exact hn)
  obtain ⟨y, hy⟩ : ∃ y, y = x.write D.data.toList := ⟨_, rfl⟩
  rw [← hy] at hw hnn
  have HNN := hid hnn
  clear hnn
  have HGy := hid hw.1
  have hyb : y.b.length ≤ 30100 := hw.2.2.2.2.2.2.1
  have HWr := hid (fun (u : World) (hu : L ≤ u.heap.size) (hW : WS L wb T xs pd fb sv x u) => c_wwrite L wb T xs pd fb sv x u hT hx hu D hD hl hbl hn hW)
  simp only [← hy] at HWr
  rw [← hy]
  have H := hid h
  have HT := hid hT
  have hS1 : w.cell? ⟨wb, 1, none⟩ = some (.string P) ∧ True := ⟨by rw [hP]; exact h.c1, trivial⟩
  have HP := hid hP
  have hta := ta_part D
  clear h hT hx hf hs hS hP hw hl hy
  go_enter Try.func134, Try.ntmps134
  go_wp2_with fail
  have H2 := hid (H.out.on (bel_drew (Below.refl _ w)))
  have hbel : Below w.heap.size w w.drew := bel_drew (Below.refl _ w)
  refine wp_region_noPanic ?_
  refine wp_region_held_drew (S := (fun v => v.cell? ⟨wb, 1, none⟩ = some (.string P) ∧ True)) (by kernel_rfl) (t1_drew hS1) (fun hHeld => ?_)
  refine tk 0 ?_
  refine tk 2 ?_
  refine tk 3 ?_
  refine tk 4 ?_
  refine tk 5 ?_
  refine tk 6 ?_
  refine tk 7 ?_
  refine wpAnyH_ready (rs := [1]) (by kernel_rfl) (by simp) ?_
  refine AllReadyH.cons (o := ?or3_1) ?ir3_1 (fun K hK => ?sr3_1) AllReadyH.nil
  case ir3_1 => (simp only [List.getElem?_toArray, List.getElem?_cons_succ, List.getElem?_cons_zero]; rfl)
  (go_simp; (go_at_call 154; refine (c_wset L wb T xs pd fb sv x _ H2.out).mono ?_; rintro e wQ ⟨rfl, hbQ⟩; replace H2 := hid (H2.out.on hbQ); replace hbel := bel_trans hbel hbQ; clear hbQ; have t1 : wQ.cell? ⟨wb, 1, none⟩ = some (.string P) ∧ True := ⟨by rw [HP.out]; exact H2.out.c1, trivial⟩))
  refine hK.out _ _ ?kr3_1 (fun hHeld => ?_)
  case kr3_1 => (try dsimp only); (first | with_reducible assumption | with_reducible exact t2 | with_reducible exact t1 | exact t1_bel (by assumption) (by assumption) | assumption | exact t1_alloc (by assumption) _ | exact t2 | exact t1)
  clear hK K
  try simp only [Act.put, List.setIfInBounds_toArray, List.set_cons_zero, List.set_cons_succ]
  refine wpAnyH_ready (rs := [8]) (by kernel_rfl) (by simp) ?_
  refine AllReadyH.cons (o := ?or3_8) ?ir3_8 (fun K hK => ?sr3_8) AllReadyH.nil
  case ir3_8 => (simp only [List.getElem?_toArray, List.getElem?_cons_succ, List.getElem?_cons_zero]; rfl)
  (go_simp; (go_at_call 140; refine (HDf.out _).mono ?_; rintro e wR ⟨rfl, hbR⟩; replace H2 := hid (H2.out.on hbR); replace hbel := bel_trans hbel hbR; clear hbR; have t2 : wR.cell? ⟨wb, 1, none⟩ = some (.string P) ∧ True := ⟨by rw [HP.out]; exact H2.out.c1, trivial⟩))
  refine hK.out _ _ ?kr3_8 (fun hHeld => ?_)
  case kr3_8 => (try dsimp only); (first | with_reducible assumption | with_reducible exact t2 | with_reducible exact t1 | exact t1_bel (by assumption) (by assumption) | assumption | exact t1_alloc (by assumption) _ | exact t2 | exact t1)
  clear hK K
  try simp only [Act.put, List.setIfInBounds_toArray, List.set_cons_zero, List.set_cons_succ]
  refine tk 9 ?_
  refine wpAnyH_done (by kernel_rfl) ?_ _
  refine NoPanic.normal ?_
  all_goals
    clear hHeld t2 t1
    go_wp2_with fail
    refine (HWr.out _ (Nat.le_trans hL hbel.size) H2.out).mono ?_
    rintro e w3 ⟨rfl, hb3, hc3, v3, h3⟩
    have HB3 := hid ((hbel.mono hL).trans hb3)
    have HC3 := hid (((WCalm.refl pd w).on hbel).trans hc3)
    have H3 := hid h3
    obtain ⟨A3, c3, rfl⟩ := h3.row.sl
    obtain ⟨m, hm⟩ : ∃ m, m = y.b.length := ⟨_, rfl⟩
    rw [← hm] at hyb H3
    have HNm := hid (show n = m / 8 * 8 by rw [HNN.out, hm])
    have p2 : w3.cell? ⟨wb, 2, none⟩ = some (.slice A3 m c3) := H3.out.c2
    have HM := hid hm
    clear hb3 hc3 h3 hm H2 hbel HWr HDf
    obtain ⟨q, hq⟩ : ∃ q, q = m / 8 := ⟨_, rfl⟩
    have hq1 : (m : Int).tdiv 8 = (q : Int) := by rw [Int.tdiv_eq_ediv_of_nonneg (by omega)]; omega
    have hq3 : (m : Int) / 8 = (q : Int) := by omega
    have hq2 : (q : Int) * 8 = (n : Int) := by have := HNm.out; omega
    clear hq
    go_wp2_with fail
    refine (c_pack L wb T xs pd fb _ y _ HT.out HGy.out (Nat.le_trans hL HB3.out.size) n (by have := HM.out; have := HNm.out; omega) (by have := HNm.out; omega) H3.out).mono ?_
    rintro e w4 ⟨rfl, hb4, hc4, h4⟩
    go_wp2
    go_ret2
    exact ⟨rfl, HB3.out.trans hb4, HC3.out.trans hc4, h4⟩

set_option maxHeartbeats 4000000 in
set_option maxRecDepth 100000 in
theorem c_take_close (hT : WT T) (hx : x.Go) (hL : L ≤ w.heap.size) (hbl : x.b.length ≤ 31000) (hpl : x.p.length ≤ 2500) (h : WS L wb T xs pd fb sv x w) : Calls Try.prog 134 #[.pointer (some ⟨wb, 0, none⟩), .iface 164 (.agg #[])] w fun e w' => e = .returned (.tuple #[.string (packS x.close.k.o (str x.close.b)), .bool true]) ∧ Below L w w' ∧ WCalm pd w w' ∧ ∃ v', WS L wb T xs pd fb v' (x.close.cut x.close.b.length) w' := by
  have hcl := hx.close_
  have HWr := hid (fun (u : World) (hu : L ≤ u.heap.size) (hW : WS L wb T xs pd fb sv x u) => c_wclose L wb T xs pd fb sv x u hT hx hu (by omega) hpl hW)
  obtain ⟨y, hy⟩ : ∃ y, y = x.close := ⟨_, rfl⟩
  rw [← hy] at hcl
  simp only [← hy] at HWr
  rw [← hy]
  have HGy := hid hcl.1
  have hyb : y.b.length ≤ 31030 := by have := hcl.2.2.2.2.2.2.2.2; omega
  have H := hid h
  have HT := hid hT
  have hta := ta_closing
  have hta2 := ta_closing2
  clear h hT hx hcl hy
  go_enter Try.func134, Try.ntmps134
  go_wp2_with fail
  have hal := bel_alloc (Below.refl _ w) (.cells #[] 164)
  refine (HWr.out _ (Nat.le_trans hL hal.size) (H.out.on hal)).mono ?_
  rintro e w3 ⟨rfl, hb3, hc3, v3, h3⟩
  have HB3 := hid ((hal.mono hL).trans hb3)
  have HC3 := hid (((WCalm.refl pd w).on hal).trans hc3)
  have H3 := hid h3
  obtain ⟨A3, c3, rfl⟩ := h3.row.sl
  obtain ⟨m, hm⟩ : ∃ m, m = y.b.length := ⟨_, rfl⟩
  rw [← hm] at hyb H3
  have p2 : w3.cell? ⟨wb, 2, none⟩ = some (.slice A3 m c3) := H3.out.c2
  have HM := hid hm
  clear hb3 hc3 h3 hm HWr hal
  go_wp2_with fail
  refine (c_pack L wb T xs pd fb _ y _ HT.out HGy.out (Nat.le_trans hL HB3.out.size) m (by have := HM.out; omega) (by omega) H3.out).mono ?_
  rintro e w4 ⟨rfl, hb4, hc4, h4⟩
  have HTk := hid (show y.b.take m = y.b by rw [HM.out, List.take_length])
  rw [HM.out] at h4
  have HTk2 := hid (show packS y.k.o (str (y.b.take m)) = packS y.k.o (str y.b) by rw [HTk.out])
  rw [HTk2.out]
  go_wp2
  go_ret2
  exact ⟨rfl, HB3.out.trans hb4, HC3.out.trans hc4, h4⟩
end
end Go.Proofs.Ytfklkepodpcdgaa
