/- The contracts of GreedyCodes in the model, and of Compress in both programs. No condition but that the numbers are int's. -/
import Derived.Test.YtblmifbpoopbdaaGi
import Derived.Test.YtblmifbpoopbdaaGs
import Derived.Test.YtblmifbpoopbdaaPd
namespace Go.Proofs.Ytblmifbpoopbdaa
open Go.ChangeShapes Go.WideShapes Go.ChangeAt Go.RowKit Go.Joins
set_option linter.unusedVariables false

def FitsOk (k : Kn) (D : ByteArray) : Prop := k.Ok ∧ dataFits k.o k.l k.m D = true
theorem FitsOk.lits {k : Kn} {D : ByteArray} (h : FitsOk k D) : Lits k.c D.data.toList ∧ D.size ≤ 2000 := fits_lits h.2
theorem FitsOk.len {k : Kn} {D : ByteArray} (h : FitsOk k D) : (k.greedy D.data.toList).length ≤ 3002 := by
  have h1 := h.1.greedy_len h.lits.1
  have h2 := h.lits.2
  rw [len_toList] at h1
  omega
theorem FitsOk.codes {k : Kn} {D : ByteArray} (h : FitsOk k D) : CodesOk k (k.greedy D.data.toList) :=
  ⟨h.1, by have := h.len; omega, (h.1.greedy_good h.lits.1 (by rw [len_toList]; exact h.lits.2)).1⟩
def NoRow (e : Ending) (w w' : World) : Prop := ∃ A' cap', e = .returned (.tuple #[.slice A' ([] : List Int).length cap', .bool false]) ∧ w'.ownsRow w.heap.size 3 1 (.slice A' ([] : List Int).length cap') ([] : List Int).length (([] : List Int).map iv) ∧ Below w.heap.size w w'
theorem c_sGreedyCodes_no (k : Kn) (A : Option Addr) (cap L : Nat) (w : World) (h : PsAt w L A cap k.ps) (hL : L ≤ w.heap.size) (D : ByteArray) (hs : D.size ≤ maxLen) (hk : ¬ FitsOk k D) (hw : k.Wf) : Calls Try.prog 45 #[.agg #[.int .i64 k.o, .int .i64 k.l, .int .i64 k.m, .slice A k.ps.length cap, .int .i64 k.base, .int .i64 k.last], .string D] w fun e w' => NoRow e w w' := by
  by_cases h1 : k.Ok
  · have hf : dataFits k.o k.l k.m D = false := by
      cases hq : dataFits k.o k.l k.m D with
      | false => rfl
      | true => exact absurd ⟨h1, hq⟩ hk
    have HV := hid (fun (v : World) (hb : Below w.heap.size w v) => c_sKnownValid_yes k A cap L v (h.below hb hL) (Nat.le_trans hL hb.size) h1 hw)
    have HD := hid (fun (v : World) => c_sDataFits k.o k.l k.m D v hs)
    simp only [hf] at HD
    have kN := Blk.new w 27 #[.int .i64 k.o, .int .i64 k.l, .int .i64 k.m, .slice A k.ps.length cap, .int .i64 k.base, .int .i64 k.last]
    clear h hk hw hf h1
    go_enter Try.func45, Try.ntmps45
    go_wp2_with fail
    refine (HV.out _ (by (repeat (first | with_reducible (first | assumption | exact Below.refl _ _ | refine bel_alloc ?_ _ | refine bel_drew ?_ | refine bel_drewN ?_ _ | refine bel_set ?_ (by first | omega | (simp; done) | (simp; omega)) _ | refine bel_trans ?_ (by assumption)) | assumption | refine bel_trans ?_ (by assumption))))).mono ?_
    rintro e w1 ⟨rfl, hb1⟩
    have hc1 := bcell hb1
    have hz1_0 : w.heap.size < w1.heap.size := (by have := hb1.size; first | omega | (simp at this; omega))
    go_wp2_with fail
    refine (HD.out _).mono ?_
    rintro e w2 ⟨rfl, hb2⟩
    have hc2 := bcell hb2
    have hz : w.heap.size ≤ w2.heap.size := by have := hb1.size; have := hb2.size; simp at *; omega
    have HO := hid (World.ownsRow_made (e := 3) (size := 1) (base := w.heap.size) w2 #[] 0 hz (by simp [maxLen]) rfl)
    go_wp2
    go_ret2
    exact ⟨_, _, rfl, HO.out, by (repeat (first | with_reducible (first | assumption | exact Below.refl _ _ | refine bel_alloc ?_ _ | refine bel_drew ?_ | refine bel_drewN ?_ _ | refine bel_set ?_ (by first | omega | (simp; done) | (simp; omega)) _ | refine bel_trans ?_ (by assumption)) | assumption | refine bel_trans ?_ (by assumption)))⟩
  · have HV := hid (fun (v : World) (hb : Below w.heap.size w v) => c_sKnownValid_no k A cap L v (h.below hb hL) (Nat.le_trans hL hb.size) h1 hw)
    clear h hk hw h1
    go_enter Try.func45, Try.ntmps45
    go_wp2_with fail
    refine (HV.out _ (by (repeat (first | with_reducible (first | assumption | exact Below.refl _ _ | refine bel_alloc ?_ _ | refine bel_drew ?_ | refine bel_drewN ?_ _ | refine bel_set ?_ (by first | omega | (simp; done) | (simp; omega)) _ | refine bel_trans ?_ (by assumption)) | assumption | refine bel_trans ?_ (by assumption))))).mono ?_
    rintro e w1 ⟨rfl, hb1⟩
    have hc1 := bcell hb1
    have hz : w.heap.size ≤ w1.heap.size := by have := hb1.size; simp at *; omega
    have HO := hid (World.ownsRow_made (e := 3) (size := 1) (base := w.heap.size) w1 #[] 0 hz (by simp [maxLen]) rfl)
    go_wp2
    go_ret2
    exact ⟨_, _, rfl, HO.out, by (repeat (first | with_reducible (first | assumption | exact Below.refl _ _ | refine bel_alloc ?_ _ | refine bel_drew ?_ | refine bel_drewN ?_ _ | refine bel_set ?_ (by first | omega | (simp; done) | (simp; omega)) _ | refine bel_trans ?_ (by assumption)) | assumption | refine bel_trans ?_ (by assumption)))⟩
theorem c_sGreedyCodes_yes (k : Kn) (A : Option Addr) (cap L : Nat) (w : World) (h : PsAt w L A cap k.ps) (hL : L ≤ w.heap.size) (D : ByteArray) (hk : FitsOk k D) (hw : k.Wf) : Calls Try.prog 45 #[.agg #[.int .i64 k.o, .int .i64 k.l, .int .i64 k.m, .slice A k.ps.length cap, .int .i64 k.base, .int .i64 k.last], .string D] w fun e w' => ∃ A' cap', e = .returned (.tuple #[.slice A' (k.greedy D.data.toList).length cap', .bool true]) ∧ w'.ownsRow w.heap.size 3 1 (.slice A' (k.greedy D.data.toList).length cap') (k.greedy D.data.toList).length ((k.greedy D.data.toList).map iv) ∧ Below w.heap.size w w' := by
  have HV := hid (fun (v : World) (hb : Below w.heap.size w v) => c_sKnownValid_yes k A cap L v (h.below hb hL) (Nat.le_trans hL hb.size) hk.1 hw)
  have HD := hid (fun (v : World) => c_sDataFits k.o k.l k.m D v (by have := hk.lits.2; unfold maxLen; omega))
  simp only [hk.2] at HD
  have HG := hid (fun (v : World) (hb : Below w.heap.size w v) => c_l2Greedy k A cap L v (h.below hb hL) (Nat.le_trans hL hb.size) D hk.1 hk.lits.1 hk.lits.2)
  obtain ⟨R, hR⟩ : ∃ R, R = k.greedy D.data.toList := ⟨_, rfl⟩
  simp only [← hR] at HG ⊢
  have kN := Blk.new w 27 #[.int .i64 k.o, .int .i64 k.l, .int .i64 k.m, .slice A k.ps.length cap, .int .i64 k.base, .int .i64 k.last]
  clear h hk hw hR
  go_enter Try.func45, Try.ntmps45
  go_wp2_with fail
  refine (HV.out _ (by (repeat (first | with_reducible (first | assumption | exact Below.refl _ _ | refine bel_alloc ?_ _ | refine bel_drew ?_ | refine bel_drewN ?_ _ | refine bel_set ?_ (by first | omega | (simp; done) | (simp; omega)) _ | refine bel_trans ?_ (by assumption)) | assumption | refine bel_trans ?_ (by assumption))))).mono ?_
  rintro e w1 ⟨rfl, hb1⟩
  have hc1 := bcell hb1
  have hz1_0 : w.heap.size < w1.heap.size := (by have := hb1.size; first | omega | (simp at this; omega))
  go_wp2_with fail
  refine (HD.out _).mono ?_
  rintro e w2 ⟨rfl, hb2⟩
  have hc2 := bcell hb2
  have hz2_0 : w.heap.size < w2.heap.size := (by have := hb2.size; first | omega | (simp at this; omega))
  go_wp2_with fail
  refine (HG.out _ (by (repeat (first | with_reducible (first | assumption | exact Below.refl _ _ | refine bel_alloc ?_ _ | refine bel_drew ?_ | refine bel_drewN ?_ _ | refine bel_set ?_ (by first | omega | (simp; done) | (simp; omega)) _ | refine bel_trans ?_ (by assumption)) | assumption | refine bel_trans ?_ (by assumption))))).mono ?_
  rintro e w3 ⟨A', cap', rfl, hown, hb3⟩
  have hz : w.heap.size ≤ w2.heap.size := by have := hb1.size; have := hb2.size; simp at *; omega
  have HO := hid (own_mono hown hz)
  clear hown
  go_wp2
  go_ret2
  exact ⟨A', cap', rfl, HO.out, by (repeat (first | with_reducible (first | assumption | exact Below.refl _ _ | refine bel_alloc ?_ _ | refine bel_drew ?_ | refine bel_drewN ?_ _ | refine bel_set ?_ (by first | omega | (simp; done) | (simp; omega)) _ | refine bel_trans ?_ (by assumption)) | assumption | refine bel_trans ?_ (by assumption)))⟩
theorem c_GreedyCodes_nope (k : Kn) (A : Option Addr) (cap L : Nat) (w : World) (h : PsAt w L A cap k.ps) (hL : L ≤ w.heap.size) (D : ByteArray) (hs : D.size ≤ maxLen) (hk : ¬ FitsOk k D) (hw : k.Wf) : Calls Try.prog 46 #[.agg #[.int .i64 k.o, .int .i64 k.l, .int .i64 k.m, .slice A k.ps.length cap, .int .i64 k.base, .int .i64 k.last], .string D] w fun e w' => e = .returned (.tuple #[.slice none 0 0, .bool false]) ∧ Below w.heap.size w w' := by
  by_cases h1 : k.Ok
  · have hf : dataFits k.o k.l k.m D = false := by
      cases hq : dataFits k.o k.l k.m D with
      | false => rfl
      | true => exact absurd ⟨h1, hq⟩ hk
    exact c_GreedyCodes_no k A cap L w h hL D h1 hs hf hw
  · exact c_GreedyCodes_bad k A cap L w h hL D h1 hw

theorem c_Compress_no (k : Kn) (A : Option Addr) (cap L : Nat) (w : World) (h : PsAt w L A cap k.ps) (hL : L ≤ w.heap.size) (D : ByteArray) (hs : D.size ≤ maxLen) (hk : ¬ FitsOk k D) (hw : k.Wf) : Calls Try.prog 52 #[.agg #[.int .i64 k.o, .int .i64 k.l, .int .i64 k.m, .slice A k.ps.length cap, .int .i64 k.base, .int .i64 k.last], .string D] w fun e w' => e = .returned (.tuple #[.string ByteArray.empty, .bool false]) ∧ Below w.heap.size w w' := by
  have HG := hid (fun (v : World) (hb : Below w.heap.size w v) => c_GreedyCodes_nope k A cap L v (h.below hb hL) (Nat.le_trans hL hb.size) D hs hk hw)
  obtain ⟨p0, p1, p2, p3, p4, p5⟩ := (Blk.new w 27 #[.int .i64 k.o, .int .i64 k.l, .int .i64 k.m, .slice A k.ps.length cap, .int .i64 k.base, .int .i64 k.last]).cells6
  clear h hk hw
  go_enter Try.func52, Try.ntmps52
  go_wp2_with fail
  refine (HG.out _ (by (repeat (first | with_reducible (first | assumption | exact Below.refl _ _ | refine bel_alloc ?_ _ | refine bel_drew ?_ | refine bel_drewN ?_ _ | refine bel_set ?_ (by first | omega | (simp; done) | (simp; omega)) _ | refine bel_trans ?_ (by assumption)) | assumption | refine bel_trans ?_ (by assumption))))).mono ?_
  rintro e w1 ⟨rfl, hb1⟩
  go_wp2
  go_ret2
  exact ⟨rfl, by (repeat (first | with_reducible (first | assumption | exact Below.refl _ _ | refine bel_alloc ?_ _ | refine bel_drew ?_ | refine bel_drewN ?_ _ | refine bel_set ?_ (by first | omega | (simp; done) | (simp; omega)) _ | refine bel_trans ?_ (by assumption)) | assumption | refine bel_trans ?_ (by assumption)))⟩
theorem c_Compress_yes (k : Kn) (A : Option Addr) (cap L : Nat) (w : World) (h : PsAt w L A cap k.ps) (hL : L ≤ w.heap.size) (D : ByteArray) (hk : FitsOk k D) (hw : k.Wf) : Calls Try.prog 52 #[.agg #[.int .i64 k.o, .int .i64 k.l, .int .i64 k.m, .slice A k.ps.length cap, .int .i64 k.base, .int .i64 k.last], .string D] w fun e w' => e = .returned (.tuple #[.string (k.packed (k.greedy D.data.toList)), .bool true]) ∧ Below w.heap.size w w' := by
  have HG := hid (fun (v : World) (hb : Below w.heap.size w v) => c_GreedyCodes_yes k A cap L v (h.below hb hL) (Nat.le_trans hL hb.size) D hk.1 hk.2 hw)
  have hco := hk.codes
  have HPk := hid (fun (v : World) (hb : Below w.heap.size w v) (A2 : Option Addr) (cap2 : Nat) (hc : NumsAt v v.heap.size A2 cap2 (k.greedy D.data.toList)) => c_PackCodes_yes k A cap L v (h.below hb hL) (Nat.le_trans hL hb.size) hw A2 cap2 v.heap.size (k.greedy D.data.toList) hc (Nat.le_refl _) hco)
  obtain ⟨R, hR⟩ : ∃ R, R = k.greedy D.data.toList := ⟨_, rfl⟩
  obtain ⟨P, hP⟩ : ∃ P, P = k.packed R := ⟨_, rfl⟩
  simp only [← hR, ← hP] at HG HPk ⊢
  have HKN := hid (Blk.new w 27 #[.int .i64 k.o, .int .i64 k.l, .int .i64 k.m, .slice A k.ps.length cap, .int .i64 k.base, .int .i64 k.last])
  obtain ⟨p0, p1, p2, p3, p4, p5⟩ := HKN.out.cells6
  clear h hk hw hR hP hco
  go_enter Try.func52, Try.ntmps52
  go_wp2_with fail
  refine (HG.out _ (by (repeat (first | with_reducible (first | assumption | exact Below.refl _ _ | refine bel_alloc ?_ _ | refine bel_drew ?_ | refine bel_drewN ?_ _ | refine bel_set ?_ (by first | omega | (simp; done) | (simp; omega)) _ | refine bel_trans ?_ (by assumption)) | assumption | refine bel_trans ?_ (by assumption))))).mono ?_
  rintro e w1 ⟨A', cap', rfl, hown, hb1⟩
  have B1 : Below w.heap.size w w1 := by (repeat (first | with_reducible (first | assumption | exact Below.refl _ _ | refine bel_alloc ?_ _ | refine bel_drew ?_ | refine bel_drewN ?_ _ | refine bel_set ?_ (by first | omega | (simp; done) | (simp; omega)) _ | refine bel_trans ?_ (by assumption)) | assumption | refine bel_trans ?_ (by assumption)))
  have HN := hid (own_ints_at hown)
  have HK1 := hid (HKN.out.on hb1)
  clear hown hb1 p0 p1 p2 p3 p4 p5
  obtain ⟨p0, p1, p2, p3, p4, p5⟩ := HK1.out.cells6
  go_wp2_with fail
  refine (HPk.out _ B1 _ _ HN.out).mono ?_
  rintro e w2 ⟨rfl, hb2⟩
  go_wp2
  go_ret2
  exact ⟨rfl, by (repeat (first | with_reducible (first | assumption | exact Below.refl _ _ | refine bel_alloc ?_ _ | refine bel_drew ?_ | refine bel_drewN ?_ _ | refine bel_set ?_ (by first | omega | (simp; done) | (simp; omega)) _ | refine bel_trans ?_ (by assumption)) | assumption | refine bel_trans ?_ (by assumption)))⟩

theorem c_l2Compress (k : Kn) (A : Option Addr) (cap L : Nat) (w : World) (h : PsAt w L A cap k.ps) (hL : L ≤ w.heap.size) (D : ByteArray) (hk : FitsOk k D) : Calls Try.prog 136 #[.agg #[.int .i64 k.o, .int .i64 k.l, .int .i64 k.m, .slice A k.ps.length cap, .int .i64 k.base, .int .i64 k.last], .string D] w fun e w' => e = .returned (.string (k.packed (k.greedy D.data.toList))) ∧ Below w.heap.size w w' := by
  have HG := hid (fun (v : World) (hb : Below w.heap.size w v) => c_l2Greedy k A cap L v (h.below hb hL) (Nat.le_trans hL hb.size) D hk.1 hk.lits.1 hk.lits.2)
  have hco := hk.codes
  have HPk := hid (fun (v : World) (hb : Below w.heap.size w v) (A2 : Option Addr) (cap2 : Nat) (hc : NumsAt v v.heap.size A2 cap2 (k.greedy D.data.toList)) => c_l2Pack_yes k A cap L v (h.below hb hL) (Nat.le_trans hL hb.size) A2 cap2 v.heap.size (k.greedy D.data.toList) hc (Nat.le_refl _) hco)
  have hk1 := hk.1
  have hpo := hk1.pack_ok hco.2.2 hco.2.1
  have HL := hid (fun (v : World) => c_l1Pack k.o (str (k.bits (k.greedy D.data.toList))) v hpo.1 hpo.2)
  simp only [hk1.pack_eq] at HL
  obtain ⟨R, hR⟩ : ∃ R, R = k.greedy D.data.toList := ⟨_, rfl⟩
  simp only [← hR] at HG HPk HL ⊢
  obtain ⟨P, hP⟩ : ∃ P, P = k.packed R := ⟨_, rfl⟩
  obtain ⟨B, hB⟩ : ∃ B, B = str (k.bits R) := ⟨_, rfl⟩
  simp only [← hP, ← hB] at HL HPk ⊢
  have kN := Blk.new w 27 #[.int .i64 k.o, .int .i64 k.l, .int .i64 k.m, .slice A k.ps.length cap, .int .i64 k.base, .int .i64 k.last]
  obtain ⟨p0, p1, p2, p3, p4, p5⟩ := kN.cells6
  have hbw : Below w.heap.size w (w.alloc (.cells #[.int .i64 k.o, .int .i64 k.l, .int .i64 k.m, .slice A k.ps.length cap, .int .i64 k.base, .int .i64 k.last] 27)) := by (repeat (first | with_reducible (first | assumption | exact Below.refl _ _ | refine bel_alloc ?_ _ | refine bel_drew ?_ | refine bel_drewN ?_ _ | refine bel_set ?_ (by first | omega | (simp; done) | (simp; omega)) _ | refine bel_trans ?_ (by assumption)) | assumption | refine bel_trans ?_ (by assumption)))
  have hS := s6_mk p0 p1 p2 p3 p4 p5 hbw
  clear h hk hk1 hpo hR hP hB hco
  go_enter Try.func136, Try.ntmps136
  go_wp2_with fail
  refine wp_region_noPanic ?_
  refine wp_region_held_drew (S := (fun v => v.cell? ⟨w.heap.size, 0, none⟩ = some (.int .i64 k.o) ∧ v.cell? ⟨w.heap.size, 1, none⟩ = some (.int .i64 k.l) ∧ v.cell? ⟨w.heap.size, 2, none⟩ = some (.int .i64 k.m) ∧ v.cell? ⟨w.heap.size, 3, none⟩ = some (.slice A k.ps.length cap) ∧ v.cell? ⟨w.heap.size, 4, none⟩ = some (.int .i64 k.base) ∧ v.cell? ⟨w.heap.size, 5, none⟩ = some (.int .i64 k.last) ∧ Below w.heap.size w v)) (by kernel_rfl) (s6_drew hS) (fun hHeld => ?_)
  refine tk 0 ?_
  refine tk 1 ?_
  refine tk 2 ?_
  refine tk 3 ?_
  refine tk 4 ?_
  refine tk 5 ?_
  refine wpAnyH_ready (rs := [6]) (by kernel_rfl) (by simp) ?_
  refine AllReadyH.cons (o := ?or1_6) ?ir1_6 (fun K hK => ?sr1_6) AllReadyH.nil
  case ir1_6 => (simp only [List.getElem?_toArray, List.getElem?_cons_succ, List.getElem?_cons_zero]; rfl)
  (go_simp; (go_at_call 131; refine (HG.out _ (bel_drew hbw)).mono ?_; rintro e w1 ⟨A', cap', rfl, hown, hb1⟩; have HN := hid (own_ints_at hown); have hB1 := bel_trans (bel_drew hbw) hb1; clear hown))
  refine hK.out _ _ ?kr1_6 (fun hHeld => ?_)
  case kr1_6 => (try dsimp only); (first | with_reducible assumption | with_reducible exact s6_bel hb3 hHeld | with_reducible exact s6_bel hb2 hHeld | with_reducible exact s6_bel hb1 hHeld | exact s6_bel (by assumption) (by assumption) | assumption | exact s6_alloc (by assumption) _ | exact s6_bel hb3 hHeld | exact s6_bel hb2 hHeld | exact s6_bel hb1 hHeld)
  clear hK K
  try simp only [Act.put, List.setIfInBounds_toArray, List.set_cons_zero, List.set_cons_succ]
  refine wpAnyH_ready (rs := [7]) (by kernel_rfl) (by simp) ?_
  refine AllReadyH.cons (o := ?or1_7) ?ir1_7 (fun K hK => ?sr1_7) AllReadyH.nil
  case ir1_7 => (simp only [List.getElem?_toArray, List.getElem?_cons_succ, List.getElem?_cons_zero]; rfl)
  (go_simp; (go_at_call 197; refine (HPk.out _ hB1 _ _ HN.out).mono ?_; rintro e w2 ⟨rfl, hb2⟩; have hB2 := bel_trans hB1 hb2))
  refine hK.out _ _ ?kr1_7 (fun hHeld => ?_)
  case kr1_7 => (try dsimp only); (first | with_reducible assumption | with_reducible exact s6_bel hb3 hHeld | with_reducible exact s6_bel hb2 hHeld | with_reducible exact s6_bel hb1 hHeld | exact s6_bel (by assumption) (by assumption) | assumption | exact s6_alloc (by assumption) _ | exact s6_bel hb3 hHeld | exact s6_bel hb2 hHeld | exact s6_bel hb1 hHeld)
  clear hK K
  try simp only [Act.put, List.setIfInBounds_toArray, List.set_cons_zero, List.set_cons_succ]
  refine wpAnyH_ready (rs := [8]) (by kernel_rfl) (by simp) ?_
  refine AllReadyH.cons (o := ?or1_8) ?ir1_8 (fun K hK => ?sr1_8) AllReadyH.nil
  case ir1_8 => (simp only [List.getElem?_toArray, List.getElem?_cons_succ, List.getElem?_cons_zero]; rfl)
  (go_simp; (go_at_call 196; refine (HL.out _).mono ?_; rintro e w3 ⟨rfl, hb3⟩; have hB3 := bel_trans hB2 hb3))
  refine hK.out _ _ ?kr1_8 (fun hHeld => ?_)
  case kr1_8 => (try dsimp only); (first | with_reducible assumption | with_reducible exact s6_bel hb3 hHeld | with_reducible exact s6_bel hb2 hHeld | with_reducible exact s6_bel hb1 hHeld | exact s6_bel (by assumption) (by assumption) | assumption | exact s6_alloc (by assumption) _ | exact s6_bel hb3 hHeld | exact s6_bel hb2 hHeld | exact s6_bel hb1 hHeld)
  clear hK K
  try simp only [Act.put, List.setIfInBounds_toArray, List.set_cons_zero, List.set_cons_succ]
  refine tk 9 ?_
  refine wpAnyH_done (by kernel_rfl) ?_ _
  refine NoPanic.normal ?_
  go_wp2
  go_ret
  exact ⟨rfl, hB3⟩
theorem c_sCompress_no (k : Kn) (A : Option Addr) (cap L : Nat) (w : World) (h : PsAt w L A cap k.ps) (hL : L ≤ w.heap.size) (D : ByteArray) (hs : D.size ≤ maxLen) (hk : ¬ FitsOk k D) (hw : k.Wf) : Calls Try.prog 51 #[.agg #[.int .i64 k.o, .int .i64 k.l, .int .i64 k.m, .slice A k.ps.length cap, .int .i64 k.base, .int .i64 k.last], .string D] w fun e w' => e = .returned (.tuple #[.string ByteArray.empty, .bool false]) ∧ Below w.heap.size w w' := by
  by_cases h1 : k.Ok
  · have hf : dataFits k.o k.l k.m D = false := by
      cases hq : dataFits k.o k.l k.m D with
      | false => rfl
      | true => exact absurd ⟨h1, hq⟩ hk
    have HV := hid (fun (v : World) (hb : Below w.heap.size w v) => c_sKnownValid_yes k A cap L v (h.below hb hL) (Nat.le_trans hL hb.size) h1 hw)
    have HD := hid (fun (v : World) => c_sDataFits k.o k.l k.m D v hs)
    simp only [hf] at HD
    have kN := Blk.new w 27 #[.int .i64 k.o, .int .i64 k.l, .int .i64 k.m, .slice A k.ps.length cap, .int .i64 k.base, .int .i64 k.last]
    clear h hk hw hf h1
    go_enter Try.func51, Try.ntmps51
    go_wp2_with fail
    refine (HV.out _ (by (repeat (first | with_reducible (first | assumption | exact Below.refl _ _ | refine bel_alloc ?_ _ | refine bel_drew ?_ | refine bel_drewN ?_ _ | refine bel_set ?_ (by first | omega | (simp; done) | (simp; omega)) _ | refine bel_trans ?_ (by assumption)) | assumption | refine bel_trans ?_ (by assumption))))).mono ?_
    rintro e w1 ⟨rfl, hb1⟩
    have hc1 := bcell hb1
    have hz1_0 : w.heap.size < w1.heap.size := (by have := hb1.size; first | omega | (simp at this; omega))
    go_wp2_with fail
    refine (HD.out _).mono ?_
    rintro e w2 ⟨rfl, hb2⟩
    have hc2 := bcell hb2
    go_wp2
    go_ret2
    exact ⟨rfl, by (repeat (first | with_reducible (first | assumption | exact Below.refl _ _ | refine bel_alloc ?_ _ | refine bel_drew ?_ | refine bel_drewN ?_ _ | refine bel_set ?_ (by first | omega | (simp; done) | (simp; omega)) _ | refine bel_trans ?_ (by assumption)) | assumption | refine bel_trans ?_ (by assumption)))⟩
  · have HV := hid (fun (v : World) (hb : Below w.heap.size w v) => c_sKnownValid_no k A cap L v (h.below hb hL) (Nat.le_trans hL hb.size) h1 hw)
    clear h hk hw h1
    go_enter Try.func51, Try.ntmps51
    go_wp2_with fail
    refine (HV.out _ (by (repeat (first | with_reducible (first | assumption | exact Below.refl _ _ | refine bel_alloc ?_ _ | refine bel_drew ?_ | refine bel_drewN ?_ _ | refine bel_set ?_ (by first | omega | (simp; done) | (simp; omega)) _ | refine bel_trans ?_ (by assumption)) | assumption | refine bel_trans ?_ (by assumption))))).mono ?_
    rintro e w1 ⟨rfl, hb1⟩
    have hc1 := bcell hb1
    go_wp2
    go_ret2
    exact ⟨rfl, by (repeat (first | with_reducible (first | assumption | exact Below.refl _ _ | refine bel_alloc ?_ _ | refine bel_drew ?_ | refine bel_drewN ?_ _ | refine bel_set ?_ (by first | omega | (simp; done) | (simp; omega)) _ | refine bel_trans ?_ (by assumption)) | assumption | refine bel_trans ?_ (by assumption)))⟩
theorem c_sCompress_yes (k : Kn) (A : Option Addr) (cap L : Nat) (w : World) (h : PsAt w L A cap k.ps) (hL : L ≤ w.heap.size) (D : ByteArray) (hk : FitsOk k D) (hw : k.Wf) : Calls Try.prog 51 #[.agg #[.int .i64 k.o, .int .i64 k.l, .int .i64 k.m, .slice A k.ps.length cap, .int .i64 k.base, .int .i64 k.last], .string D] w fun e w' => e = .returned (.tuple #[.string (k.packed (k.greedy D.data.toList)), .bool true]) ∧ Below w.heap.size w w' := by
  have HV := hid (fun (v : World) (hb : Below w.heap.size w v) => c_sKnownValid_yes k A cap L v (h.below hb hL) (Nat.le_trans hL hb.size) hk.1 hw)
  have HD := hid (fun (v : World) => c_sDataFits k.o k.l k.m D v (by have := hk.lits.2; unfold maxLen; omega))
  simp only [hk.2] at HD
  have HC := hid (fun (v : World) (hb : Below w.heap.size w v) => c_l2Compress k A cap L v (h.below hb hL) (Nat.le_trans hL hb.size) D hk)
  obtain ⟨P, hP⟩ : ∃ P, P = k.packed (k.greedy D.data.toList) := ⟨_, rfl⟩
  simp only [← hP] at HC ⊢
  have kN := Blk.new w 27 #[.int .i64 k.o, .int .i64 k.l, .int .i64 k.m, .slice A k.ps.length cap, .int .i64 k.base, .int .i64 k.last]
  clear h hk hw hP
  go_enter Try.func51, Try.ntmps51
  go_wp2_with fail
  refine (HV.out _ (by (repeat (first | with_reducible (first | assumption | exact Below.refl _ _ | refine bel_alloc ?_ _ | refine bel_drew ?_ | refine bel_drewN ?_ _ | refine bel_set ?_ (by first | omega | (simp; done) | (simp; omega)) _ | refine bel_trans ?_ (by assumption)) | assumption | refine bel_trans ?_ (by assumption))))).mono ?_
  rintro e w1 ⟨rfl, hb1⟩
  have hc1 := bcell hb1
  have hz1_0 : w.heap.size < w1.heap.size := (by have := hb1.size; first | omega | (simp at this; omega))
  go_wp2_with fail
  refine (HD.out _).mono ?_
  rintro e w2 ⟨rfl, hb2⟩
  have hc2 := bcell hb2
  have hz2_0 : w.heap.size < w2.heap.size := (by have := hb2.size; first | omega | (simp at this; omega))
  go_wp2_with fail
  refine (HC.out _ (by (repeat (first | with_reducible (first | assumption | exact Below.refl _ _ | refine bel_alloc ?_ _ | refine bel_drew ?_ | refine bel_drewN ?_ _ | refine bel_set ?_ (by first | omega | (simp; done) | (simp; omega)) _ | refine bel_trans ?_ (by assumption)) | assumption | refine bel_trans ?_ (by assumption))))).mono ?_
  rintro e w3 ⟨rfl, hb3⟩
  have hc3 := bcell hb3
  go_wp2
  go_ret2
  exact ⟨rfl, by (repeat (first | with_reducible (first | assumption | exact Below.refl _ _ | refine bel_alloc ?_ _ | refine bel_drew ?_ | refine bel_drewN ?_ _ | refine bel_set ?_ (by first | omega | (simp; done) | (simp; omega)) _ | refine bel_trans ?_ (by assumption)) | assumption | refine bel_trans ?_ (by assumption)))⟩
end Go.Proofs.Ytblmifbpoopbdaa
