/- The contracts of CodeOfWord and LongestWord in both programs; the walks of their exact laws. No condition but that the numbers are int's. -/
import Derived.Test.YtblmifbpoopbdaaLf
import Derived.Test.YtblmifbpoopbdaaNt
import Derived.Test.YtblmifbpoopbdaaNo
import Derived.Test.YtblmifbpoopbdaaBe
import Derived.Test.YtblmifbpoopbdaaBj
namespace Go.Proofs.Ytblmifbpoopbdaa
open Go.ChangeShapes Go.WideShapes Go.ChangeAt Go.RowKit Go.Joins
set_option linter.unusedVariables false

theorem Kn.Ok.find_nil {k : Kn} (h : k.Ok) {D : ByteArray} (hD : D.size = 0) : k.find D.data.toList = -1 := by
  refine h.find_neg (fun j hj e => h.any_ne hj ?_)
  rw [e]
  exact List.length_eq_zero_iff.1 (by rw [len_toList]; exact hD)
theorem Kn.Ok.find_lits {k : Kn} (h : k.Ok) {w : List UInt8} (hf : 0 ≤ k.find w) : w ≠ [] ∧ ∀ b ∈ w, (b.toNat : Int) < k.c := by
  obtain ⟨h1, h2, _⟩ := h.find_some hf
  rw [← h2]
  exact ⟨h.any_ne h1, h.any_lt h1⟩
theorem Kn.Ok.lng_all {k : Kn} (h : k.Ok) {D : ByteArray} (h0 : 0 < D.size) (hl : ((D[0]).toNat : Int) < k.c) : (0 ≤ k.find D.data.toList → k.lng D.data.toList = D.size) ∧ (k.find D.data.toList < 0 → k.lng D.data.toList < D.size) ∧ 1 ≤ k.lng D.data.toList ∧ k.lng D.data.toList ≤ D.size := by
  have hl2 : D.data.toList.length = D.size := len_toList D
  obtain ⟨h1, h2, h3, h4⟩ := h.lng_word (data := D.data.toList) (by omega) (fun b hb => by rw [dat0 D h0] at hb; obtain rfl := Option.some.inj hb; exact hl)
  rw [hl2] at h2
  have e : D.data.toList.take D.size = D.data.toList := List.take_of_length_le (by omega)
  refine ⟨fun hf => ?_, fun hf => ?_, h1, h2⟩
  · rcases Nat.lt_or_ge (k.lng D.data.toList) D.size with h5 | h5
    · have := h4 D.size h5 (by omega)
      rw [e] at this
      omega
    · omega
  · rcases Nat.lt_or_ge (k.lng D.data.toList) D.size with h5 | h5
    · exact h5
    · have e2 : k.lng D.data.toList = D.size := by omega
      rw [e2, e] at h3
      omega
theorem fits_lits {k : Kn} {D : ByteArray} (hf : dataFits k.o k.l k.m D = true) : (∀ b ∈ D.data.toList, (b.toNat : Int) < k.c) ∧ D.size ≤ 2000 := by
  unfold dataFits at hf
  simp only [Bool.and_eq_true, decide_eq_true_eq, List.all_eq_true] at hf
  refine ⟨fun b hb => ?_, hf.1.2⟩
  have := hf.2 b hb
  simp only [ltc, decide_eq_true_eq] at this
  exact this
theorem fits_first {k : Kn} {D : ByteArray} (h0 : 0 < D.size) (hf : dataFits k.o k.l k.m D = true) : ((D[0]).toNat : Int) < k.c :=
  (fits_lits hf).1 _ (by rw [List.mem_iff_getElem?]; exact ⟨0, dat0 D h0⟩)
theorem Kn.Ok.find_pos {k : Kn} (h : k.Ok) {D : ByteArray} (hf : 0 ≤ k.find D.data.toList) : 0 < D.size := by
  rcases Nat.eq_zero_or_pos D.size with h0 | h0
  · have := h.find_nil h0; omega
  · exact h0
theorem empty_of {D : ByteArray} (h : D.size = 0) : D = ByteArray.empty := by
  apply ByteArray.ext
  apply Array.eq_empty_of_size_eq_zero
  simpa using h
theorem not_empty {D : ByteArray} (h : 0 < D.size) : D.toList.isEmpty = false := by
  rw [ByteArray.toList_eq]
  cases hd : D.data.toList with
  | nil => have := len_toList D; rw [hd] at this; simp at this; omega
  | cons a b => rfl

set_option maxHeartbeats 4000000 in
set_option maxRecDepth 100000 in
theorem c_sCodeOfWord_bad (k : Kn) (A : Option Addr) (cap L : Nat) (w : World) (h : PsAt w L A cap k.ps) (hL : L ≤ w.heap.size) (D : ByteArray) (hk : ¬ k.Ok) (hw : k.Wf) : Calls Try.prog 33 #[.agg #[.int .i64 k.o, .int .i64 k.l, .int .i64 k.m, .slice A k.ps.length cap, .int .i64 k.base, .int .i64 k.last], .string D] w fun e w' => e = .returned (.tuple #[.int .i64 0, .bool false]) ∧ Below w.heap.size w w' := by
  have HV := hid (fun (v : World) (hb : Below w.heap.size w v) => c_sKnownValid_no k A cap L v (h.below hb hL) (Nat.le_trans hL hb.size) hk hw)
  clear h hk hw
  go_enter Try.func33, Try.ntmps33
  go_wp2_with fail
  refine (HV.out _ (by (repeat (first | with_reducible (first | assumption | exact Below.refl _ _ | refine bel_alloc ?_ _ | refine bel_drew ?_ | refine bel_drewN ?_ _ | refine bel_set ?_ (by first | omega | (simp; done) | (simp; omega)) _ | refine bel_trans ?_ (by assumption)) | assumption | refine bel_trans ?_ (by assumption))))).mono ?_
  rintro e w1 ⟨rfl, hb1⟩
  have hc1 := bcell hb1
  go_wp2
  go_ret2
  exact ⟨rfl, by (repeat (first | with_reducible (first | assumption | exact Below.refl _ _ | refine bel_alloc ?_ _ | refine bel_drew ?_ | refine bel_drewN ?_ _ | refine bel_set ?_ (by first | omega | (simp; done) | (simp; omega)) _ | refine bel_trans ?_ (by assumption)) | assumption | refine bel_trans ?_ (by assumption)))⟩

set_option maxHeartbeats 4000000 in
set_option maxRecDepth 100000 in
theorem c_sCodeOfWord_no (k : Kn) (A : Option Addr) (cap L : Nat) (w : World) (h : PsAt w L A cap k.ps) (hL : L ≤ w.heap.size) (D : ByteArray) (hk : k.Ok) (hs : D.size ≤ 1048576) (hf : k.find D.data.toList < 0) (hw : k.Wf) : Calls Try.prog 33 #[.agg #[.int .i64 k.o, .int .i64 k.l, .int .i64 k.m, .slice A k.ps.length cap, .int .i64 k.base, .int .i64 k.last], .string D] w fun e w' => e = .returned (.tuple #[.int .i64 0, .bool false]) ∧ Below w.heap.size w w' := by
  have HV := hid (fun (v : World) (hb : Below w.heap.size w v) => c_sKnownValid_yes k A cap L v (h.below hb hL) (Nat.le_trans hL hb.size) hk hw)
  have HF := hid (fun (v : World) (hb : Below w.heap.size w v) => c_l2Find k A cap L D v hk (h.below hb hL) (Nat.le_trans hL hb.size) hs)
  have kN := Blk.new w 27 #[.int .i64 k.o, .int .i64 k.l, .int .i64 k.m, .slice A k.ps.length cap, .int .i64 k.base, .int .i64 k.last]
  obtain ⟨F, hF⟩ : ∃ F, F = k.find D.data.toList := ⟨_, rfl⟩
  rw [← hF] at HF hf
  clear hF
  by_cases h0 : D.size = 0
  · have e := empty_of h0
    subst e
    clear h hk hw
    go_enter Try.func33, Try.ntmps33
    go_wp2_with fail
    refine (HV.out _ (by (repeat (first | with_reducible (first | assumption | exact Below.refl _ _ | refine bel_alloc ?_ _ | refine bel_drew ?_ | refine bel_drewN ?_ _ | refine bel_set ?_ (by first | omega | (simp; done) | (simp; omega)) _ | refine bel_trans ?_ (by assumption)) | assumption | refine bel_trans ?_ (by assumption))))).mono ?_
    rintro e w1 ⟨rfl, hb1⟩
    have hc1 := bcell hb1
    go_wp2
    go_ret2
    exact ⟨rfl, by (repeat (first | with_reducible (first | assumption | exact Below.refl _ _ | refine bel_alloc ?_ _ | refine bel_drew ?_ | refine bel_drewN ?_ _ | refine bel_set ?_ (by first | omega | (simp; done) | (simp; omega)) _ | refine bel_trans ?_ (by assumption)) | assumption | refine bel_trans ?_ (by assumption)))⟩
  · have he := not_empty (D := D) (by omega)
    clear h hk hw
    go_enter Try.func33, Try.ntmps33
    go_wp2_with fail
    refine (HV.out _ (by (repeat (first | with_reducible (first | assumption | exact Below.refl _ _ | refine bel_alloc ?_ _ | refine bel_drew ?_ | refine bel_drewN ?_ _ | refine bel_set ?_ (by first | omega | (simp; done) | (simp; omega)) _ | refine bel_trans ?_ (by assumption)) | assumption | refine bel_trans ?_ (by assumption))))).mono ?_
    rintro e w1 ⟨rfl, hb1⟩
    have hc1 := bcell hb1
    have hz1_0 : w.heap.size < w1.heap.size := (by have := hb1.size; first | omega | (simp at this; omega))
    go_wp2_with fail
    refine (HF.out _ (by (repeat (first | with_reducible (first | assumption | exact Below.refl _ _ | refine bel_alloc ?_ _ | refine bel_drew ?_ | refine bel_drewN ?_ _ | refine bel_set ?_ (by first | omega | (simp; done) | (simp; omega)) _ | refine bel_trans ?_ (by assumption)) | assumption | refine bel_trans ?_ (by assumption))))).mono ?_
    rintro e w2 ⟨rfl, hb2⟩
    have hc2 := bcell hb2
    go_wp2
    go_ret2
    exact ⟨rfl, by (repeat (first | with_reducible (first | assumption | exact Below.refl _ _ | refine bel_alloc ?_ _ | refine bel_drew ?_ | refine bel_drewN ?_ _ | refine bel_set ?_ (by first | omega | (simp; done) | (simp; omega)) _ | refine bel_trans ?_ (by assumption)) | assumption | refine bel_trans ?_ (by assumption)))⟩

set_option maxHeartbeats 4000000 in
set_option maxRecDepth 100000 in
theorem c_sCodeOfWord_yes (k : Kn) (A : Option Addr) (cap L : Nat) (w : World) (h : PsAt w L A cap k.ps) (hL : L ≤ w.heap.size) (D : ByteArray) (hk : k.Ok) (hs : D.size ≤ 1048576) (hf : 0 ≤ k.find D.data.toList) (hw : k.Wf) : Calls Try.prog 33 #[.agg #[.int .i64 k.o, .int .i64 k.l, .int .i64 k.m, .slice A k.ps.length cap, .int .i64 k.base, .int .i64 k.last], .string D] w fun e w' => e = .returned (.tuple #[.int .i64 (k.find D.data.toList), .bool true]) ∧ Below w.heap.size w w' := by
  have HV := hid (fun (v : World) (hb : Below w.heap.size w v) => c_sKnownValid_yes k A cap L v (h.below hb hL) (Nat.le_trans hL hb.size) hk hw)
  have HF := hid (fun (v : World) (hb : Below w.heap.size w v) => c_l2Find k A cap L D v hk (h.below hb hL) (Nat.le_trans hL hb.size) hs)
  have kN := Blk.new w 27 #[.int .i64 k.o, .int .i64 k.l, .int .i64 k.m, .slice A k.ps.length cap, .int .i64 k.base, .int .i64 k.last]
  have he := not_empty (hk.find_pos hf)
  obtain ⟨F, hF⟩ : ∃ F, F = k.find D.data.toList := ⟨_, rfl⟩
  rw [← hF] at HF hf ⊢
  clear hF h hk hw
  go_enter Try.func33, Try.ntmps33
  go_wp2_with fail
  refine (HV.out _ (by (repeat (first | with_reducible (first | assumption | exact Below.refl _ _ | refine bel_alloc ?_ _ | refine bel_drew ?_ | refine bel_drewN ?_ _ | refine bel_set ?_ (by first | omega | (simp; done) | (simp; omega)) _ | refine bel_trans ?_ (by assumption)) | assumption | refine bel_trans ?_ (by assumption))))).mono ?_
  rintro e w1 ⟨rfl, hb1⟩
  have hc1 := bcell hb1
  have hz1_0 : w.heap.size < w1.heap.size := (by have := hb1.size; first | omega | (simp at this; omega))
  go_wp2_with fail
  refine (HF.out _ (by (repeat (first | with_reducible (first | assumption | exact Below.refl _ _ | refine bel_alloc ?_ _ | refine bel_drew ?_ | refine bel_drewN ?_ _ | refine bel_set ?_ (by first | omega | (simp; done) | (simp; omega)) _ | refine bel_trans ?_ (by assumption)) | assumption | refine bel_trans ?_ (by assumption))))).mono ?_
  rintro e w2 ⟨rfl, hb2⟩
  have hc2 := bcell hb2
  have hz2_0 : w.heap.size < w2.heap.size := (by have := hb2.size; first | omega | (simp at this; omega))
  go_wp2_with fail
  refine (HF.out _ (by (repeat (first | with_reducible (first | assumption | exact Below.refl _ _ | refine bel_alloc ?_ _ | refine bel_drew ?_ | refine bel_drewN ?_ _ | refine bel_set ?_ (by first | omega | (simp; done) | (simp; omega)) _ | refine bel_trans ?_ (by assumption)) | assumption | refine bel_trans ?_ (by assumption))))).mono ?_
  rintro e w3 ⟨rfl, hb3⟩
  have hc3 := bcell hb3
  go_wp2
  go_ret2
  exact ⟨rfl, by (repeat (first | with_reducible (first | assumption | exact Below.refl _ _ | refine bel_alloc ?_ _ | refine bel_drew ?_ | refine bel_drewN ?_ _ | refine bel_set ?_ (by first | omega | (simp; done) | (simp; omega)) _ | refine bel_trans ?_ (by assumption)) | assumption | refine bel_trans ?_ (by assumption)))⟩

set_option maxHeartbeats 4000000 in
set_option maxRecDepth 100000 in
theorem c_CodeOfWord_bad (k : Kn) (A : Option Addr) (cap L : Nat) (w : World) (h : PsAt w L A cap k.ps) (hL : L ≤ w.heap.size) (D : ByteArray) (hk : ¬ k.Ok) (hw : k.Wf) : Calls Try.prog 35 #[.agg #[.int .i64 k.o, .int .i64 k.l, .int .i64 k.m, .slice A k.ps.length cap, .int .i64 k.base, .int .i64 k.last], .string D] w fun e w' => e = .returned (.tuple #[.int .i64 0, .bool false]) ∧ Below w.heap.size w w' := by
  have HV := hid (fun (v : World) (hb : Below w.heap.size w v) => c_KnownValid_no k A cap L v (h.below hb hL) (Nat.le_trans hL hb.size) hk hw)
  have kN := Blk.new w 27 #[.int .i64 k.o, .int .i64 k.l, .int .i64 k.m, .slice A k.ps.length cap, .int .i64 k.base, .int .i64 k.last]
  have hS := kN.kat.held (show Below w.heap.size w (w.alloc (.cells #[.int .i64 k.o, .int .i64 k.l, .int .i64 k.m, .slice A k.ps.length cap, .int .i64 k.base, .int .i64 k.last] 27)) by (repeat (first | with_reducible (first | assumption | exact Below.refl _ _ | refine bel_alloc ?_ _ | refine bel_drew ?_ | refine bel_drewN ?_ _ | refine bel_set ?_ (by first | omega | (simp; done) | (simp; omega)) _ | refine bel_trans ?_ (by assumption)) | assumption | refine bel_trans ?_ (by assumption))))
  clear h hk hw
  go_enter Try.func35, Try.ntmps35
  go_wp2_with fail
  refine wp_region_noPanic ?_
  refine wp_region_held_drew (S := (fun v => v.cell? ⟨w.heap.size, 0, none⟩ = some (.int .i64 k.o) ∧ v.cell? ⟨w.heap.size, 1, none⟩ = some (.int .i64 k.l) ∧ v.cell? ⟨w.heap.size, 2, none⟩ = some (.int .i64 k.m) ∧ v.cell? ⟨w.heap.size, 3, none⟩ = some (.slice A k.ps.length cap) ∧ v.cell? ⟨w.heap.size, 4, none⟩ = some (.int .i64 k.base) ∧ v.cell? ⟨w.heap.size, 5, none⟩ = some (.int .i64 k.last) ∧ Below w.heap.size w v)) (by kernel_rfl) (s6_drew hS) (fun hHeld => ?_)
  refine tk 0 ?_
  refine wpAnyH_ready (rs := [1]) (by kernel_rfl) (by simp) ?_
  refine AllReadyH.cons (o := ?or1_1) ?ir1_1 (fun K hK => ?sr1_1) AllReadyH.nil
  case ir1_1 => (simp only [List.getElem?_toArray, List.getElem?_cons_succ, List.getElem?_cons_zero]; rfl)
  (go_simp; (go_at_call 38; refine (HV.out _ (by (repeat (first | with_reducible (first | assumption | exact Below.refl _ _ | refine bel_alloc ?_ _ | refine bel_drew ?_ | refine bel_drewN ?_ _ | refine bel_set ?_ (by first | omega | (simp; done) | (simp; omega)) _ | refine bel_trans ?_ (by assumption)) | assumption | refine bel_trans ?_ (by assumption))))).mono ?_; rintro e wQ ⟨rfl, hbQ⟩))
  refine hK.out _ _ ?kr1_1 (fun hHeld => ?_)
  case kr1_1 => (try dsimp only); (first | with_reducible assumption | exact s6_bel (by assumption) (by assumption) | assumption | exact s6_alloc (by assumption) _)
  clear hK K
  try simp only [Act.put, List.setIfInBounds_toArray, List.set_cons_zero, List.set_cons_succ]
  refine tk 2 ?_
  refine tk 3 ?_
  refine tu 4 ?_
  refine tu 5 ?_
  refine tk 6 ?_
  refine tk 7 ?_
  refine tu 8 ?_
  refine tu 9 ?_
  refine tu 10 ?_
  refine tu 11 ?_
  refine tu 12 ?_
  refine tu 13 ?_
  refine tu 14 ?_
  refine tk 15 ?_
  refine wpAnyH_done (by kernel_rfl) ?_ _
  refine NoPanic.normal ?_
  go_wp2
  go_ret2
  exact ⟨rfl, by (repeat (first | with_reducible (first | assumption | exact Below.refl _ _ | refine bel_alloc ?_ _ | refine bel_drew ?_ | refine bel_drewN ?_ _ | refine bel_set ?_ (by first | omega | (simp; done) | (simp; omega)) _ | refine bel_trans ?_ (by assumption)) | assumption | refine bel_trans ?_ (by assumption)))⟩

set_option maxHeartbeats 4000000 in
set_option maxRecDepth 100000 in
theorem c_CodeOfWord_no (k : Kn) (A : Option Addr) (cap L : Nat) (w : World) (h : PsAt w L A cap k.ps) (hL : L ≤ w.heap.size) (D : ByteArray) (hk : k.Ok) (hs : D.size ≤ 1048576) (hf : k.find D.data.toList < 0) (hw : k.Wf) : Calls Try.prog 35 #[.agg #[.int .i64 k.o, .int .i64 k.l, .int .i64 k.m, .slice A k.ps.length cap, .int .i64 k.base, .int .i64 k.last], .string D] w fun e w' => e = .returned (.tuple #[.int .i64 0, .bool false]) ∧ Below w.heap.size w w' := by
  have HV := hid (fun (v : World) (hb : Below w.heap.size w v) => c_KnownValid_yes k A cap L v (h.below hb hL) (Nat.le_trans hL hb.size) hk hw)
  have kN := Blk.new w 27 #[.int .i64 k.o, .int .i64 k.l, .int .i64 k.m, .slice A k.ps.length cap, .int .i64 k.base, .int .i64 k.last]
  have hS := kN.kat.held (show Below w.heap.size w (w.alloc (.cells #[.int .i64 k.o, .int .i64 k.l, .int .i64 k.m, .slice A k.ps.length cap, .int .i64 k.base, .int .i64 k.last] 27)) by (repeat (first | with_reducible (first | assumption | exact Below.refl _ _ | refine bel_alloc ?_ _ | refine bel_drew ?_ | refine bel_drewN ?_ _ | refine bel_set ?_ (by first | omega | (simp; done) | (simp; omega)) _ | refine bel_trans ?_ (by assumption)) | assumption | refine bel_trans ?_ (by assumption))))
  obtain ⟨p0, p1, p2, p3, p4, p5⟩ := kN.cells6
  by_cases h00 : D.size = 0
  · have e := empty_of h00
    subst e
    clear h hk hw
    go_enter Try.func35, Try.ntmps35
    go_wp2_with fail
    refine wp_region_noPanic ?_
    refine wp_region_held_drew (S := (fun v => v.cell? ⟨w.heap.size, 0, none⟩ = some (.int .i64 k.o) ∧ v.cell? ⟨w.heap.size, 1, none⟩ = some (.int .i64 k.l) ∧ v.cell? ⟨w.heap.size, 2, none⟩ = some (.int .i64 k.m) ∧ v.cell? ⟨w.heap.size, 3, none⟩ = some (.slice A k.ps.length cap) ∧ v.cell? ⟨w.heap.size, 4, none⟩ = some (.int .i64 k.base) ∧ v.cell? ⟨w.heap.size, 5, none⟩ = some (.int .i64 k.last) ∧ Below w.heap.size w v)) (by kernel_rfl) (s6_drew hS) (fun hHeld => ?_)
    refine tk 0 ?_
    refine wpAnyH_ready (rs := [1]) (by kernel_rfl) (by simp) ?_
    refine AllReadyH.cons (o := ?or2_1) ?ir2_1 (fun K hK => ?sr2_1) AllReadyH.nil
    case ir2_1 => (simp only [List.getElem?_toArray, List.getElem?_cons_succ, List.getElem?_cons_zero]; rfl)
    (go_simp; (go_at_call 38; refine (HV.out _ (by (repeat (first | with_reducible (first | assumption | exact Below.refl _ _ | refine bel_alloc ?_ _ | refine bel_drew ?_ | refine bel_drewN ?_ _ | refine bel_set ?_ (by first | omega | (simp; done) | (simp; omega)) _ | refine bel_trans ?_ (by assumption)) | assumption | refine bel_trans ?_ (by assumption))))).mono ?_; rintro e wQ ⟨rfl, hbQ⟩))
    refine hK.out _ _ ?kr2_1 (fun hHeld => ?_)
    case kr2_1 => (try dsimp only); (first | with_reducible assumption | exact s6_bel (by assumption) (by assumption) | assumption | exact s6_alloc (by assumption) _)
    clear hK K
    try simp only [Act.put, List.setIfInBounds_toArray, List.set_cons_zero, List.set_cons_succ]
    refine tk 2 ?_
    refine tk 3 ?_
    refine tk 4 ?_
    refine tk 5 ?_
    refine tk 6 ?_
    refine tk 7 ?_
    refine tu 8 ?_
    refine tu 9 ?_
    refine tu 10 ?_
    refine tu 11 ?_
    refine tu 12 ?_
    refine tu 13 ?_
    refine tu 14 ?_
    refine tk 15 ?_
    refine wpAnyH_done (by kernel_rfl) ?_ _
    refine NoPanic.normal ?_
    go_wp2
    go_ret2
    exact ⟨rfl, by (repeat (first | with_reducible (first | assumption | exact Below.refl _ _ | refine bel_alloc ?_ _ | refine bel_drew ?_ | refine bel_drewN ?_ _ | refine bel_set ?_ (by first | omega | (simp; done) | (simp; omega)) _ | refine bel_trans ?_ (by assumption)) | assumption | refine bel_trans ?_ (by assumption)))⟩
  · have h0 : 0 < D.size := by omega
    have he := not_empty h0
    have hset := hk.set
    have hx := idx_str (P := Try.prog) Try.underlying9 D 0 h0 .i64 0 rfl
    obtain ⟨b, hb⟩ : ∃ b : Nat, b = (D[0]).toNat := ⟨_, rfl⟩
    have hb8 : b ≤ 255 := by have := (D[0]).toNat_lt; omega
    rw [← hb] at hx
    have HI := hid (fun (v : World) => c_isLiteral k.o k.l k.m (b : Int) v hset)
    have ec : k.c = pow2 k.l := rfl
    have hwb : IntKind.i64.wrap (b : Int) = (b : Int) := IntWalk.i64_in _ (by omega)
    by_cases hlt : (b : Int) < pow2 k.l
    · have hl : ((D[0]).toNat : Int) < k.c := by rw [← hb]; exact hlt
      have hla := (hk.lng_all h0 hl).2.1 hf
      have hdec : decide (0 ≤ (b : Int) ∧ (b : Int) < pow2 k.l) = true := decide_eq_true ⟨by omega, hlt⟩
      have HNF := hid (fun (v : World) (hb : Below w.heap.size w v) => c_newFinder k A cap L v hk (h.below hb hL) (Nat.le_trans hL hb.size))
      have HOk := hid hk
      have HLg := hid (fun (L fb : Nat) (A : Option Addr) (cap nb cap2 : Nat) (N : Nat → Nat) (Lo : Nat → Option Nat) (bm n : Nat) (v : World) (hF : FQ L fb k A cap nb cap2 k.ps N Lo bm n v) => c_longest L fb k A cap nb cap2 N Lo bm n D v HOk.out hF h0 hs hl)
      obtain ⟨g, hg⟩ : ∃ g, g = k.lng D.data.toList := ⟨_, rfl⟩
      obtain ⟨F, hF⟩ : ∃ F, F = k.find (D.data.toList.take g) := ⟨_, rfl⟩
      simp only [← hg, ← hF] at HLg
      simp only [← hg] at hla
      have hgI : ((g : Nat) : Int) < (D.size : Int) := by omega
      simp only [hdec] at HI
      clear hdec
      have HKN := hid kN
      clear h hk hw hb
      clear hF hg hf hl
      go_enter Try.func35, Try.ntmps35
      go_wp2_with fail
      refine wp_region_noPanic ?_
      refine wp_region_held_drew (S := (fun v => v.cell? ⟨w.heap.size, 0, none⟩ = some (.int .i64 k.o) ∧ v.cell? ⟨w.heap.size, 1, none⟩ = some (.int .i64 k.l) ∧ v.cell? ⟨w.heap.size, 2, none⟩ = some (.int .i64 k.m) ∧ v.cell? ⟨w.heap.size, 3, none⟩ = some (.slice A k.ps.length cap) ∧ v.cell? ⟨w.heap.size, 4, none⟩ = some (.int .i64 k.base) ∧ v.cell? ⟨w.heap.size, 5, none⟩ = some (.int .i64 k.last) ∧ Below w.heap.size w v)) (by kernel_rfl) (s6_drew hS) (fun hHeld => ?_)
      refine tk 0 ?_
      refine wpAnyH_ready (rs := [1]) (by kernel_rfl) (by simp) ?_
      refine AllReadyH.cons (o := ?or3_1) ?ir3_1 (fun K hK => ?sr3_1) AllReadyH.nil
      case ir3_1 => (simp only [List.getElem?_toArray, List.getElem?_cons_succ, List.getElem?_cons_zero]; rfl)
      (go_simp; (go_at_call 38; refine (HV.out _ (by (repeat (first | with_reducible (first | assumption | exact Below.refl _ _ | refine bel_alloc ?_ _ | refine bel_drew ?_ | refine bel_drewN ?_ _ | refine bel_set ?_ (by first | omega | (simp; done) | (simp; omega)) _ | refine bel_trans ?_ (by assumption)) | assumption | refine bel_trans ?_ (by assumption))))).mono ?_; rintro e wQ ⟨rfl, hbQ⟩))
      refine hK.out _ _ ?kr3_1 (fun hHeld => ?_)
      case kr3_1 => (try dsimp only); (first | with_reducible assumption | exact s6_bel (by assumption) (by assumption) | assumption | exact s6_alloc (by assumption) _)
      clear hK K
      try simp only [Act.put, List.setIfInBounds_toArray, List.set_cons_zero, List.set_cons_succ]
      refine tk 2 ?_
      refine tk 3 ?_
      refine tk 4 ?_
      refine tk 5 ?_
      refine tk 6 ?_
      refine tk 7 ?_
      refine tk 8 ?_
      refine tk 9 ?_
      refine tk 10 ?_
      refine tk 11 ?_
      refine tk 12 ?_
      refine wpAnyH_ready (rs := [13]) (by kernel_rfl) (by simp) ?_
      refine AllReadyH.cons (o := ?or3_13) ?ir3_13 (fun K hK => ?sr3_13) AllReadyH.nil
      case ir3_13 => (simp only [List.getElem?_toArray, List.getElem?_cons_succ, List.getElem?_cons_zero]; rfl)
      (go_simp; (go_at_call 111; refine (HI.out _).mono ?_; rintro e wR ⟨rfl, hbR⟩))
      refine hK.out _ _ ?kr3_13 (fun hHeld => ?_)
      case kr3_13 => (try dsimp only); (first | with_reducible assumption | exact s6_bel (by assumption) (by assumption) | assumption | exact s6_alloc (by assumption) _)
      clear hK K
      try simp only [Act.put, List.setIfInBounds_toArray, List.set_cons_zero, List.set_cons_succ]
      refine tk 14 ?_
      refine tk 15 ?_
      refine wpAnyH_done (by kernel_rfl) ?_ _
      refine NoPanic.normal ?_
      have hbR2 : Below (w.alloc (.cells #[.int .i64 k.o, .int .i64 k.l, .int .i64 k.m, .slice A k.ps.length cap, .int .i64 k.base, .int .i64 k.last] 27)).drew.heap.size (w.alloc (.cells #[.int .i64 k.o, .int .i64 k.l, .int .i64 k.m, .slice A k.ps.length cap, .int .i64 k.base, .int .i64 k.last] 27)).drew wR := by (repeat (first | with_reducible (first | assumption | exact Below.refl _ _ | refine bel_alloc ?_ _ | refine bel_drew ?_ | refine bel_drewN ?_ _ | refine bel_set ?_ (by first | omega | (simp; done) | (simp; omega)) _ | refine bel_trans ?_ (by assumption)) | assumption | refine bel_trans ?_ (by assumption)))
      have HK2 := hid (HKN.out.drew.on hbR2)
      have B2 : Below w.heap.size w wR := by (repeat (first | with_reducible (first | assumption | exact Below.refl _ _ | refine bel_alloc ?_ _ | refine bel_drew ?_ | refine bel_drewN ?_ _ | refine bel_set ?_ (by first | omega | (simp; done) | (simp; omega)) _ | refine bel_trans ?_ (by assumption)) | assumption | refine bel_trans ?_ (by assumption)))
      clear hbR2 hS p0 p1 p2 p3 p4 p5
      obtain ⟨p0, p1, p2, p3, p4, p5⟩ := HK2.out.cells6
      go_wp2_with fail
      refine (HNF.out _ B2).mono ?_
      rintro e w3 ⟨hb3, fb, A3, cap3, nb, cap2, N, Lo, bm, n, rfl, hn3, hF3⟩
      have HF3 := hid hF3
      clear hF3
      go_wp2_with fail
      refine (HLg.out _ _ _ _ _ _ _ _ _ _ _ HF3.out).mono ?_
      rintro e w4 ⟨rfl, hb4⟩
      go_wp2
      go_ret2
      exact ⟨rfl, by (repeat (first | with_reducible (first | assumption | exact Below.refl _ _ | refine bel_alloc ?_ _ | refine bel_drew ?_ | refine bel_drewN ?_ _ | refine bel_set ?_ (by first | omega | (simp; done) | (simp; omega)) _ | refine bel_trans ?_ (by assumption)) | assumption | refine bel_trans ?_ (by assumption)))⟩
    · have hdec : decide (0 ≤ (b : Int) ∧ (b : Int) < pow2 k.l) = false := decide_eq_false (by omega)
      simp only [hdec] at HI
      clear hdec
      have HKN := hid kN
      clear h hk hw hb
      clear hf
      go_enter Try.func35, Try.ntmps35
      go_wp2_with fail
      refine wp_region_noPanic ?_
      refine wp_region_held_drew (S := (fun v => v.cell? ⟨w.heap.size, 0, none⟩ = some (.int .i64 k.o) ∧ v.cell? ⟨w.heap.size, 1, none⟩ = some (.int .i64 k.l) ∧ v.cell? ⟨w.heap.size, 2, none⟩ = some (.int .i64 k.m) ∧ v.cell? ⟨w.heap.size, 3, none⟩ = some (.slice A k.ps.length cap) ∧ v.cell? ⟨w.heap.size, 4, none⟩ = some (.int .i64 k.base) ∧ v.cell? ⟨w.heap.size, 5, none⟩ = some (.int .i64 k.last) ∧ Below w.heap.size w v)) (by kernel_rfl) (s6_drew hS) (fun hHeld => ?_)
      refine tk 0 ?_
      refine wpAnyH_ready (rs := [1]) (by kernel_rfl) (by simp) ?_
      refine AllReadyH.cons (o := ?or4_1) ?ir4_1 (fun K hK => ?sr4_1) AllReadyH.nil
      case ir4_1 => (simp only [List.getElem?_toArray, List.getElem?_cons_succ, List.getElem?_cons_zero]; rfl)
      (go_simp; (go_at_call 38; refine (HV.out _ (by (repeat (first | with_reducible (first | assumption | exact Below.refl _ _ | refine bel_alloc ?_ _ | refine bel_drew ?_ | refine bel_drewN ?_ _ | refine bel_set ?_ (by first | omega | (simp; done) | (simp; omega)) _ | refine bel_trans ?_ (by assumption)) | assumption | refine bel_trans ?_ (by assumption))))).mono ?_; rintro e wQ ⟨rfl, hbQ⟩))
      refine hK.out _ _ ?kr4_1 (fun hHeld => ?_)
      case kr4_1 => (try dsimp only); (first | with_reducible assumption | exact s6_bel (by assumption) (by assumption) | assumption | exact s6_alloc (by assumption) _)
      clear hK K
      try simp only [Act.put, List.setIfInBounds_toArray, List.set_cons_zero, List.set_cons_succ]
      refine tk 2 ?_
      refine tk 3 ?_
      refine tk 4 ?_
      refine tk 5 ?_
      refine tk 6 ?_
      refine tk 7 ?_
      refine tk 8 ?_
      refine tk 9 ?_
      refine tk 10 ?_
      refine tk 11 ?_
      refine tk 12 ?_
      refine wpAnyH_ready (rs := [13]) (by kernel_rfl) (by simp) ?_
      refine AllReadyH.cons (o := ?or4_13) ?ir4_13 (fun K hK => ?sr4_13) AllReadyH.nil
      case ir4_13 => (simp only [List.getElem?_toArray, List.getElem?_cons_succ, List.getElem?_cons_zero]; rfl)
      (go_simp; (go_at_call 111; refine (HI.out _).mono ?_; rintro e wR ⟨rfl, hbR⟩))
      refine hK.out _ _ ?kr4_13 (fun hHeld => ?_)
      case kr4_13 => (try dsimp only); (first | with_reducible assumption | exact s6_bel (by assumption) (by assumption) | assumption | exact s6_alloc (by assumption) _)
      clear hK K
      try simp only [Act.put, List.setIfInBounds_toArray, List.set_cons_zero, List.set_cons_succ]
      refine tk 14 ?_
      refine tk 15 ?_
      refine wpAnyH_done (by kernel_rfl) ?_ _
      refine NoPanic.normal ?_
      go_wp2
      go_ret2
      exact ⟨rfl, by (repeat (first | with_reducible (first | assumption | exact Below.refl _ _ | refine bel_alloc ?_ _ | refine bel_drew ?_ | refine bel_drewN ?_ _ | refine bel_set ?_ (by first | omega | (simp; done) | (simp; omega)) _ | refine bel_trans ?_ (by assumption)) | assumption | refine bel_trans ?_ (by assumption)))⟩

set_option maxHeartbeats 4000000 in
set_option maxRecDepth 100000 in
theorem c_CodeOfWord_yes (k : Kn) (A : Option Addr) (cap L : Nat) (w : World) (h : PsAt w L A cap k.ps) (hL : L ≤ w.heap.size) (D : ByteArray) (hk : k.Ok) (hs : D.size ≤ 1048576) (hf : 0 ≤ k.find D.data.toList) (hw : k.Wf) : Calls Try.prog 35 #[.agg #[.int .i64 k.o, .int .i64 k.l, .int .i64 k.m, .slice A k.ps.length cap, .int .i64 k.base, .int .i64 k.last], .string D] w fun e w' => e = .returned (.tuple #[.int .i64 (k.find D.data.toList), .bool true]) ∧ Below w.heap.size w w' := by
  have HV := hid (fun (v : World) (hb : Below w.heap.size w v) => c_KnownValid_yes k A cap L v (h.below hb hL) (Nat.le_trans hL hb.size) hk hw)
  have kN := Blk.new w 27 #[.int .i64 k.o, .int .i64 k.l, .int .i64 k.m, .slice A k.ps.length cap, .int .i64 k.base, .int .i64 k.last]
  have hS := kN.kat.held (show Below w.heap.size w (w.alloc (.cells #[.int .i64 k.o, .int .i64 k.l, .int .i64 k.m, .slice A k.ps.length cap, .int .i64 k.base, .int .i64 k.last] 27)) by (repeat (first | with_reducible (first | assumption | exact Below.refl _ _ | refine bel_alloc ?_ _ | refine bel_drew ?_ | refine bel_drewN ?_ _ | refine bel_set ?_ (by first | omega | (simp; done) | (simp; omega)) _ | refine bel_trans ?_ (by assumption)) | assumption | refine bel_trans ?_ (by assumption))))
  obtain ⟨p0, p1, p2, p3, p4, p5⟩ := kN.cells6
  have hnl := hk.find_lits hf
  have h0 : 0 < D.size := by rw [← len_toList]; exact List.length_pos_iff.2 hnl.1
  have he := not_empty h0
  have hset := hk.set
  have hx := idx_str (P := Try.prog) Try.underlying9 D 0 h0 .i64 0 rfl
  obtain ⟨b, hb⟩ : ∃ b : Nat, b = (D[0]).toNat := ⟨_, rfl⟩
  have hb8 : b ≤ 255 := by have := (D[0]).toNat_lt; omega
  rw [← hb] at hx
  have HI := hid (fun (v : World) => c_isLiteral k.o k.l k.m (b : Int) v hset)
  have ec : k.c = pow2 k.l := rfl
  have hwb : IntKind.i64.wrap (b : Int) = (b : Int) := IntWalk.i64_in _ (by omega)
  have hl : ((D[0]).toNat : Int) < k.c := hnl.2 _ (by rw [List.mem_iff_getElem?]; exact ⟨0, dat0 D h0⟩)
  have hlt : (b : Int) < pow2 k.l := by rw [hb]; exact hl
  have hla := (hk.lng_all h0 hl).1 hf
  have hdec : decide (0 ≤ (b : Int) ∧ (b : Int) < pow2 k.l) = true := decide_eq_true ⟨by omega, hlt⟩
  have HNF := hid (fun (v : World) (hb : Below w.heap.size w v) => c_newFinder k A cap L v hk (h.below hb hL) (Nat.le_trans hL hb.size))
  have HOk := hid hk
  have HLg := hid (fun (L fb : Nat) (A : Option Addr) (cap nb cap2 : Nat) (N : Nat → Nat) (Lo : Nat → Option Nat) (bm n : Nat) (v : World) (hF : FQ L fb k A cap nb cap2 k.ps N Lo bm n v) => c_longest L fb k A cap nb cap2 N Lo bm n D v HOk.out hF h0 hs hl)
  obtain ⟨g, hg⟩ : ∃ g, g = k.lng D.data.toList := ⟨_, rfl⟩
  obtain ⟨F, hF⟩ : ∃ F, F = k.find (D.data.toList.take g) := ⟨_, rfl⟩
  simp only [← hg, ← hF] at HLg
  simp only [← hg] at hla
  have HRes := hid (show F = k.find D.data.toList by rw [hF, hla, List.take_of_length_le (by rw [len_toList]; omega)])
  have hgI : ((g : Nat) : Int) = (D.size : Int) := by omega
  rw [← HRes.out]
  simp only [hdec] at HI
  clear hdec
  have HKN := hid kN
  clear h hk hw hb
  clear hF hg hf hl hnl hla
  go_enter Try.func35, Try.ntmps35
  go_wp2_with fail
  refine wp_region_noPanic ?_
  refine wp_region_held_drew (S := (fun v => v.cell? ⟨w.heap.size, 0, none⟩ = some (.int .i64 k.o) ∧ v.cell? ⟨w.heap.size, 1, none⟩ = some (.int .i64 k.l) ∧ v.cell? ⟨w.heap.size, 2, none⟩ = some (.int .i64 k.m) ∧ v.cell? ⟨w.heap.size, 3, none⟩ = some (.slice A k.ps.length cap) ∧ v.cell? ⟨w.heap.size, 4, none⟩ = some (.int .i64 k.base) ∧ v.cell? ⟨w.heap.size, 5, none⟩ = some (.int .i64 k.last) ∧ Below w.heap.size w v)) (by kernel_rfl) (s6_drew hS) (fun hHeld => ?_)
  refine tk 0 ?_
  refine wpAnyH_ready (rs := [1]) (by kernel_rfl) (by simp) ?_
  refine AllReadyH.cons (o := ?or5_1) ?ir5_1 (fun K hK => ?sr5_1) AllReadyH.nil
  case ir5_1 => (simp only [List.getElem?_toArray, List.getElem?_cons_succ, List.getElem?_cons_zero]; rfl)
  (go_simp; (go_at_call 38; refine (HV.out _ (by (repeat (first | with_reducible (first | assumption | exact Below.refl _ _ | refine bel_alloc ?_ _ | refine bel_drew ?_ | refine bel_drewN ?_ _ | refine bel_set ?_ (by first | omega | (simp; done) | (simp; omega)) _ | refine bel_trans ?_ (by assumption)) | assumption | refine bel_trans ?_ (by assumption))))).mono ?_; rintro e wQ ⟨rfl, hbQ⟩))
  refine hK.out _ _ ?kr5_1 (fun hHeld => ?_)
  case kr5_1 => (try dsimp only); (first | with_reducible assumption | exact s6_bel (by assumption) (by assumption) | assumption | exact s6_alloc (by assumption) _)
  clear hK K
  try simp only [Act.put, List.setIfInBounds_toArray, List.set_cons_zero, List.set_cons_succ]
  refine tk 2 ?_
  refine tk 3 ?_
  refine tk 4 ?_
  refine tk 5 ?_
  refine tk 6 ?_
  refine tk 7 ?_
  refine tk 8 ?_
  refine tk 9 ?_
  refine tk 10 ?_
  refine tk 11 ?_
  refine tk 12 ?_
  refine wpAnyH_ready (rs := [13]) (by kernel_rfl) (by simp) ?_
  refine AllReadyH.cons (o := ?or5_13) ?ir5_13 (fun K hK => ?sr5_13) AllReadyH.nil
  case ir5_13 => (simp only [List.getElem?_toArray, List.getElem?_cons_succ, List.getElem?_cons_zero]; rfl)
  (go_simp; (go_at_call 111; refine (HI.out _).mono ?_; rintro e wR ⟨rfl, hbR⟩))
  refine hK.out _ _ ?kr5_13 (fun hHeld => ?_)
  case kr5_13 => (try dsimp only); (first | with_reducible assumption | exact s6_bel (by assumption) (by assumption) | assumption | exact s6_alloc (by assumption) _)
  clear hK K
  try simp only [Act.put, List.setIfInBounds_toArray, List.set_cons_zero, List.set_cons_succ]
  refine tk 14 ?_
  refine tk 15 ?_
  refine wpAnyH_done (by kernel_rfl) ?_ _
  refine NoPanic.normal ?_
  have hbR2 : Below (w.alloc (.cells #[.int .i64 k.o, .int .i64 k.l, .int .i64 k.m, .slice A k.ps.length cap, .int .i64 k.base, .int .i64 k.last] 27)).drew.heap.size (w.alloc (.cells #[.int .i64 k.o, .int .i64 k.l, .int .i64 k.m, .slice A k.ps.length cap, .int .i64 k.base, .int .i64 k.last] 27)).drew wR := by (repeat (first | with_reducible (first | assumption | exact Below.refl _ _ | refine bel_alloc ?_ _ | refine bel_drew ?_ | refine bel_drewN ?_ _ | refine bel_set ?_ (by first | omega | (simp; done) | (simp; omega)) _ | refine bel_trans ?_ (by assumption)) | assumption | refine bel_trans ?_ (by assumption)))
  have HK2 := hid (HKN.out.drew.on hbR2)
  have B2 : Below w.heap.size w wR := by (repeat (first | with_reducible (first | assumption | exact Below.refl _ _ | refine bel_alloc ?_ _ | refine bel_drew ?_ | refine bel_drewN ?_ _ | refine bel_set ?_ (by first | omega | (simp; done) | (simp; omega)) _ | refine bel_trans ?_ (by assumption)) | assumption | refine bel_trans ?_ (by assumption)))
  clear hbR2 hS p0 p1 p2 p3 p4 p5
  obtain ⟨p0, p1, p2, p3, p4, p5⟩ := HK2.out.cells6
  go_wp2_with fail
  refine (HNF.out _ B2).mono ?_
  rintro e w3 ⟨hb3, fb, A3, cap3, nb, cap2, N, Lo, bm, n, rfl, hn3, hF3⟩
  have HF3 := hid hF3
  clear hF3
  go_wp2_with fail
  refine (HLg.out _ _ _ _ _ _ _ _ _ _ _ HF3.out).mono ?_
  rintro e w4 ⟨rfl, hb4⟩
  go_wp2
  go_ret2
  exact ⟨rfl, by (repeat (first | with_reducible (first | assumption | exact Below.refl _ _ | refine bel_alloc ?_ _ | refine bel_drew ?_ | refine bel_drewN ?_ _ | refine bel_set ?_ (by first | omega | (simp; done) | (simp; omega)) _ | refine bel_trans ?_ (by assumption)) | assumption | refine bel_trans ?_ (by assumption)))⟩

set_option maxHeartbeats 4000000 in
set_option maxRecDepth 100000 in
theorem c_sLongestWord_bad (k : Kn) (A : Option Addr) (cap L : Nat) (w : World) (h : PsAt w L A cap k.ps) (hL : L ≤ w.heap.size) (D : ByteArray) (hk : ¬ k.Ok) (hw : k.Wf) : Calls Try.prog 41 #[.agg #[.int .i64 k.o, .int .i64 k.l, .int .i64 k.m, .slice A k.ps.length cap, .int .i64 k.base, .int .i64 k.last], .string D] w fun e w' => e = .returned (.string ByteArray.empty) ∧ Below w.heap.size w w' := by
  have HV := hid (fun (v : World) (hb : Below w.heap.size w v) => c_sKnownValid_no k A cap L v (h.below hb hL) (Nat.le_trans hL hb.size) hk hw)
  clear h hk hw
  go_enter Try.func41, Try.ntmps41
  go_wp2_with fail
  refine (HV.out _ (by (repeat (first | with_reducible (first | assumption | exact Below.refl _ _ | refine bel_alloc ?_ _ | refine bel_drew ?_ | refine bel_drewN ?_ _ | refine bel_set ?_ (by first | omega | (simp; done) | (simp; omega)) _ | refine bel_trans ?_ (by assumption)) | assumption | refine bel_trans ?_ (by assumption))))).mono ?_
  rintro e w1 ⟨rfl, hb1⟩
  have hc1 := bcell hb1
  go_wp2
  go_ret
  exact ⟨rfl, by (repeat (first | with_reducible (first | assumption | exact Below.refl _ _ | refine bel_alloc ?_ _ | refine bel_drew ?_ | refine bel_drewN ?_ _ | refine bel_set ?_ (by first | omega | (simp; done) | (simp; omega)) _ | refine bel_trans ?_ (by assumption)) | assumption | refine bel_trans ?_ (by assumption)))⟩

set_option maxHeartbeats 4000000 in
set_option maxRecDepth 100000 in
theorem c_sLongestWord_no (k : Kn) (A : Option Addr) (cap L : Nat) (w : World) (h : PsAt w L A cap k.ps) (hL : L ≤ w.heap.size) (D : ByteArray) (hk : k.Ok) (hs : D.size ≤ 1048576) (hf : dataFits k.o k.l k.m D = false ∨ D.size = 0) (hw : k.Wf) : Calls Try.prog 41 #[.agg #[.int .i64 k.o, .int .i64 k.l, .int .i64 k.m, .slice A k.ps.length cap, .int .i64 k.base, .int .i64 k.last], .string D] w fun e w' => e = .returned (.string ByteArray.empty) ∧ Below w.heap.size w w' := by
  have HV := hid (fun (v : World) (hb : Below w.heap.size w v) => c_sKnownValid_yes k A cap L v (h.below hb hL) (Nat.le_trans hL hb.size) hk hw)
  have HD := hid (fun (v : World) => c_sDataFits k.o k.l k.m D v (by unfold maxLen; omega))
  have kN := Blk.new w 27 #[.int .i64 k.o, .int .i64 k.l, .int .i64 k.m, .slice A k.ps.length cap, .int .i64 k.base, .int .i64 k.last]
  by_cases h0 : D.size = 0
  · have e := empty_of h0
    subst e
    clear h hk hw HD
    go_enter Try.func41, Try.ntmps41
    go_wp2_with fail
    refine (HV.out _ (by (repeat (first | with_reducible (first | assumption | exact Below.refl _ _ | refine bel_alloc ?_ _ | refine bel_drew ?_ | refine bel_drewN ?_ _ | refine bel_set ?_ (by first | omega | (simp; done) | (simp; omega)) _ | refine bel_trans ?_ (by assumption)) | assumption | refine bel_trans ?_ (by assumption))))).mono ?_
    rintro e w1 ⟨rfl, hb1⟩
    have hc1 := bcell hb1
    go_wp2
    go_ret
    exact ⟨rfl, by (repeat (first | with_reducible (first | assumption | exact Below.refl _ _ | refine bel_alloc ?_ _ | refine bel_drew ?_ | refine bel_drewN ?_ _ | refine bel_set ?_ (by first | omega | (simp; done) | (simp; omega)) _ | refine bel_trans ?_ (by assumption)) | assumption | refine bel_trans ?_ (by assumption)))⟩
  · have he := not_empty (D := D) (by omega)
    have hf2 : dataFits k.o k.l k.m D = false := by rcases hf with hf | hf; exact hf; exact absurd hf h0
    simp only [hf2] at HD
    clear h hk hw hf hf2
    go_enter Try.func41, Try.ntmps41
    go_wp2_with fail
    refine (HV.out _ (by (repeat (first | with_reducible (first | assumption | exact Below.refl _ _ | refine bel_alloc ?_ _ | refine bel_drew ?_ | refine bel_drewN ?_ _ | refine bel_set ?_ (by first | omega | (simp; done) | (simp; omega)) _ | refine bel_trans ?_ (by assumption)) | assumption | refine bel_trans ?_ (by assumption))))).mono ?_
    rintro e w1 ⟨rfl, hb1⟩
    have hc1 := bcell hb1
    have hz1_0 : w.heap.size < w1.heap.size := (by have := hb1.size; first | omega | (simp at this; omega))
    go_wp2_with fail
    refine (HD.out _).mono ?_
    rintro e w2 ⟨rfl, hb2⟩
    have hc2 := bcell hb2
    go_wp2
    go_ret
    exact ⟨rfl, by (repeat (first | with_reducible (first | assumption | exact Below.refl _ _ | refine bel_alloc ?_ _ | refine bel_drew ?_ | refine bel_drewN ?_ _ | refine bel_set ?_ (by first | omega | (simp; done) | (simp; omega)) _ | refine bel_trans ?_ (by assumption)) | assumption | refine bel_trans ?_ (by assumption)))⟩

set_option maxHeartbeats 4000000 in
set_option maxRecDepth 100000 in
theorem c_sLongestWord_yes (k : Kn) (A : Option Addr) (cap L : Nat) (w : World) (h : PsAt w L A cap k.ps) (hL : L ≤ w.heap.size) (D : ByteArray) (hk : k.Ok) (hs : D.size ≤ 1048576) (hf : dataFits k.o k.l k.m D = true) (h0 : 0 < D.size) (hw : k.Wf) : Calls Try.prog 41 #[.agg #[.int .i64 k.o, .int .i64 k.l, .int .i64 k.m, .slice A k.ps.length cap, .int .i64 k.base, .int .i64 k.last], .string D] w fun e w' => e = .returned (.string (str (D.data.toList.take (k.lng D.data.toList)))) ∧ Below w.heap.size w w' := by
  have HV := hid (fun (v : World) (hb : Below w.heap.size w v) => c_sKnownValid_yes k A cap L v (h.below hb hL) (Nat.le_trans hL hb.size) hk hw)
  have HD := hid (fun (v : World) => c_sDataFits k.o k.l k.m D v (by unfold maxLen; omega))
  have kN := Blk.new w 27 #[.int .i64 k.o, .int .i64 k.l, .int .i64 k.m, .slice A k.ps.length cap, .int .i64 k.base, .int .i64 k.last]
  have he := not_empty h0
  have hl := fits_first h0 hf
  have HL := hid (fun (v : World) (hb : Below w.heap.size w v) => c_l2Longest k A cap L D v hk (h.below hb hL) (Nat.le_trans hL hb.size) h0 hs hl)
  simp only [hf] at HD
  obtain ⟨R, hR⟩ : ∃ R, R = str (D.data.toList.take (k.lng D.data.toList)) := ⟨_, rfl⟩
  rw [← hR] at HL ⊢
  clear h hk hw hf hl hR
  go_enter Try.func41, Try.ntmps41
  go_wp2_with fail
  refine (HV.out _ (by (repeat (first | with_reducible (first | assumption | exact Below.refl _ _ | refine bel_alloc ?_ _ | refine bel_drew ?_ | refine bel_drewN ?_ _ | refine bel_set ?_ (by first | omega | (simp; done) | (simp; omega)) _ | refine bel_trans ?_ (by assumption)) | assumption | refine bel_trans ?_ (by assumption))))).mono ?_
  rintro e w1 ⟨rfl, hb1⟩
  have hc1 := bcell hb1
  have hz1_0 : w.heap.size < w1.heap.size := (by have := hb1.size; first | omega | (simp at this; omega))
  go_wp2_with fail
  refine (HD.out _).mono ?_
  rintro e w2 ⟨rfl, hb2⟩
  have hc2 := bcell hb2
  have hz2_0 : w.heap.size < w2.heap.size := (by have := hb2.size; first | omega | (simp at this; omega))
  go_wp2_with fail
  refine (HL.out _ (by (repeat (first | with_reducible (first | assumption | exact Below.refl _ _ | refine bel_alloc ?_ _ | refine bel_drew ?_ | refine bel_drewN ?_ _ | refine bel_set ?_ (by first | omega | (simp; done) | (simp; omega)) _ | refine bel_trans ?_ (by assumption)) | assumption | refine bel_trans ?_ (by assumption))))).mono ?_
  rintro e w3 ⟨rfl, hb3⟩
  have hc3 := bcell hb3
  go_wp2
  go_ret
  exact ⟨rfl, by (repeat (first | with_reducible (first | assumption | exact Below.refl _ _ | refine bel_alloc ?_ _ | refine bel_drew ?_ | refine bel_drewN ?_ _ | refine bel_set ?_ (by first | omega | (simp; done) | (simp; omega)) _ | refine bel_trans ?_ (by assumption)) | assumption | refine bel_trans ?_ (by assumption)))⟩

set_option maxHeartbeats 4000000 in
set_option maxRecDepth 100000 in
theorem c_LongestWord_bad (k : Kn) (A : Option Addr) (cap L : Nat) (w : World) (h : PsAt w L A cap k.ps) (hL : L ≤ w.heap.size) (D : ByteArray) (hk : ¬ k.Ok) (hw : k.Wf) : Calls Try.prog 42 #[.agg #[.int .i64 k.o, .int .i64 k.l, .int .i64 k.m, .slice A k.ps.length cap, .int .i64 k.base, .int .i64 k.last], .string D] w fun e w' => e = .returned (.string ByteArray.empty) ∧ Below w.heap.size w w' := by
  have HV := hid (fun (v : World) (hb : Below w.heap.size w v) => c_KnownValid_no k A cap L v (h.below hb hL) (Nat.le_trans hL hb.size) hk hw)
  clear h hk hw
  go_enter Try.func42, Try.ntmps42
  go_wp2_with fail
  refine (HV.out _ (by (repeat (first | with_reducible (first | assumption | exact Below.refl _ _ | refine bel_alloc ?_ _ | refine bel_drew ?_ | refine bel_drewN ?_ _ | refine bel_set ?_ (by first | omega | (simp; done) | (simp; omega)) _ | refine bel_trans ?_ (by assumption)) | assumption | refine bel_trans ?_ (by assumption))))).mono ?_
  rintro e w1 ⟨rfl, hb1⟩
  have hc1 := bcell hb1
  go_wp2
  go_ret
  exact ⟨rfl, by (repeat (first | with_reducible (first | assumption | exact Below.refl _ _ | refine bel_alloc ?_ _ | refine bel_drew ?_ | refine bel_drewN ?_ _ | refine bel_set ?_ (by first | omega | (simp; done) | (simp; omega)) _ | refine bel_trans ?_ (by assumption)) | assumption | refine bel_trans ?_ (by assumption)))⟩

set_option maxHeartbeats 4000000 in
set_option maxRecDepth 100000 in
theorem c_LongestWord_no (k : Kn) (A : Option Addr) (cap L : Nat) (w : World) (h : PsAt w L A cap k.ps) (hL : L ≤ w.heap.size) (D : ByteArray) (hk : k.Ok) (hs : D.size ≤ 1048576) (hf : dataFits k.o k.l k.m D = false ∨ D.size = 0) (hw : k.Wf) : Calls Try.prog 42 #[.agg #[.int .i64 k.o, .int .i64 k.l, .int .i64 k.m, .slice A k.ps.length cap, .int .i64 k.base, .int .i64 k.last], .string D] w fun e w' => e = .returned (.string ByteArray.empty) ∧ Below w.heap.size w w' := by
  have HV := hid (fun (v : World) (hb : Below w.heap.size w v) => c_KnownValid_yes k A cap L v (h.below hb hL) (Nat.le_trans hL hb.size) hk hw)
  have HD := hid (fun (v : World) => c_DataFits k.o k.l k.m D v (by unfold maxLen; omega))
  have kN := Blk.new w 27 #[.int .i64 k.o, .int .i64 k.l, .int .i64 k.m, .slice A k.ps.length cap, .int .i64 k.base, .int .i64 k.last]
  cases hq : dataFits k.o k.l k.m D with
  | false =>
    simp only [hq] at HD
    clear h hk hw hf hq
    go_enter Try.func42, Try.ntmps42
    go_wp2_with fail
    refine (HV.out _ (by (repeat (first | with_reducible (first | assumption | exact Below.refl _ _ | refine bel_alloc ?_ _ | refine bel_drew ?_ | refine bel_drewN ?_ _ | refine bel_set ?_ (by first | omega | (simp; done) | (simp; omega)) _ | refine bel_trans ?_ (by assumption)) | assumption | refine bel_trans ?_ (by assumption))))).mono ?_
    rintro e w1 ⟨rfl, hb1⟩
    have hc1 := bcell hb1
    have hz1_0 : w.heap.size < w1.heap.size := (by have := hb1.size; first | omega | (simp at this; omega))
    go_wp2_with fail
    refine (HD.out _).mono ?_
    rintro e w2 ⟨rfl, hb2⟩
    have hc2 := bcell hb2
    go_wp2
    go_ret
    exact ⟨rfl, by (repeat (first | with_reducible (first | assumption | exact Below.refl _ _ | refine bel_alloc ?_ _ | refine bel_drew ?_ | refine bel_drewN ?_ _ | refine bel_set ?_ (by first | omega | (simp; done) | (simp; omega)) _ | refine bel_trans ?_ (by assumption)) | assumption | refine bel_trans ?_ (by assumption)))⟩
  | true =>
    have h0 : D.size = 0 := by rcases hf with hf | hf; (rw [hq] at hf; cases hf); exact hf
    have e := empty_of h0
    subst e
    simp only [hq] at HD
    clear h hk hw hf hq
    go_enter Try.func42, Try.ntmps42
    go_wp2_with fail
    refine (HV.out _ (by (repeat (first | with_reducible (first | assumption | exact Below.refl _ _ | refine bel_alloc ?_ _ | refine bel_drew ?_ | refine bel_drewN ?_ _ | refine bel_set ?_ (by first | omega | (simp; done) | (simp; omega)) _ | refine bel_trans ?_ (by assumption)) | assumption | refine bel_trans ?_ (by assumption))))).mono ?_
    rintro e w1 ⟨rfl, hb1⟩
    have hc1 := bcell hb1
    have hz1_0 : w.heap.size < w1.heap.size := (by have := hb1.size; first | omega | (simp at this; omega))
    go_wp2_with fail
    refine (HD.out _).mono ?_
    rintro e w2 ⟨rfl, hb2⟩
    have hc2 := bcell hb2
    go_wp2
    go_ret
    exact ⟨rfl, by (repeat (first | with_reducible (first | assumption | exact Below.refl _ _ | refine bel_alloc ?_ _ | refine bel_drew ?_ | refine bel_drewN ?_ _ | refine bel_set ?_ (by first | omega | (simp; done) | (simp; omega)) _ | refine bel_trans ?_ (by assumption)) | assumption | refine bel_trans ?_ (by assumption)))⟩

set_option maxHeartbeats 4000000 in
set_option maxRecDepth 100000 in
theorem c_LongestWord_yes (k : Kn) (A : Option Addr) (cap L : Nat) (w : World) (h : PsAt w L A cap k.ps) (hL : L ≤ w.heap.size) (D : ByteArray) (hk : k.Ok) (hs : D.size ≤ 1048576) (hf : dataFits k.o k.l k.m D = true) (h0 : 0 < D.size) (hw : k.Wf) : Calls Try.prog 42 #[.agg #[.int .i64 k.o, .int .i64 k.l, .int .i64 k.m, .slice A k.ps.length cap, .int .i64 k.base, .int .i64 k.last], .string D] w fun e w' => e = .returned (.string (str (D.data.toList.take (k.lng D.data.toList)))) ∧ Below w.heap.size w w' := by
  have HV := hid (fun (v : World) (hb : Below w.heap.size w v) => c_KnownValid_yes k A cap L v (h.below hb hL) (Nat.le_trans hL hb.size) hk hw)
  have HD := hid (fun (v : World) => c_DataFits k.o k.l k.m D v (by unfold maxLen; omega))
  have kN := Blk.new w 27 #[.int .i64 k.o, .int .i64 k.l, .int .i64 k.m, .slice A k.ps.length cap, .int .i64 k.base, .int .i64 k.last]
  have he := not_empty h0
  have hl := fits_first h0 hf
  have hla := (hk.lng_all h0 hl).2.2
  have HNF := hid (fun (v : World) (hb : Below w.heap.size w v) => c_newFinder k A cap L v hk (h.below hb hL) (Nat.le_trans hL hb.size))
  have HOk := hid hk
  have HLg := hid (fun (L fb : Nat) (A : Option Addr) (cap nb cap2 : Nat) (N : Nat → Nat) (Lo : Nat → Option Nat) (bm n : Nat) (v : World) (hF : FQ L fb k A cap nb cap2 k.ps N Lo bm n v) => c_longest L fb k A cap nb cap2 N Lo bm n D v HOk.out hF h0 hs hl)
  obtain ⟨g, hg⟩ : ∃ g, g = k.lng D.data.toList := ⟨_, rfl⟩
  obtain ⟨F, hF⟩ : ∃ F, F = k.find (D.data.toList.take g) := ⟨_, rfl⟩
  simp only [← hg, ← hF] at HLg
  simp only [← hg] at hla
  have HRes := hid (show D.extract 0 g = str (D.data.toList.take (k.lng D.data.toList)) by rw [← hg]; exact str_cut D g)
  simp only [hf] at HD
  rw [← HRes.out]
  have HKN := hid kN
  clear h hk hw hf hl hF hg
  go_enter Try.func42, Try.ntmps42
  go_wp2_with fail
  refine (HV.out _ (by (repeat (first | with_reducible (first | assumption | exact Below.refl _ _ | refine bel_alloc ?_ _ | refine bel_drew ?_ | refine bel_drewN ?_ _ | refine bel_set ?_ (by first | omega | (simp; done) | (simp; omega)) _ | refine bel_trans ?_ (by assumption)) | assumption | refine bel_trans ?_ (by assumption))))).mono ?_
  rintro e w1 ⟨rfl, hb1⟩
  have hc1 := bcell hb1
  have hz1_0 : w.heap.size < w1.heap.size := (by have := hb1.size; first | omega | (simp at this; omega))
  go_wp2_with fail
  refine (HD.out _).mono ?_
  rintro e w2 ⟨rfl, hb2⟩
  have hc2 := bcell hb2
  have hz2_0 : w.heap.size < w2.heap.size := (by have := hb2.size; first | omega | (simp at this; omega))
  go_wp2_with fail
  refine (HNF.out _ (by (repeat (first | with_reducible (first | assumption | exact Below.refl _ _ | refine bel_alloc ?_ _ | refine bel_drew ?_ | refine bel_drewN ?_ _ | refine bel_set ?_ (by first | omega | (simp; done) | (simp; omega)) _ | refine bel_trans ?_ (by assumption)) | assumption | refine bel_trans ?_ (by assumption))))).mono ?_
  rintro e w3 ⟨hb3, fb, A3, cap3, nb, cap2, N, Lo, bm, n, rfl, hn3, hF3⟩
  have HF3 := hid hF3
  clear hF3
  go_wp2_with fail
  refine (HLg.out _ _ _ _ _ _ _ _ _ _ _ HF3.out).mono ?_
  rintro e w4 ⟨rfl, hb4⟩
  go_wp2
  go_ret
  exact ⟨rfl, by (repeat (first | with_reducible (first | assumption | exact Below.refl _ _ | refine bel_alloc ?_ _ | refine bel_drew ?_ | refine bel_drewN ?_ _ | refine bel_set ?_ (by first | omega | (simp; done) | (simp; omega)) _ | refine bel_trans ?_ (by assumption)) | assumption | refine bel_trans ?_ (by assumption)))⟩

theorem walk_FnExactCodeOfWord (k : Kn) (A : Option Addr) (cap : Nat) (s : ByteArray) (w : World) (hp : PsAt w w.heap.size A cap k.ps) (hin : k.In) (h_s : s.size ≤ maxLen) :
    Calls Try.prog 4 #[.agg #[.int .i64 k.o, .int .i64 k.l, .int .i64 k.m, .slice A k.ps.length cap, .int .i64 k.base, .int .i64 k.last], .string s] w fun e w' => e = .returned (.bool true) ∧ Below w.heap.size w w' := by
  by_cases big_s : 1048576 < s.size
  · unfold maxLen at *
    go_enter Try.func4, Try.ntmps4
    go_wp2_with fail
    go_ret
    exact ⟨rfl, by (repeat (first | with_reducible (first | assumption | exact Below.refl _ _ | refine bel_alloc ?_ _ | refine bel_drew ?_ | refine bel_drewN ?_ _ | refine bel_set ?_ (by first | omega | (simp; done) | (simp; omega)) _ | refine bel_trans ?_ (by assumption)) | assumption | refine bel_trans ?_ (by assumption)))⟩
  by_cases hn : k.ps.length ≤ 1048576
  · have hw := hin.wf hn
    obtain ⟨n, b, HS, HI⟩ : ∃ (n : Int) (b : Bool), (∀ (A : Option Addr) (cap L : Nat) (w : World), PsAt w L A cap k.ps → L ≤ w.heap.size → Calls Try.prog 33 #[.agg #[.int .i64 k.o, .int .i64 k.l, .int .i64 k.m, .slice A k.ps.length cap, .int .i64 k.base, .int .i64 k.last], .string s] w fun e w' => e = .returned (.tuple #[.int .i64 n, .bool b]) ∧ Below w.heap.size w w') ∧ (∀ (A : Option Addr) (cap L : Nat) (w : World), PsAt w L A cap k.ps → L ≤ w.heap.size → Calls Try.prog 35 #[.agg #[.int .i64 k.o, .int .i64 k.l, .int .i64 k.m, .slice A k.ps.length cap, .int .i64 k.base, .int .i64 k.last], .string s] w fun e w' => e = .returned (.tuple #[.int .i64 n, .bool b]) ∧ Below w.heap.size w w') := by
      have hs : s.size ≤ 1048576 := by omega
      by_cases hk : k.Ok
      · by_cases hf : k.find s.data.toList < 0
        · exact ⟨0, false, fun A cap L w h hL => c_sCodeOfWord_no k A cap L w h hL s hk hs hf hw, fun A cap L w h hL => c_CodeOfWord_no k A cap L w h hL s hk hs hf hw⟩
        · exact ⟨k.find s.data.toList, true, fun A cap L w h hL => c_sCodeOfWord_yes k A cap L w h hL s hk hs (by omega) hw, fun A cap L w h hL => c_CodeOfWord_yes k A cap L w h hL s hk hs (by omega) hw⟩
      · exact ⟨0, false, fun A cap L w h hL => c_sCodeOfWord_bad k A cap L w h hL s hk hw, fun A cap L w h hL => c_CodeOfWord_bad k A cap L w h hL s hk hw⟩
    have HP := hid hp
    have HS := hid HS
    have HI := hid HI
    clear hp hin hw
    have kN0 := Blk.new w 45 #[.int .i64 k.o, .int .i64 k.l, .int .i64 k.m, .slice A k.ps.length cap, .int .i64 k.base, .int .i64 k.last]
    go_enter Try.func4, Try.ntmps4
    go_wp2_with fail
    refine (c_szKnown k A cap _ hn).mono ?_
    rintro e w1 ⟨rfl, hb1⟩
    have hc1 := bcell hb1
    have hz1_0 : w.heap.size < w1.heap.size := (by have := hb1.size; first | omega | (simp at this; omega))
    have kN1 := kN0.on hb1
    have hB1 : Below w.heap.size w w1 := by (repeat (first | with_reducible (first | assumption | exact Below.refl _ _ | refine bel_alloc ?_ _ | refine bel_drew ?_ | refine bel_drewN ?_ _ | refine bel_set ?_ (by first | omega | (simp; done) | (simp; omega)) _ | refine bel_trans ?_ (by assumption)) | assumption | refine bel_trans ?_ (by assumption)))
    clear hb1 hc1
    obtain ⟨p0, p1, p2, p3, p4, p5⟩ := kN1.cells6
    go_wp2_with fail
    refine (c_toKnown k A cap w.heap.size _ (HP.out.below hB1 (Nat.le_refl _)) (by omega) hn).mono ?_
    rintro e w2 ⟨g2, rfl, hown2, hb2⟩
    go_wp2_with fail
    refine (HS.out _ _ _ _ (own_at hown2) (Nat.le_refl _)).mono ?_
    rintro e w3 ⟨rfl, hb3⟩
    have kN3 := (kN1.on hb2).on hb3
    have hB3 : Below w.heap.size w w3 := by (repeat (first | with_reducible (first | assumption | exact Below.refl _ _ | refine bel_alloc ?_ _ | refine bel_drew ?_ | refine bel_drewN ?_ _ | refine bel_set ?_ (by first | omega | (simp; done) | (simp; omega)) _ | refine bel_trans ?_ (by assumption)) | assumption | refine bel_trans ?_ (by assumption)))
    have hz3 : w.heap.size < w3.heap.size := kN3.lt
    clear hb2 hb3 hown2 p0 p1 p2 p3 p4 p5
    obtain ⟨p0, p1, p2, p3, p4, p5⟩ := kN3.cells6
    go_wp2_with fail
    refine (c_toKnown k A cap w.heap.size _ (HP.out.below hB3 (Nat.le_refl _)) (by omega) hn).mono ?_
    rintro e w4 ⟨g4, rfl, hown4, hb4⟩
    have kN4 := kN3.on hb4
    have hB4 : Below w.heap.size w w4 := by (repeat (first | with_reducible (first | assumption | exact Below.refl _ _ | refine bel_alloc ?_ _ | refine bel_drew ?_ | refine bel_drewN ?_ _ | refine bel_set ?_ (by first | omega | (simp; done) | (simp; omega)) _ | refine bel_trans ?_ (by assumption)) | assumption | refine bel_trans ?_ (by assumption)))
    have hz4 : w.heap.size < w4.heap.size := kN4.lt
    have kX4 := Blk.new w4 27 #[.int .i64 k.o, .int .i64 k.l, .int .i64 k.m, .slice (some ⟨g4, 0, none⟩) k.ps.length k.ps.length, .int .i64 k.base, .int .i64 k.last]
    clear hb4 p0 p1 p2 p3 p4 p5
    go_wp2_with fail
    refine (HI.out _ _ _ _ ((own_at hown4).alloc (Nat.le_refl _) _) (by simp)).mono ?_
    rintro e w5 ⟨rfl, hb5⟩
    have kN5 := (kN4.alloc (.cells #[.int .i64 k.o, .int .i64 k.l, .int .i64 k.m, .slice (some ⟨g4, 0, none⟩) k.ps.length k.ps.length, .int .i64 k.base, .int .i64 k.last] 27)).on hb5
    have kX5 := kX4.on hb5
    have hB5 : Below w4.heap.size w4 w5 := by (repeat (first | with_reducible (first | assumption | exact Below.refl _ _ | refine bel_alloc ?_ _ | refine bel_drew ?_ | refine bel_drewN ?_ _ | refine bel_set ?_ (by first | omega | (simp; done) | (simp; omega)) _ | refine bel_trans ?_ (by assumption)) | assumption | refine bel_trans ?_ (by assumption)))
    clear hb5
    go_wp2_with fail
    have hS := held12 kN5.cells6 kX5.cells6 hB5
    clear kN0 kN1 kN3 kN4 kX4 kN5 kX5
    refine wp_region_noPanic ?_
    refine wp_region_held_drew (S := (fun v => v.cell? ⟨w.heap.size, 0, none⟩ = some (.int .i64 k.o) ∧ v.cell? ⟨w.heap.size, 1, none⟩ = some (.int .i64 k.l) ∧ v.cell? ⟨w.heap.size, 2, none⟩ = some (.int .i64 k.m) ∧ v.cell? ⟨w.heap.size, 3, none⟩ = some (.slice A k.ps.length cap) ∧ v.cell? ⟨w.heap.size, 4, none⟩ = some (.int .i64 k.base) ∧ v.cell? ⟨w.heap.size, 5, none⟩ = some (.int .i64 k.last) ∧ v.cell? ⟨w4.heap.size, 0, none⟩ = some (.int .i64 k.o) ∧ v.cell? ⟨w4.heap.size, 1, none⟩ = some (.int .i64 k.l) ∧ v.cell? ⟨w4.heap.size, 2, none⟩ = some (.int .i64 k.m) ∧ v.cell? ⟨w4.heap.size, 3, none⟩ = some (.slice (some ⟨g4, 0, none⟩) k.ps.length k.ps.length) ∧ v.cell? ⟨w4.heap.size, 4, none⟩ = some (.int .i64 k.base) ∧ v.cell? ⟨w4.heap.size, 5, none⟩ = some (.int .i64 k.last) ∧ Below w4.heap.size w4 v)) (by kernel_rfl) (s12_drew hS) (fun hHeld => ?_)
    refine tk 0 ?_
    refine tk 1 ?_
    refine wpAnyH_ready (rs := [2]) (by kernel_rfl) (by simp) ?_
    refine AllReadyH.cons (o := ?or6_2) ?ir6_2 (fun K hK => ?sr6_2) AllReadyH.nil
    case ir6_2 => (simp only [List.getElem?_toArray, List.getElem?_cons_succ, List.getElem?_cons_zero]; rfl)
    (first | (go_simp; (first | (go_at_call 34; refine (c_toKnown k A cap w.heap.size _ (HP.out.below (bel_trans hB4 hHeld.2.2.2.2.2.2.2.2.2.2.2.2) (Nat.le_refl _)) (bel_trans hB4 hHeld.2.2.2.2.2.2.2.2.2.2.2.2).size hn).mono ?_; rintro e w6 ⟨g6, rfl, hown6, hb6⟩) | (go_at_call 36; refine (c_eqKnown k _ _ _ _ w4.heap.size _ _ ((own_at hown4).below hHeld.2.2.2.2.2.2.2.2.2.2.2.2 (Nat.le_refl _)) (own_at hown6) (hHeld.2.2.2.2.2.2.2.2.2.2.2.2).size (Nat.le_refl _) hn).mono ?_; rintro e w7 ⟨rfl, hb7⟩) | skip)))
    refine hK.out _ _ ?kr6_2 (fun hHeld => ?_)
    case kr6_2 => (try dsimp only); (first | with_reducible assumption | exact s12_bel (by assumption) (by assumption) | assumption | exact s12_alloc (by assumption) _)
    clear hK K
    try simp only [Act.put, List.setIfInBounds_toArray, List.set_cons_zero, List.set_cons_succ]
    refine wpAnyH_ready (rs := [3]) (by kernel_rfl) (by simp) ?_
    refine AllReadyH.cons (o := ?or6_3) ?ir6_3 (fun K hK => ?sr6_3) AllReadyH.nil
    case ir6_3 => (simp only [List.getElem?_toArray, List.getElem?_cons_succ, List.getElem?_cons_zero]; rfl)
    (first | (go_simp; (first | (go_at_call 34; refine (c_toKnown k A cap w.heap.size _ (HP.out.below (bel_trans hB4 hHeld.2.2.2.2.2.2.2.2.2.2.2.2) (Nat.le_refl _)) (bel_trans hB4 hHeld.2.2.2.2.2.2.2.2.2.2.2.2).size hn).mono ?_; rintro e w6 ⟨g6, rfl, hown6, hb6⟩) | (go_at_call 36; refine (c_eqKnown k _ _ _ _ w4.heap.size _ _ ((own_at hown4).below hHeld.2.2.2.2.2.2.2.2.2.2.2.2 (Nat.le_refl _)) (own_at hown6) (hHeld.2.2.2.2.2.2.2.2.2.2.2.2).size (Nat.le_refl _) hn).mono ?_; rintro e w7 ⟨rfl, hb7⟩) | skip)))
    refine hK.out _ _ ?kr6_3 (fun hHeld => ?_)
    case kr6_3 => (try dsimp only); (first | with_reducible assumption | exact s12_bel (by assumption) (by assumption) | assumption | exact s12_alloc (by assumption) _)
    clear hK K
    try simp only [Act.put, List.setIfInBounds_toArray, List.set_cons_zero, List.set_cons_succ]
    refine tk 4 ?_
    refine wpAnyH_done (by kernel_rfl) ?_ _
    refine NoPanic.normal ?_
    go_wp2
    go_ret
    exact ⟨rfl, by (repeat (first | with_reducible (first | assumption | exact Below.refl _ _ | refine bel_alloc ?_ _ | refine bel_drew ?_ | refine bel_drewN ?_ _ | refine bel_set ?_ (by first | omega | (simp; done) | (simp; omega)) _ | refine bel_trans ?_ (by assumption)) | assumption | refine bel_trans ?_ (by assumption)))⟩
  · have hb := hp.1
    have hcm := hp.2.1
    go_enter Try.func4, Try.ntmps4
    go_wp2_with fail
    refine (c_szKnown_big k A cap _ (by omega) (by omega)).mono ?_
    rintro e w1 ⟨rfl, hb1⟩
    have hc1 := bcell hb1
    have hz1_0 : w.heap.size < w1.heap.size := (by have := hb1.size; first | omega | (simp at this; omega))
    go_wp2
    go_ret
    exact ⟨rfl, by (repeat (first | with_reducible (first | assumption | exact Below.refl _ _ | refine bel_alloc ?_ _ | refine bel_drew ?_ | refine bel_drewN ?_ _ | refine bel_set ?_ (by first | omega | (simp; done) | (simp; omega)) _ | refine bel_trans ?_ (by assumption)) | assumption | refine bel_trans ?_ (by assumption)))⟩

theorem walk_FnExactLongestWord (k : Kn) (A : Option Addr) (cap : Nat) (s : ByteArray) (w : World) (hp : PsAt w w.heap.size A cap k.ps) (hin : k.In) (h_s : s.size ≤ maxLen) :
    Calls Try.prog 6 #[.agg #[.int .i64 k.o, .int .i64 k.l, .int .i64 k.m, .slice A k.ps.length cap, .int .i64 k.base, .int .i64 k.last], .string s] w fun e w' => e = .returned (.bool true) ∧ Below w.heap.size w w' := by
  by_cases big_s : 1048576 < s.size
  · unfold maxLen at *
    go_enter Try.func6, Try.ntmps6
    go_wp2_with fail
    go_ret
    exact ⟨rfl, by (repeat (first | with_reducible (first | assumption | exact Below.refl _ _ | refine bel_alloc ?_ _ | refine bel_drew ?_ | refine bel_drewN ?_ _ | refine bel_set ?_ (by first | omega | (simp; done) | (simp; omega)) _ | refine bel_trans ?_ (by assumption)) | assumption | refine bel_trans ?_ (by assumption)))⟩
  by_cases hn : k.ps.length ≤ 1048576
  · have hw := hin.wf hn
    obtain ⟨r, HS, HI⟩ : ∃ (r : ByteArray), (∀ (A : Option Addr) (cap L : Nat) (w : World), PsAt w L A cap k.ps → L ≤ w.heap.size → Calls Try.prog 41 #[.agg #[.int .i64 k.o, .int .i64 k.l, .int .i64 k.m, .slice A k.ps.length cap, .int .i64 k.base, .int .i64 k.last], .string s] w fun e w' => e = .returned (.string r) ∧ Below w.heap.size w w') ∧ (∀ (A : Option Addr) (cap L : Nat) (w : World), PsAt w L A cap k.ps → L ≤ w.heap.size → Calls Try.prog 42 #[.agg #[.int .i64 k.o, .int .i64 k.l, .int .i64 k.m, .slice A k.ps.length cap, .int .i64 k.base, .int .i64 k.last], .string s] w fun e w' => e = .returned (.string r) ∧ Below w.heap.size w w') := by
      have hs : s.size ≤ 1048576 := by omega
      by_cases hk : k.Ok
      · by_cases hf : dataFits k.o k.l k.m s = true ∧ 0 < s.size
        · exact ⟨str (s.data.toList.take (k.lng s.data.toList)), fun A cap L w h hL => c_sLongestWord_yes k A cap L w h hL s hk hs hf.1 hf.2 hw, fun A cap L w h hL => c_LongestWord_yes k A cap L w h hL s hk hs hf.1 hf.2 hw⟩
        · have hf2 : dataFits k.o k.l k.m s = false ∨ s.size = 0 := by
            cases hq : dataFits k.o k.l k.m s with
            | false => exact Or.inl rfl
            | true => exact Or.inr (by rcases Nat.eq_zero_or_pos s.size with h | h; exact h; exact absurd ⟨hq, h⟩ hf)
          exact ⟨ByteArray.empty, fun A cap L w h hL => c_sLongestWord_no k A cap L w h hL s hk hs hf2 hw, fun A cap L w h hL => c_LongestWord_no k A cap L w h hL s hk hs hf2 hw⟩
      · exact ⟨ByteArray.empty, fun A cap L w h hL => c_sLongestWord_bad k A cap L w h hL s hk hw, fun A cap L w h hL => c_LongestWord_bad k A cap L w h hL s hk hw⟩
    have HP := hid hp
    have HS := hid HS
    have HI := hid HI
    clear hp hin hw
    have kN0 := Blk.new w 45 #[.int .i64 k.o, .int .i64 k.l, .int .i64 k.m, .slice A k.ps.length cap, .int .i64 k.base, .int .i64 k.last]
    go_enter Try.func6, Try.ntmps6
    go_wp2_with fail
    refine (c_szKnown k A cap _ hn).mono ?_
    rintro e w1 ⟨rfl, hb1⟩
    have hc1 := bcell hb1
    have hz1_0 : w.heap.size < w1.heap.size := (by have := hb1.size; first | omega | (simp at this; omega))
    have kN1 := kN0.on hb1
    have hB1 : Below w.heap.size w w1 := by (repeat (first | with_reducible (first | assumption | exact Below.refl _ _ | refine bel_alloc ?_ _ | refine bel_drew ?_ | refine bel_drewN ?_ _ | refine bel_set ?_ (by first | omega | (simp; done) | (simp; omega)) _ | refine bel_trans ?_ (by assumption)) | assumption | refine bel_trans ?_ (by assumption)))
    clear hb1 hc1
    obtain ⟨p0, p1, p2, p3, p4, p5⟩ := kN1.cells6
    go_wp2_with fail
    refine (c_toKnown k A cap w.heap.size _ (HP.out.below hB1 (Nat.le_refl _)) (by omega) hn).mono ?_
    rintro e w2 ⟨g2, rfl, hown2, hb2⟩
    go_wp2_with fail
    refine (HS.out _ _ _ _ (own_at hown2) (Nat.le_refl _)).mono ?_
    rintro e w3 ⟨rfl, hb3⟩
    have kN3 := (kN1.on hb2).on hb3
    have hB3 : Below w.heap.size w w3 := by (repeat (first | with_reducible (first | assumption | exact Below.refl _ _ | refine bel_alloc ?_ _ | refine bel_drew ?_ | refine bel_drewN ?_ _ | refine bel_set ?_ (by first | omega | (simp; done) | (simp; omega)) _ | refine bel_trans ?_ (by assumption)) | assumption | refine bel_trans ?_ (by assumption)))
    have hz3 : w.heap.size < w3.heap.size := kN3.lt
    clear hb2 hb3 hown2 p0 p1 p2 p3 p4 p5
    obtain ⟨p0, p1, p2, p3, p4, p5⟩ := kN3.cells6
    go_wp2_with fail
    refine (c_toKnown k A cap w.heap.size _ (HP.out.below hB3 (Nat.le_refl _)) (by omega) hn).mono ?_
    rintro e w4 ⟨g4, rfl, hown4, hb4⟩
    have kN4 := kN3.on hb4
    have hB4 : Below w.heap.size w w4 := by (repeat (first | with_reducible (first | assumption | exact Below.refl _ _ | refine bel_alloc ?_ _ | refine bel_drew ?_ | refine bel_drewN ?_ _ | refine bel_set ?_ (by first | omega | (simp; done) | (simp; omega)) _ | refine bel_trans ?_ (by assumption)) | assumption | refine bel_trans ?_ (by assumption)))
    have hz4 : w.heap.size < w4.heap.size := kN4.lt
    have kX4 := Blk.new w4 27 #[.int .i64 k.o, .int .i64 k.l, .int .i64 k.m, .slice (some ⟨g4, 0, none⟩) k.ps.length k.ps.length, .int .i64 k.base, .int .i64 k.last]
    clear hb4 p0 p1 p2 p3 p4 p5
    go_wp2_with fail
    refine (HI.out _ _ _ _ ((own_at hown4).alloc (Nat.le_refl _) _) (by simp)).mono ?_
    rintro e w5 ⟨rfl, hb5⟩
    have kN5 := (kN4.alloc (.cells #[.int .i64 k.o, .int .i64 k.l, .int .i64 k.m, .slice (some ⟨g4, 0, none⟩) k.ps.length k.ps.length, .int .i64 k.base, .int .i64 k.last] 27)).on hb5
    have kX5 := kX4.on hb5
    have hB5 : Below w4.heap.size w4 w5 := by (repeat (first | with_reducible (first | assumption | exact Below.refl _ _ | refine bel_alloc ?_ _ | refine bel_drew ?_ | refine bel_drewN ?_ _ | refine bel_set ?_ (by first | omega | (simp; done) | (simp; omega)) _ | refine bel_trans ?_ (by assumption)) | assumption | refine bel_trans ?_ (by assumption)))
    clear hb5
    go_wp2_with fail
    have hS := held12 kN5.cells6 kX5.cells6 hB5
    clear kN0 kN1 kN3 kN4 kX4 kN5 kX5
    refine wp_region_noPanic ?_
    refine wp_region_held_drew (S := (fun v => v.cell? ⟨w.heap.size, 0, none⟩ = some (.int .i64 k.o) ∧ v.cell? ⟨w.heap.size, 1, none⟩ = some (.int .i64 k.l) ∧ v.cell? ⟨w.heap.size, 2, none⟩ = some (.int .i64 k.m) ∧ v.cell? ⟨w.heap.size, 3, none⟩ = some (.slice A k.ps.length cap) ∧ v.cell? ⟨w.heap.size, 4, none⟩ = some (.int .i64 k.base) ∧ v.cell? ⟨w.heap.size, 5, none⟩ = some (.int .i64 k.last) ∧ v.cell? ⟨w4.heap.size, 0, none⟩ = some (.int .i64 k.o) ∧ v.cell? ⟨w4.heap.size, 1, none⟩ = some (.int .i64 k.l) ∧ v.cell? ⟨w4.heap.size, 2, none⟩ = some (.int .i64 k.m) ∧ v.cell? ⟨w4.heap.size, 3, none⟩ = some (.slice (some ⟨g4, 0, none⟩) k.ps.length k.ps.length) ∧ v.cell? ⟨w4.heap.size, 4, none⟩ = some (.int .i64 k.base) ∧ v.cell? ⟨w4.heap.size, 5, none⟩ = some (.int .i64 k.last) ∧ Below w4.heap.size w4 v)) (by kernel_rfl) (s12_drew hS) (fun hHeld => ?_)
    refine tk 0 ?_
    refine tk 1 ?_
    refine wpAnyH_ready (rs := [2]) (by kernel_rfl) (by simp) ?_
    refine AllReadyH.cons (o := ?or7_2) ?ir7_2 (fun K hK => ?sr7_2) AllReadyH.nil
    case ir7_2 => (simp only [List.getElem?_toArray, List.getElem?_cons_succ, List.getElem?_cons_zero]; rfl)
    (first | (go_simp; (first | (go_at_call 34; refine (c_toKnown k A cap w.heap.size _ (HP.out.below (bel_trans hB4 hHeld.2.2.2.2.2.2.2.2.2.2.2.2) (Nat.le_refl _)) (bel_trans hB4 hHeld.2.2.2.2.2.2.2.2.2.2.2.2).size hn).mono ?_; rintro e w6 ⟨g6, rfl, hown6, hb6⟩) | (go_at_call 36; refine (c_eqKnown k _ _ _ _ w4.heap.size _ _ ((own_at hown4).below hHeld.2.2.2.2.2.2.2.2.2.2.2.2 (Nat.le_refl _)) (own_at hown6) (hHeld.2.2.2.2.2.2.2.2.2.2.2.2).size (Nat.le_refl _) hn).mono ?_; rintro e w7 ⟨rfl, hb7⟩) | skip)))
    refine hK.out _ _ ?kr7_2 (fun hHeld => ?_)
    case kr7_2 => (try dsimp only); (first | with_reducible assumption | exact s12_bel (by assumption) (by assumption) | assumption | exact s12_alloc (by assumption) _)
    clear hK K
    try simp only [Act.put, List.setIfInBounds_toArray, List.set_cons_zero, List.set_cons_succ]
    refine wpAnyH_ready (rs := [3]) (by kernel_rfl) (by simp) ?_
    refine AllReadyH.cons (o := ?or7_3) ?ir7_3 (fun K hK => ?sr7_3) AllReadyH.nil
    case ir7_3 => (simp only [List.getElem?_toArray, List.getElem?_cons_succ, List.getElem?_cons_zero]; rfl)
    (first | (go_simp; (first | (go_at_call 34; refine (c_toKnown k A cap w.heap.size _ (HP.out.below (bel_trans hB4 hHeld.2.2.2.2.2.2.2.2.2.2.2.2) (Nat.le_refl _)) (bel_trans hB4 hHeld.2.2.2.2.2.2.2.2.2.2.2.2).size hn).mono ?_; rintro e w6 ⟨g6, rfl, hown6, hb6⟩) | (go_at_call 36; refine (c_eqKnown k _ _ _ _ w4.heap.size _ _ ((own_at hown4).below hHeld.2.2.2.2.2.2.2.2.2.2.2.2 (Nat.le_refl _)) (own_at hown6) (hHeld.2.2.2.2.2.2.2.2.2.2.2.2).size (Nat.le_refl _) hn).mono ?_; rintro e w7 ⟨rfl, hb7⟩) | skip)))
    refine hK.out _ _ ?kr7_3 (fun hHeld => ?_)
    case kr7_3 => (try dsimp only); (first | with_reducible assumption | exact s12_bel (by assumption) (by assumption) | assumption | exact s12_alloc (by assumption) _)
    clear hK K
    try simp only [Act.put, List.setIfInBounds_toArray, List.set_cons_zero, List.set_cons_succ]
    refine tk 4 ?_
    refine wpAnyH_done (by kernel_rfl) ?_ _
    refine NoPanic.normal ?_
    go_wp2
    go_ret
    exact ⟨rfl, by (repeat (first | with_reducible (first | assumption | exact Below.refl _ _ | refine bel_alloc ?_ _ | refine bel_drew ?_ | refine bel_drewN ?_ _ | refine bel_set ?_ (by first | omega | (simp; done) | (simp; omega)) _ | refine bel_trans ?_ (by assumption)) | assumption | refine bel_trans ?_ (by assumption)))⟩
  · have hb := hp.1
    have hcm := hp.2.1
    go_enter Try.func6, Try.ntmps6
    go_wp2_with fail
    refine (c_szKnown_big k A cap _ (by omega) (by omega)).mono ?_
    rintro e w1 ⟨rfl, hb1⟩
    have hc1 := bcell hb1
    have hz1_0 : w.heap.size < w1.heap.size := (by have := hb1.size; first | omega | (simp at this; omega))
    go_wp2
    go_ret
    exact ⟨rfl, by (repeat (first | with_reducible (first | assumption | exact Below.refl _ _ | refine bel_alloc ?_ _ | refine bel_drew ?_ | refine bel_drewN ?_ _ | refine bel_set ?_ (by first | omega | (simp; done) | (simp; omega)) _ | refine bel_trans ?_ (by assumption)) | assumption | refine bel_trans ?_ (by assumption)))⟩
end Go.Proofs.Ytblmifbpoopbdaa
