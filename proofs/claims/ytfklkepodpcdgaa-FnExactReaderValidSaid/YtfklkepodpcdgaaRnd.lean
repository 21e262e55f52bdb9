/- The contracts of ReaderNeeds in both programs. No condition but that the numbers are int's. -/
import Derived.Test.YtfklkepodpcdgaaRsv
namespace Go.Proofs.Ytfklkepodpcdgaa
open Go.ChangeShapes Go.WideShapes Go.ChangeAt Go.RowKit Go.Joins
set_option linter.unusedVariables false

def rdNeeds (k : Kn) (B : ByteArray) (s c en : Int) : Int := if rdOk k B s c en = true then (if en = 1 then k.width - (B.size : Int) else 0) else -1

theorem c_ReaderNeeds_bad (k : Kn) (A : Option Addr) (cap L : Nat) (B : ByteArray) (s c en : Int) (w : World) (h : PsAt w L A cap k.ps) (hL : L ≤ w.heap.size) (hB : B.size ≤ maxLen) (hw : k.Wf) (hk : ¬ k.Ok) : Calls Try.prog 68 #[.agg #[.int .i64 k.o, .int .i64 k.l, .int .i64 k.m, .slice A k.ps.length cap, .int .i64 k.base, .int .i64 k.last, .string B, .int .i64 s, .int .i64 c, .int .i64 en]] w fun e w' => e = .returned (.int .i64 (-1)) ∧ Below w.heap.size w w' := by
  have HV := hid (fun (v : World) (hb : Below w.heap.size w v) => c_ReaderValid_bad k A cap L B s c en v (h.below hb hL) (Nat.le_trans hL hb.size) hB hw hk)
  obtain ⟨p0, p1, p2, p3, p4, p5, p6, p7, p8, p9⟩ := (Blk.new w 81 #[.int .i64 k.o, .int .i64 k.l, .int .i64 k.m, .slice A k.ps.length cap, .int .i64 k.base, .int .i64 k.last, .string B, .int .i64 s, .int .i64 c, .int .i64 en]).cells10
  clear h hk hw hB
  go_enter Try.func68, Try.ntmps68
  go_wp2_with fail
  refine (HV.out _ (by (repeat (first | with_reducible (first | assumption | exact Below.refl _ _ | refine bel_alloc ?_ _ | refine bel_drew ?_ | refine bel_drewN ?_ _ | refine bel_set ?_ (by first | omega | (simp; done) | (simp; omega)) _ | refine bel_trans ?_ (by assumption)) | assumption | refine bel_trans ?_ (by assumption))))).mono ?_
  rintro e w1 ⟨rfl, hb1⟩
  go_wp2
  go_ret
  exact ⟨rfl, by (repeat (first | with_reducible (first | assumption | exact Below.refl _ _ | refine bel_alloc ?_ _ | refine bel_drew ?_ | refine bel_drewN ?_ _ | refine bel_set ?_ (by first | omega | (simp; done) | (simp; omega)) _ | refine bel_trans ?_ (by assumption)) | assumption | refine bel_trans ?_ (by assumption)))⟩

set_option maxHeartbeats 4000000 in
theorem c_ReaderNeeds (k : Kn) (A : Option Addr) (cap L : Nat) (B : ByteArray) (s c en : Int) (w : World) (h : PsAt w L A cap k.ps) (hL : L ≤ w.heap.size) (hB : B.size ≤ maxLen) (hw : k.Wf) (hk : k.Ok) : Calls Try.prog 68 #[.agg #[.int .i64 k.o, .int .i64 k.l, .int .i64 k.m, .slice A k.ps.length cap, .int .i64 k.base, .int .i64 k.last, .string B, .int .i64 s, .int .i64 c, .int .i64 en]] w fun e w' => e = .returned (.int .i64 (rdNeeds k B s c en)) ∧ Below w.heap.size w w' := by
  have HV := hid (fun (v : World) (hb : Below w.heap.size w v) => c_ReaderValid k A cap L B s c en v (h.below hb hL) (Nat.le_trans hL hb.size) hB hw hk)
  have HWd := hid (fun (v : World) (hv : KAt v w.heap.size k (.slice A k.ps.length cap)) => c_width w.heap.size k A cap v hk hv)
  have hwb := hk.width_bd
  have HKN := hid (Blk.new w 81 #[.int .i64 k.o, .int .i64 k.l, .int .i64 k.m, .slice A k.ps.length cap, .int .i64 k.base, .int .i64 k.last, .string B, .int .i64 s, .int .i64 c, .int .i64 en])
  obtain ⟨p0, p1, p2, p3, p4, p5, p6, p7, p8, p9⟩ := HKN.out.cells10
  unfold maxLen at hB
  unfold rdNeeds
  clear h hk hw
  cases hv : rdOk k B s c en with
  | false =>
    simp only [hv] at HV
    simp only [Bool.false_eq_true, if_false]
    clear hv
    go_enter Try.func68, Try.ntmps68
    go_wp2_with fail
    refine (HV.out _ (by (repeat (first | with_reducible (first | assumption | exact Below.refl _ _ | refine bel_alloc ?_ _ | refine bel_drew ?_ | refine bel_drewN ?_ _ | refine bel_set ?_ (by first | omega | (simp; done) | (simp; omega)) _ | refine bel_trans ?_ (by assumption)) | assumption | refine bel_trans ?_ (by assumption))))).mono ?_
    rintro e w1 ⟨rfl, hb1⟩
    go_wp2
    go_ret
    exact ⟨rfl, by (repeat (first | with_reducible (first | assumption | exact Below.refl _ _ | refine bel_alloc ?_ _ | refine bel_drew ?_ | refine bel_drewN ?_ _ | refine bel_set ?_ (by first | omega | (simp; done) | (simp; omega)) _ | refine bel_trans ?_ (by assumption)) | assumption | refine bel_trans ?_ (by assumption)))⟩
  | true =>
    simp only [hv] at HV
    simp only [if_true]
    clear hv
    by_cases he : en = 1
    · subst he
      simp only [if_true]
      obtain ⟨WD, hWD⟩ : ∃ WD, WD = k.width := ⟨_, rfl⟩
      simp only [← hWD] at HWd hwb ⊢
      clear hWD
      go_enter Try.func68, Try.ntmps68
      go_wp2_with fail
      refine (HV.out _ (by (repeat (first | with_reducible (first | assumption | exact Below.refl _ _ | refine bel_alloc ?_ _ | refine bel_drew ?_ | refine bel_drewN ?_ _ | refine bel_set ?_ (by first | omega | (simp; done) | (simp; omega)) _ | refine bel_trans ?_ (by assumption)) | assumption | refine bel_trans ?_ (by assumption))))).mono ?_
      rintro e w1 ⟨rfl, hb1⟩
      have HK1 := hid (HKN.out.on hb1)
      clear p0 p1 p2 p3 p4 p5 p6 p7 p8 p9
      obtain ⟨p0, p1, p2, p3, p4, p5, p6, p7, p8, p9⟩ := HK1.out.cells10
      go_wp2_with fail
      have hS := And.intro p0 (And.intro p1 (And.intro p2 (And.intro p3 (And.intro p4 (And.intro p5 (And.intro p6 (Below.refl w1.heap.size w1)))))))
      refine wp_region_noPanic ?_
      refine wp_region_held_drew (S := (fun v => v.cell? ⟨w.heap.size, 0, none⟩ = some (.int .i64 k.o) ∧ v.cell? ⟨w.heap.size, 1, none⟩ = some (.int .i64 k.l) ∧ v.cell? ⟨w.heap.size, 2, none⟩ = some (.int .i64 k.m) ∧ v.cell? ⟨w.heap.size, 3, none⟩ = some (.slice A k.ps.length cap) ∧ v.cell? ⟨w.heap.size, 4, none⟩ = some (.int .i64 k.base) ∧ v.cell? ⟨w.heap.size, 5, none⟩ = some (.int .i64 k.last) ∧ v.cell? ⟨w.heap.size, 6, none⟩ = some (.string B) ∧ Below w1.heap.size w1 v)) (by kernel_rfl) (s7_drew hS) (fun hHeld => ?_)
      refine tk 0 ?_
      refine tk 2 ?_
      refine tk 3 ?_
      refine tk 4 ?_
      refine wpAnyH_ready (rs := [1]) (by kernel_rfl) (by simp) ?_
      refine AllReadyH.cons (o := ?or1_1) ?ir1_1 (fun K hK => ?sr1_1) AllReadyH.nil
      case ir1_1 => (simp only [List.getElem?_toArray, List.getElem?_cons_succ, List.getElem?_cons_zero]; rfl)
      (first | (go_simp; (first | (go_at_call 119; refine (HWd.out _ ⟨by have := hHeld.2.2.2.2.2.2.2.size; have := HK1.out.lt; omega, hHeld.1, hHeld.2.1, hHeld.2.2.1, hHeld.2.2.2.1, hHeld.2.2.2.2.1, hHeld.2.2.2.2.2.1⟩).mono ?_; rintro e wQ ⟨rfl, hbQ⟩) | skip)))
      refine hK.out _ _ ?kr1_1 (fun hHeld => ?_)
      case kr1_1 => (try dsimp only); (first | with_reducible assumption | exact s7_bel (by assumption) (by assumption) | assumption | exact s7_alloc (by assumption) _)
      clear hK K
      try simp only [Act.put, List.setIfInBounds_toArray, List.set_cons_zero, List.set_cons_succ]
      refine tk 5 ?_
      refine tk 6 ?_
      refine wpAnyH_done (by kernel_rfl) ?_ _
      refine NoPanic.normal ?_
      go_wp2
      go_ret
      exact ⟨ret_int (show IntKind.i64.wrap (WD - (B.size : Int)) = WD - (B.size : Int) from IntWalk.i64_in (WD - (B.size : Int)) (by omega)), by (repeat (first | with_reducible (first | assumption | exact Below.refl _ _ | refine bel_alloc ?_ _ | refine bel_drew ?_ | refine bel_drewN ?_ _ | refine bel_set ?_ (by first | omega | (simp; done) | (simp; omega)) _ | refine bel_trans ?_ (by assumption)) | assumption | refine bel_trans ?_ (by assumption)))⟩
    · have he1 : (en == 1) = false := by simpa using he
      simp only [if_neg he]
      go_enter Try.func68, Try.ntmps68
      go_wp2_with fail
      refine (HV.out _ (by (repeat (first | with_reducible (first | assumption | exact Below.refl _ _ | refine bel_alloc ?_ _ | refine bel_drew ?_ | refine bel_drewN ?_ _ | refine bel_set ?_ (by first | omega | (simp; done) | (simp; omega)) _ | refine bel_trans ?_ (by assumption)) | assumption | refine bel_trans ?_ (by assumption))))).mono ?_
      rintro e w1 ⟨rfl, hb1⟩
      obtain ⟨q0, q1, q2, q3, q4, q5, q6, q7, q8, q9⟩ := (HKN.out.on hb1).cells10
      clear p0 p1 p2 p3 p4 p5 p6 p7 p8 p9
      go_wp2
      go_ret
      exact ⟨rfl, by (repeat (first | with_reducible (first | assumption | exact Below.refl _ _ | refine bel_alloc ?_ _ | refine bel_drew ?_ | refine bel_drewN ?_ _ | refine bel_set ?_ (by first | omega | (simp; done) | (simp; omega)) _ | refine bel_trans ?_ (by assumption)) | assumption | refine bel_trans ?_ (by assumption)))⟩

theorem c_sReaderNeeds_bad (k : Kn) (A : Option Addr) (cap L : Nat) (B : ByteArray) (s c en : Int) (w : World) (h : PsAt w L A cap k.ps) (hL : L ≤ w.heap.size) (hB : B.size ≤ maxLen) (hw : k.Wf) (hk : ¬ k.Ok) : Calls Try.prog 67 #[.agg #[.int .i64 k.o, .int .i64 k.l, .int .i64 k.m, .slice A k.ps.length cap, .int .i64 k.base, .int .i64 k.last, .string B, .int .i64 s, .int .i64 c, .int .i64 en]] w fun e w' => e = .returned (.int .i64 (-1)) ∧ Below w.heap.size w w' := by
  have HV := hid (fun (v : World) (hb : Below w.heap.size w v) => c_sReaderValid_bad k A cap L B s c en v (h.below hb hL) (Nat.le_trans hL hb.size) hB hw hk)
  obtain ⟨p0, p1, p2, p3, p4, p5, p6, p7, p8, p9⟩ := (Blk.new w 81 #[.int .i64 k.o, .int .i64 k.l, .int .i64 k.m, .slice A k.ps.length cap, .int .i64 k.base, .int .i64 k.last, .string B, .int .i64 s, .int .i64 c, .int .i64 en]).cells10
  clear h hk hw hB
  go_enter Try.func67, Try.ntmps67
  go_wp2_with fail
  refine (HV.out _ (by (repeat (first | with_reducible (first | assumption | exact Below.refl _ _ | refine bel_alloc ?_ _ | refine bel_drew ?_ | refine bel_drewN ?_ _ | refine bel_set ?_ (by first | omega | (simp; done) | (simp; omega)) _ | refine bel_trans ?_ (by assumption)) | assumption | refine bel_trans ?_ (by assumption))))).mono ?_
  rintro e w1 ⟨rfl, hb1⟩
  go_wp2
  go_ret
  exact ⟨rfl, by (repeat (first | with_reducible (first | assumption | exact Below.refl _ _ | refine bel_alloc ?_ _ | refine bel_drew ?_ | refine bel_drewN ?_ _ | refine bel_set ?_ (by first | omega | (simp; done) | (simp; omega)) _ | refine bel_trans ?_ (by assumption)) | assumption | refine bel_trans ?_ (by assumption)))⟩

set_option maxHeartbeats 4000000 in
theorem c_sReaderNeeds (k : Kn) (A : Option Addr) (cap L : Nat) (B : ByteArray) (s c en : Int) (w : World) (h : PsAt w L A cap k.ps) (hL : L ≤ w.heap.size) (hB : B.size ≤ maxLen) (hw : k.Wf) (hk : k.Ok) (hen : -9223372036854775808 ≤ en ∧ en ≤ 9223372036854775807) : Calls Try.prog 67 #[.agg #[.int .i64 k.o, .int .i64 k.l, .int .i64 k.m, .slice A k.ps.length cap, .int .i64 k.base, .int .i64 k.last, .string B, .int .i64 s, .int .i64 c, .int .i64 en]] w fun e w' => e = .returned (.int .i64 (rdNeeds k B s c en)) ∧ Below w.heap.size w w' := by
  have HV := hid (fun (v : World) (hb : Below w.heap.size w v) => c_sReaderValid k A cap L B s c en v (h.below hb hL) (Nat.le_trans hL hb.size) hB hw hk hen)
  have HWd := hid (fun (v : World) => c_l2Width k A cap v hk)
  have hwb := hk.width_bd
  have HKN := hid (Blk.new w 81 #[.int .i64 k.o, .int .i64 k.l, .int .i64 k.m, .slice A k.ps.length cap, .int .i64 k.base, .int .i64 k.last, .string B, .int .i64 s, .int .i64 c, .int .i64 en])
  obtain ⟨p0, p1, p2, p3, p4, p5, p6, p7, p8, p9⟩ := HKN.out.cells10
  unfold maxLen at hB
  unfold rdNeeds
  clear h hk hw hen
  cases hv : rdOk k B s c en with
  | false =>
    simp only [hv] at HV
    simp only [Bool.false_eq_true, if_false]
    clear hv
    go_enter Try.func67, Try.ntmps67
    go_wp2_with fail
    refine (HV.out _ (by (repeat (first | with_reducible (first | assumption | exact Below.refl _ _ | refine bel_alloc ?_ _ | refine bel_drew ?_ | refine bel_drewN ?_ _ | refine bel_set ?_ (by first | omega | (simp; done) | (simp; omega)) _ | refine bel_trans ?_ (by assumption)) | assumption | refine bel_trans ?_ (by assumption))))).mono ?_
    rintro e w1 ⟨rfl, hb1⟩
    go_wp2
    go_ret
    exact ⟨rfl, by (repeat (first | with_reducible (first | assumption | exact Below.refl _ _ | refine bel_alloc ?_ _ | refine bel_drew ?_ | refine bel_drewN ?_ _ | refine bel_set ?_ (by first | omega | (simp; done) | (simp; omega)) _ | refine bel_trans ?_ (by assumption)) | assumption | refine bel_trans ?_ (by assumption)))⟩
  | true =>
    simp only [hv] at HV
    simp only [if_true]
    clear hv
    by_cases he : en = 1
    · subst he
      simp only [if_true]
      obtain ⟨WD, hWD⟩ : ∃ WD, WD = k.width := ⟨_, rfl⟩
      simp only [← hWD] at HWd hwb ⊢
      clear hWD
      go_enter Try.func67, Try.ntmps67
      go_wp2_with fail
      refine (HV.out _ (by (repeat (first | with_reducible (first | assumption | exact Below.refl _ _ | refine bel_alloc ?_ _ | refine bel_drew ?_ | refine bel_drewN ?_ _ | refine bel_set ?_ (by first | omega | (simp; done) | (simp; omega)) _ | refine bel_trans ?_ (by assumption)) | assumption | refine bel_trans ?_ (by assumption))))).mono ?_
      rintro e w1 ⟨rfl, hb1⟩
      have HK1 := hid (HKN.out.on hb1)
      clear p0 p1 p2 p3 p4 p5 p6 p7 p8 p9
      obtain ⟨p0, p1, p2, p3, p4, p5, p6, p7, p8, p9⟩ := HK1.out.cells10
      go_wp2_with fail
      have hS := And.intro p0 (And.intro p1 (And.intro p2 (And.intro p3 (And.intro p4 (And.intro p5 (And.intro p6 (Below.refl w1.heap.size w1)))))))
      refine wp_region_noPanic ?_
      refine wp_region_held_drew (S := (fun v => v.cell? ⟨w.heap.size, 0, none⟩ = some (.int .i64 k.o) ∧ v.cell? ⟨w.heap.size, 1, none⟩ = some (.int .i64 k.l) ∧ v.cell? ⟨w.heap.size, 2, none⟩ = some (.int .i64 k.m) ∧ v.cell? ⟨w.heap.size, 3, none⟩ = some (.slice A k.ps.length cap) ∧ v.cell? ⟨w.heap.size, 4, none⟩ = some (.int .i64 k.base) ∧ v.cell? ⟨w.heap.size, 5, none⟩ = some (.int .i64 k.last) ∧ v.cell? ⟨w.heap.size, 6, none⟩ = some (.string B) ∧ Below w1.heap.size w1 v)) (by kernel_rfl) (s7_drew hS) (fun hHeld => ?_)
      refine tk 0 ?_
      refine tk 1 ?_
      refine tk 3 ?_
      refine tk 4 ?_
      refine tk 5 ?_
      refine wpAnyH_ready (rs := [2]) (by kernel_rfl) (by simp) ?_
      refine AllReadyH.cons (o := ?or2_2) ?ir2_2 (fun K hK => ?sr2_2) AllReadyH.nil
      case ir2_2 => (simp only [List.getElem?_toArray, List.getElem?_cons_succ, List.getElem?_cons_zero]; rfl)
      (first | (go_simp; (first | (go_at_call 117; refine (HWd.out _).mono ?_; rintro e wQ ⟨rfl, hbQ⟩) | skip)))
      refine hK.out _ _ ?kr2_2 (fun hHeld => ?_)
      case kr2_2 => (try dsimp only); (first | with_reducible assumption | exact s7_bel (by assumption) (by assumption) | assumption | exact s7_alloc (by assumption) _)
      clear hK K
      try simp only [Act.put, List.setIfInBounds_toArray, List.set_cons_zero, List.set_cons_succ]
      refine tk 6 ?_
      refine tk 7 ?_
      refine wpAnyH_done (by kernel_rfl) ?_ _
      refine NoPanic.normal ?_
      go_wp2
      go_ret
      exact ⟨ret_int (show IntKind.i64.wrap (WD - (B.size : Int)) = WD - (B.size : Int) from IntWalk.i64_in (WD - (B.size : Int)) (by omega)), by (repeat (first | with_reducible (first | assumption | exact Below.refl _ _ | refine bel_alloc ?_ _ | refine bel_drew ?_ | refine bel_drewN ?_ _ | refine bel_set ?_ (by first | omega | (simp; done) | (simp; omega)) _ | refine bel_trans ?_ (by assumption)) | assumption | refine bel_trans ?_ (by assumption)))⟩
    · have he1 : (en == 1) = false := by simpa using he
      simp only [if_neg he]
      go_enter Try.func67, Try.ntmps67
      go_wp2_with fail
      refine (HV.out _ (by (repeat (first | with_reducible (first | assumption | exact Below.refl _ _ | refine bel_alloc ?_ _ | refine bel_drew ?_ | refine bel_drewN ?_ _ | refine bel_set ?_ (by first | omega | (simp; done) | (simp; omega)) _ | refine bel_trans ?_ (by assumption)) | assumption | refine bel_trans ?_ (by assumption))))).mono ?_
      rintro e w1 ⟨rfl, hb1⟩
      obtain ⟨q0, q1, q2, q3, q4, q5, q6, q7, q8, q9⟩ := (HKN.out.on hb1).cells10
      clear p0 p1 p2 p3 p4 p5 p6 p7 p8 p9
      go_wp2
      go_ret
      exact ⟨rfl, by (repeat (first | with_reducible (first | assumption | exact Below.refl _ _ | refine bel_alloc ?_ _ | refine bel_drew ?_ | refine bel_drewN ?_ _ | refine bel_set ?_ (by first | omega | (simp; done) | (simp; omega)) _ | refine bel_trans ?_ (by assumption)) | assumption | refine bel_trans ?_ (by assumption)))⟩

theorem needs_both (k : Kn) (B : ByteArray) (s c en : Int) (hB : B.size ≤ maxLen) (hw : k.Wf) (hen : -9223372036854775808 ≤ en ∧ en ≤ 9223372036854775807) : ∃ q : Int, ∀ (A : Option Addr) (cap L : Nat) (w : World), PsAt w L A cap k.ps → L ≤ w.heap.size → (Calls Try.prog 67 #[.agg #[.int .i64 k.o, .int .i64 k.l, .int .i64 k.m, .slice A k.ps.length cap, .int .i64 k.base, .int .i64 k.last, .string B, .int .i64 s, .int .i64 c, .int .i64 en]] w fun e w' => e = .returned (.int .i64 q) ∧ Below w.heap.size w w') ∧ (Calls Try.prog 68 #[.agg #[.int .i64 k.o, .int .i64 k.l, .int .i64 k.m, .slice A k.ps.length cap, .int .i64 k.base, .int .i64 k.last, .string B, .int .i64 s, .int .i64 c, .int .i64 en]] w fun e w' => e = .returned (.int .i64 q) ∧ Below w.heap.size w w') := by
  by_cases hk : k.Ok
  · exact ⟨rdNeeds k B s c en, fun A cap L w h hL => ⟨c_sReaderNeeds k A cap L B s c en w h hL hB hw hk hen, c_ReaderNeeds k A cap L B s c en w h hL hB hw hk⟩⟩
  · exact ⟨-1, fun A cap L w h hL => ⟨c_sReaderNeeds_bad k A cap L B s c en w h hL hB hw hk, c_ReaderNeeds_bad k A cap L B s c en w h hL hB hw hk⟩⟩
end Go.Proofs.Ytfklkepodpcdgaa
