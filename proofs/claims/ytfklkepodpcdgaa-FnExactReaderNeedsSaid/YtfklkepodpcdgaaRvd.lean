/- The contracts of the program's ReaderValid. No condition but that the numbers are int's. -/
import Derived.Test.YtfklkepodpcdgaaTrd
import Derived.Test.YtfklkepodpcdgaaBe
import Derived.Test.YtfklkepodpcdgaaBj
import Derived.Test.YtfklkepodpcdgaaGb
namespace Go.Proofs.Ytfklkepodpcdgaa
open Go.ChangeShapes Go.WideShapes Go.ChangeAt Go.RowKit Go.Joins
set_option linter.unusedVariables false

def rvEnd (k : Kn) (B : ByteArray) (c en : Int) : Bool := if en = 1 then decide ((B.size : Int) < k.width) && decide (c < 3100) else (decide (en = 0 ∨ en = 2 ∨ en = 3) && decide (B.size = 0))
def rdOk (k : Kn) (B : ByteArray) (s c en : Int) : Bool := bitsOk B && (decide (0 ≤ s ∧ s ≤ 2000 ∧ 0 ≤ c ∧ c ≤ 3100) && rvEnd k B c en)
theorem c_ReaderValid_bad (k : Kn) (A : Option Addr) (cap L : Nat) (B : ByteArray) (s c en : Int) (w : World) (h : PsAt w L A cap k.ps) (hL : L ≤ w.heap.size) (hB : B.size ≤ maxLen) (hw : k.Wf) (hk : ¬ k.Ok) : Calls Try.prog 65 #[.agg #[.int .i64 k.o, .int .i64 k.l, .int .i64 k.m, .slice A k.ps.length cap, .int .i64 k.base, .int .i64 k.last, .string B, .int .i64 s, .int .i64 c, .int .i64 en]] w fun e w' => e = .returned (.bool false) ∧ Below w.heap.size w w' := by
  have HV := hid (fun (v : World) (hb : Below w.heap.size w v) => c_KnownValid_no k A cap L v (h.below hb hL) (Nat.le_trans hL hb.size) hk hw)
  obtain ⟨p0, p1, p2, p3, p4, p5, p6, p7, p8, p9⟩ := (Blk.new w 81 #[.int .i64 k.o, .int .i64 k.l, .int .i64 k.m, .slice A k.ps.length cap, .int .i64 k.base, .int .i64 k.last, .string B, .int .i64 s, .int .i64 c, .int .i64 en]).cells10
  clear h hk hw
  go_enter Try.func65, Try.ntmps65
  go_wp2_with fail
  refine (HV.out _ (by (repeat (first | with_reducible (first | assumption | exact Below.refl _ _ | refine bel_alloc ?_ _ | refine bel_drew ?_ | refine bel_drewN ?_ _ | refine bel_set ?_ (by first | omega | (simp; done) | (simp; omega)) _ | refine bel_trans ?_ (by assumption)) | assumption | refine bel_trans ?_ (by assumption))))).mono ?_
  rintro e w1 ⟨rfl, hb1⟩
  go_wp2
  go_ret
  exact ⟨rfl, by (repeat (first | with_reducible (first | assumption | exact Below.refl _ _ | refine bel_alloc ?_ _ | refine bel_drew ?_ | refine bel_drewN ?_ _ | refine bel_set ?_ (by first | omega | (simp; done) | (simp; omega)) _ | refine bel_trans ?_ (by assumption)) | assumption | refine bel_trans ?_ (by assumption)))⟩
set_option maxHeartbeats 4000000 in
set_option maxRecDepth 100000 in
theorem c_ReaderValid (k : Kn) (A : Option Addr) (cap L : Nat) (B : ByteArray) (s c en : Int) (w : World) (h : PsAt w L A cap k.ps) (hL : L ≤ w.heap.size) (hB : B.size ≤ maxLen) (hw : k.Wf) (hk : k.Ok) : Calls Try.prog 65 #[.agg #[.int .i64 k.o, .int .i64 k.l, .int .i64 k.m, .slice A k.ps.length cap, .int .i64 k.base, .int .i64 k.last, .string B, .int .i64 s, .int .i64 c, .int .i64 en]] w fun e w' => e = .returned (.bool (rdOk k B s c en)) ∧ Below w.heap.size w w' := by
  have HV := hid (fun (v : World) (hb : Below w.heap.size w v) => c_KnownValid_yes k A cap L v (h.below hb hL) (Nat.le_trans hL hb.size) hk hw)
  have HBv := hid (fun (v : World) => c_BitsValid B v hB)
  have HWd := hid (fun (v : World) (hv : KAt v w.heap.size k (.slice A k.ps.length cap)) => c_width w.heap.size k A cap v hk hv)
  have hwb := hk.width_bd
  have HKN := hid (Blk.new w 81 #[.int .i64 k.o, .int .i64 k.l, .int .i64 k.m, .slice A k.ps.length cap, .int .i64 k.base, .int .i64 k.last, .string B, .int .i64 s, .int .i64 c, .int .i64 en])
  unfold maxLen at hB
  obtain ⟨p0, p1, p2, p3, p4, p5, p6, p7, p8, p9⟩ := HKN.out.cells10
  clear h hk hw
  have HR := hid (rfl : rdOk k B s c en = rdOk k B s c en)
  obtain ⟨R, hR⟩ : ∃ R, R = rdOk k B s c en := ⟨_, rfl⟩
  rw [← hR]
  unfold rdOk rvEnd at hR
  clear HR
  cases hb : bitsOk B with
  | false =>
    simp only [hb, Bool.false_and] at hR HBv
    subst hR
    clear hb
    go_enter Try.func65, Try.ntmps65
    go_wp2_with fail
    refine (HV.out _ (by (repeat (first | with_reducible (first | assumption | exact Below.refl _ _ | refine bel_alloc ?_ _ | refine bel_drew ?_ | refine bel_drewN ?_ _ | refine bel_set ?_ (by first | omega | (simp; done) | (simp; omega)) _ | refine bel_trans ?_ (by assumption)) | assumption | refine bel_trans ?_ (by assumption))))).mono ?_
    rintro e w1 ⟨rfl, hb1⟩
    have K1 := hid (HKN.out.on hb1)
    clear p0 p1 p2 p3 p4 p5 p6 p7 p8 p9
    obtain ⟨p0, p1, p2, p3, p4, p5, p6, p7, p8, p9⟩ := K1.out.cells10
    go_wp2_with fail
    refine (HBv.out _).mono ?_
    rintro e w2 ⟨rfl, rfl⟩
    go_wp2
    go_ret
    exact ⟨rfl, by (repeat (first | with_reducible (first | assumption | exact Below.refl _ _ | refine bel_alloc ?_ _ | refine bel_drew ?_ | refine bel_drewN ?_ _ | refine bel_set ?_ (by first | omega | (simp; done) | (simp; omega)) _ | refine bel_trans ?_ (by assumption)) | assumption | refine bel_trans ?_ (by assumption)))⟩
  | true =>
    simp only [hb, Bool.true_and] at hR HBv
    clear hb
    by_cases hin : 0 ≤ s ∧ s ≤ 2000 ∧ 0 ≤ c ∧ c ≤ 3100
    · simp only [decide_eq_true hin, Bool.true_and] at hR
      obtain ⟨i0, i1, i2, i3⟩ := hin
      by_cases h1 : en = 1
      · rw [if_pos h1] at hR
        subst h1
        obtain ⟨WD, hWD⟩ : ∃ WD, WD = k.width := ⟨_, rfl⟩
        simp only [← hWD] at HWd hR hwb
        clear hWD
        by_cases h2 : (B.size : Int) < WD
        · simp only [decide_eq_true h2, Bool.true_and] at hR
          have HRR := hid hR
          have hd : decide ((B.size : Int) < WD) = true := decide_eq_true h2
          clear hR
          go_enter Try.func65, Try.ntmps65
          go_wp2_with fail
          refine (HV.out _ (by (repeat (first | with_reducible (first | assumption | exact Below.refl _ _ | refine bel_alloc ?_ _ | refine bel_drew ?_ | refine bel_drewN ?_ _ | refine bel_set ?_ (by first | omega | (simp; done) | (simp; omega)) _ | refine bel_trans ?_ (by assumption)) | assumption | refine bel_trans ?_ (by assumption))))).mono ?_
          rintro e w1 ⟨rfl, hb1⟩
          have K1 := hid (HKN.out.on hb1)
          have hB1 : Below w.heap.size w w1 := by (repeat (first | with_reducible (first | assumption | exact Below.refl _ _ | refine bel_alloc ?_ _ | refine bel_drew ?_ | refine bel_drewN ?_ _ | refine bel_set ?_ (by first | omega | (simp; done) | (simp; omega)) _ | refine bel_trans ?_ (by assumption)) | assumption | refine bel_trans ?_ (by assumption)))
          clear p0 p1 p2 p3 p4 p5 p6 p7 p8 p9
          obtain ⟨p0, p1, p2, p3, p4, p5, p6, p7, p8, p9⟩ := K1.out.cells10
          go_wp2_with fail
          refine (HBv.out _).mono ?_
          rintro e w2 ⟨rfl, rfl⟩
          go_wp2_with fail
          have hS := And.intro p0 (And.intro p1 (And.intro p2 (And.intro p3 (And.intro p4 (And.intro p5 (And.intro p6 (And.intro p8 (Below.refl w1.heap.size w1))))))))
          refine wp_region_noPanic ?_
          refine wp_region_held_drew (S := (fun v => v.cell? ⟨w.heap.size, 0, none⟩ = some (.int .i64 k.o) ∧ v.cell? ⟨w.heap.size, 1, none⟩ = some (.int .i64 k.l) ∧ v.cell? ⟨w.heap.size, 2, none⟩ = some (.int .i64 k.m) ∧ v.cell? ⟨w.heap.size, 3, none⟩ = some (.slice A k.ps.length cap) ∧ v.cell? ⟨w.heap.size, 4, none⟩ = some (.int .i64 k.base) ∧ v.cell? ⟨w.heap.size, 5, none⟩ = some (.int .i64 k.last) ∧ v.cell? ⟨w.heap.size, 6, none⟩ = some (.string B) ∧ v.cell? ⟨w.heap.size, 8, none⟩ = some (.int .i64 c) ∧ Below w1.heap.size w1 v)) (by kernel_rfl) (s8_drew hS) (fun hHeld => ?_)
          refine tk 0 ?_
          refine tk 1 ?_
          refine tk 2 ?_
          refine tk 3 ?_
          refine wpAnyH_ready (rs := [4]) (by kernel_rfl) (by simp) ?_
          refine AllReadyH.cons (o := ?or1_4) ?ir1_4 (fun K hK => ?sr1_4) AllReadyH.nil
          case ir1_4 => (simp only [List.getElem?_toArray, List.getElem?_cons_succ, List.getElem?_cons_zero]; rfl)
          (first | (go_simp; (first | (go_at_call 119; refine (HWd.out _ ⟨by have := hHeld.2.2.2.2.2.2.2.2.size; have := K1.out.lt; omega, hHeld.1, hHeld.2.1, hHeld.2.2.1, hHeld.2.2.2.1, hHeld.2.2.2.2.1, hHeld.2.2.2.2.2.1⟩).mono ?_; rintro e wQ ⟨rfl, hbQ⟩) | skip)))
          refine hK.out _ _ ?kr1_4 (fun hHeld => ?_)
          case kr1_4 => (try dsimp only); (first | with_reducible assumption | exact s8_bel (by assumption) (by assumption) | assumption | exact s8_alloc (by assumption) _)
          clear hK K
          try simp only [Act.put, List.setIfInBounds_toArray, List.set_cons_zero, List.set_cons_succ]
          refine tk 5 ?_
          refine tk 6 ?_
          refine tk 7 ?_
          refine tk 8 ?_
          refine tk 9 ?_
          refine tk 10 ?_
          refine tk 11 ?_
          refine wpAnyH_done (by kernel_rfl) ?_ _
          refine NoPanic.normal ?_
          go_wp2
          go_ret
          exact ⟨ret_bool HRR.out.symm, by (repeat (first | with_reducible (first | assumption | exact Below.refl _ _ | refine bel_alloc ?_ _ | refine bel_drew ?_ | refine bel_drewN ?_ _ | refine bel_set ?_ (by first | omega | (simp; done) | (simp; omega)) _ | refine bel_trans ?_ (by assumption)) | assumption | refine bel_trans ?_ (by assumption)))⟩
        · simp only [decide_eq_false h2, Bool.false_and] at hR
          subst hR
          have hd : decide ((B.size : Int) < WD) = false := decide_eq_false h2
          go_enter Try.func65, Try.ntmps65
          go_wp2_with fail
          refine (HV.out _ (by (repeat (first | with_reducible (first | assumption | exact Below.refl _ _ | refine bel_alloc ?_ _ | refine bel_drew ?_ | refine bel_drewN ?_ _ | refine bel_set ?_ (by first | omega | (simp; done) | (simp; omega)) _ | refine bel_trans ?_ (by assumption)) | assumption | refine bel_trans ?_ (by assumption))))).mono ?_
          rintro e w1 ⟨rfl, hb1⟩
          have K1 := hid (HKN.out.on hb1)
          have hB1 : Below w.heap.size w w1 := by (repeat (first | with_reducible (first | assumption | exact Below.refl _ _ | refine bel_alloc ?_ _ | refine bel_drew ?_ | refine bel_drewN ?_ _ | refine bel_set ?_ (by first | omega | (simp; done) | (simp; omega)) _ | refine bel_trans ?_ (by assumption)) | assumption | refine bel_trans ?_ (by assumption)))
          clear p0 p1 p2 p3 p4 p5 p6 p7 p8 p9
          obtain ⟨p0, p1, p2, p3, p4, p5, p6, p7, p8, p9⟩ := K1.out.cells10
          go_wp2_with fail
          refine (HBv.out _).mono ?_
          rintro e w2 ⟨rfl, rfl⟩
          go_wp2_with fail
          have hS := And.intro p0 (And.intro p1 (And.intro p2 (And.intro p3 (And.intro p4 (And.intro p5 (And.intro p6 (And.intro p8 (Below.refl w1.heap.size w1))))))))
          refine wp_region_noPanic ?_
          refine wp_region_held_drew (S := (fun v => v.cell? ⟨w.heap.size, 0, none⟩ = some (.int .i64 k.o) ∧ v.cell? ⟨w.heap.size, 1, none⟩ = some (.int .i64 k.l) ∧ v.cell? ⟨w.heap.size, 2, none⟩ = some (.int .i64 k.m) ∧ v.cell? ⟨w.heap.size, 3, none⟩ = some (.slice A k.ps.length cap) ∧ v.cell? ⟨w.heap.size, 4, none⟩ = some (.int .i64 k.base) ∧ v.cell? ⟨w.heap.size, 5, none⟩ = some (.int .i64 k.last) ∧ v.cell? ⟨w.heap.size, 6, none⟩ = some (.string B) ∧ v.cell? ⟨w.heap.size, 8, none⟩ = some (.int .i64 c) ∧ Below w1.heap.size w1 v)) (by kernel_rfl) (s8_drew hS) (fun hHeld => ?_)
          refine tk 0 ?_
          refine tk 1 ?_
          refine tk 2 ?_
          refine tk 3 ?_
          refine wpAnyH_ready (rs := [4]) (by kernel_rfl) (by simp) ?_
          refine AllReadyH.cons (o := ?or2_4) ?ir2_4 (fun K hK => ?sr2_4) AllReadyH.nil
          case ir2_4 => (simp only [List.getElem?_toArray, List.getElem?_cons_succ, List.getElem?_cons_zero]; rfl)
          (first | (go_simp; (first | (go_at_call 119; refine (HWd.out _ ⟨by have := hHeld.2.2.2.2.2.2.2.2.size; have := K1.out.lt; omega, hHeld.1, hHeld.2.1, hHeld.2.2.1, hHeld.2.2.2.1, hHeld.2.2.2.2.1, hHeld.2.2.2.2.2.1⟩).mono ?_; rintro e wQ ⟨rfl, hbQ⟩) | skip)))
          refine hK.out _ _ ?kr2_4 (fun hHeld => ?_)
          case kr2_4 => (try dsimp only); (first | with_reducible assumption | exact s8_bel (by assumption) (by assumption) | assumption | exact s8_alloc (by assumption) _)
          clear hK K
          try simp only [Act.put, List.setIfInBounds_toArray, List.set_cons_zero, List.set_cons_succ]
          refine tk 5 ?_
          refine tk 6 ?_
          refine tu 7 ?_
          refine tu 8 ?_
          refine tu 9 ?_
          refine tk 10 ?_
          refine tk 11 ?_
          refine wpAnyH_done (by kernel_rfl) ?_ _
          refine NoPanic.normal ?_
          go_wp2
          go_ret
          exact ⟨rfl, by (repeat (first | with_reducible (first | assumption | exact Below.refl _ _ | refine bel_alloc ?_ _ | refine bel_drew ?_ | refine bel_drewN ?_ _ | refine bel_set ?_ (by first | omega | (simp; done) | (simp; omega)) _ | refine bel_trans ?_ (by assumption)) | assumption | refine bel_trans ?_ (by assumption)))⟩
      · rw [if_neg h1] at hR
        by_cases h2 : en = 0 ∨ en = 2 ∨ en = 3
        · simp only [decide_eq_true h2, Bool.true_and] at hR
          by_cases h3 : B.size = 0
          · simp only [decide_eq_true h3] at hR
            have e0 := empty_of h3
            subst e0 hR
            rcases h2 with rfl | rfl | rfl
            all_goals
              go_enter Try.func65, Try.ntmps65
              go_wp2_with fail
              refine (HV.out _ (by (repeat (first | with_reducible (first | assumption | exact Below.refl _ _ | refine bel_alloc ?_ _ | refine bel_drew ?_ | refine bel_drewN ?_ _ | refine bel_set ?_ (by first | omega | (simp; done) | (simp; omega)) _ | refine bel_trans ?_ (by assumption)) | assumption | refine bel_trans ?_ (by assumption))))).mono ?_
              rintro e w1 ⟨rfl, hb1⟩
              have K1 := hid (HKN.out.on hb1)
              have hB1 : Below w.heap.size w w1 := by (repeat (first | with_reducible (first | assumption | exact Below.refl _ _ | refine bel_alloc ?_ _ | refine bel_drew ?_ | refine bel_drewN ?_ _ | refine bel_set ?_ (by first | omega | (simp; done) | (simp; omega)) _ | refine bel_trans ?_ (by assumption)) | assumption | refine bel_trans ?_ (by assumption)))
              clear p0 p1 p2 p3 p4 p5 p6 p7 p8 p9
              obtain ⟨p0, p1, p2, p3, p4, p5, p6, p7, p8, p9⟩ := K1.out.cells10
              go_wp2_with fail
              refine (HBv.out _).mono ?_
              rintro e w2 ⟨rfl, rfl⟩
              go_wp2
              go_ret
              exact ⟨rfl, by (repeat (first | with_reducible (first | assumption | exact Below.refl _ _ | refine bel_alloc ?_ _ | refine bel_drew ?_ | refine bel_drewN ?_ _ | refine bel_set ?_ (by first | omega | (simp; done) | (simp; omega)) _ | refine bel_trans ?_ (by assumption)) | assumption | refine bel_trans ?_ (by assumption)))⟩
          · simp only [decide_eq_false h3] at hR
            subst hR
            have he := not_empty (D := B) (by omega)
            rcases h2 with rfl | rfl | rfl
            all_goals
              go_enter Try.func65, Try.ntmps65
              go_wp2_with fail
              refine (HV.out _ (by (repeat (first | with_reducible (first | assumption | exact Below.refl _ _ | refine bel_alloc ?_ _ | refine bel_drew ?_ | refine bel_drewN ?_ _ | refine bel_set ?_ (by first | omega | (simp; done) | (simp; omega)) _ | refine bel_trans ?_ (by assumption)) | assumption | refine bel_trans ?_ (by assumption))))).mono ?_
              rintro e w1 ⟨rfl, hb1⟩
              have K1 := hid (HKN.out.on hb1)
              have hB1 : Below w.heap.size w w1 := by (repeat (first | with_reducible (first | assumption | exact Below.refl _ _ | refine bel_alloc ?_ _ | refine bel_drew ?_ | refine bel_drewN ?_ _ | refine bel_set ?_ (by first | omega | (simp; done) | (simp; omega)) _ | refine bel_trans ?_ (by assumption)) | assumption | refine bel_trans ?_ (by assumption)))
              clear p0 p1 p2 p3 p4 p5 p6 p7 p8 p9
              obtain ⟨p0, p1, p2, p3, p4, p5, p6, p7, p8, p9⟩ := K1.out.cells10
              go_wp2_with fail
              refine (HBv.out _).mono ?_
              rintro e w2 ⟨rfl, rfl⟩
              go_wp2
              go_ret
              exact ⟨rfl, by (repeat (first | with_reducible (first | assumption | exact Below.refl _ _ | refine bel_alloc ?_ _ | refine bel_drew ?_ | refine bel_drewN ?_ _ | refine bel_set ?_ (by first | omega | (simp; done) | (simp; omega)) _ | refine bel_trans ?_ (by assumption)) | assumption | refine bel_trans ?_ (by assumption)))⟩
        · simp only [decide_eq_false h2, Bool.false_and] at hR
          subst hR
          have n0 : en ≠ 0 := fun e => h2 (Or.inl e)
          have n2 : en ≠ 2 := fun e => h2 (Or.inr (Or.inl e))
          have n3 : en ≠ 3 := fun e => h2 (Or.inr (Or.inr e))
          clear h2
          go_enter Try.func65, Try.ntmps65
          go_wp2_with fail
          refine (HV.out _ (by (repeat (first | with_reducible (first | assumption | exact Below.refl _ _ | refine bel_alloc ?_ _ | refine bel_drew ?_ | refine bel_drewN ?_ _ | refine bel_set ?_ (by first | omega | (simp; done) | (simp; omega)) _ | refine bel_trans ?_ (by assumption)) | assumption | refine bel_trans ?_ (by assumption))))).mono ?_
          rintro e w1 ⟨rfl, hb1⟩
          have K1 := hid (HKN.out.on hb1)
          have hB1 : Below w.heap.size w w1 := by (repeat (first | with_reducible (first | assumption | exact Below.refl _ _ | refine bel_alloc ?_ _ | refine bel_drew ?_ | refine bel_drewN ?_ _ | refine bel_set ?_ (by first | omega | (simp; done) | (simp; omega)) _ | refine bel_trans ?_ (by assumption)) | assumption | refine bel_trans ?_ (by assumption)))
          clear p0 p1 p2 p3 p4 p5 p6 p7 p8 p9
          obtain ⟨p0, p1, p2, p3, p4, p5, p6, p7, p8, p9⟩ := K1.out.cells10
          go_wp2_with fail
          refine (HBv.out _).mono ?_
          rintro e w2 ⟨rfl, rfl⟩
          go_wp2_with fail
          go_wp2
          go_ret
          exact ⟨rfl, by (repeat (first | with_reducible (first | assumption | exact Below.refl _ _ | refine bel_alloc ?_ _ | refine bel_drew ?_ | refine bel_drewN ?_ _ | refine bel_set ?_ (by first | omega | (simp; done) | (simp; omega)) _ | refine bel_trans ?_ (by assumption)) | assumption | refine bel_trans ?_ (by assumption)))⟩
    · simp only [decide_eq_false hin, Bool.false_and] at hR
      subst hR
      go_enter Try.func65, Try.ntmps65
      go_wp2_with fail
      refine (HV.out _ (by (repeat (first | with_reducible (first | assumption | exact Below.refl _ _ | refine bel_alloc ?_ _ | refine bel_drew ?_ | refine bel_drewN ?_ _ | refine bel_set ?_ (by first | omega | (simp; done) | (simp; omega)) _ | refine bel_trans ?_ (by assumption)) | assumption | refine bel_trans ?_ (by assumption))))).mono ?_
      rintro e w1 ⟨rfl, hb1⟩
      have K1 := hid (HKN.out.on hb1)
      clear p0 p1 p2 p3 p4 p5 p6 p7 p8 p9
      obtain ⟨p0, p1, p2, p3, p4, p5, p6, p7, p8, p9⟩ := K1.out.cells10
      go_wp2_with fail
      refine (HBv.out _).mono ?_
      rintro e w2 ⟨rfl, rfl⟩
      go_wp2
      all_goals first
        | (go_ret; exact ⟨rfl, by (repeat (first | with_reducible (first | assumption | exact Below.refl _ _ | refine bel_alloc ?_ _ | refine bel_drew ?_ | refine bel_drewN ?_ _ | refine bel_set ?_ (by first | omega | (simp; done) | (simp; omega)) _ | refine bel_trans ?_ (by assumption)) | assumption | refine bel_trans ?_ (by assumption)))⟩)
        | (exfalso; omega)
end Go.Proofs.Ytfklkepodpcdgaa
