/- Walks of exact laws: each law's Go text returns true, and writes nothing that was there. -/
import Derived.Test.YtoiifopjipfjhaaBk
namespace Go.Proofs.Ytoiifopjipfjhaa
open Go.ChangeShapes Go.WideShapes Go.ChangeAt Go.RowKit Go.Joins
set_option linter.unusedVariables false

set_option maxHeartbeats 4000000 in
set_option maxRecDepth 100000 in
theorem walk_FnExactCodesValid (k : Kn) (Ak : Option Addr) (capk : Nat) (codes : List Int) (Acodes : Option Addr) (capcodes : Nat) (w : World) (hp : PsAt w w.heap.size Ak capk k.ps) (hin : k.In) (hq_codes : NumsAt w w.heap.size Acodes capcodes codes) (hqb_codes : NumsB codes) :
    Calls Try.prog 22 #[.agg #[.int .i64 k.o, .int .i64 k.l, .int .i64 k.m, .slice Ak k.ps.length capk, .int .i64 k.base, .int .i64 k.last], .slice Acodes codes.length capcodes] w fun e w' => e = .returned (.bool true) ∧ Below w.heap.size w w' := by
  by_cases big_codes : 1048576 < codes.length
  · have hmx := hq_codes.1
    have hmy := hq_codes.2.1
    unfold maxLen at hmy
    go_enter Try.func22, Try.ntmps22
    go_wp2_with fail
    go_ret
    exact ⟨rfl, by (repeat (first | with_reducible assumption | with_reducible exact Below.refl _ _ | with_reducible refine bel_alloc ?_ _ | with_reducible refine bel_drew ?_ | with_reducible refine bel_drewN ?_ _ | with_reducible refine bel_set ?_ (by first | omega | (simp; done) | (simp; omega)) _ | with_reducible refine bel_trans ?_ (by with_reducible assumption) | exact Below.refl _ _ | assumption | refine bel_alloc ?_ _ | refine bel_drew ?_ | refine bel_drewN ?_ _ | refine bel_set ?_ (by first | omega | (simp; done) | (simp; omega)) _ | refine bel_trans ?_ (by assumption)))⟩
  have hs_codes : codes.length ≤ 1048576 := by omega
  by_cases hn : k.ps.length ≤ 1048576
  · have hw := hin.wf hn
    obtain ⟨b, HS, HI⟩ : ∃ (b : Bool), (∀ (A : Option Addr) (cap L : Nat) (A2 : Option Addr) (cap2 L2 : Nat) (w : World), PsAt w L A cap k.ps → L ≤ w.heap.size → NumsAt w L2 A2 cap2 codes → L2 ≤ w.heap.size → Calls Try.prog 91 #[.agg #[.int .i64 k.o, .int .i64 k.l, .int .i64 k.m, .slice A k.ps.length cap, .int .i64 k.base, .int .i64 k.last], .slice A2 codes.length cap2] w (fun e w' => e = .returned (.bool b) ∧ Below w.heap.size w w')) ∧ (∀ (A : Option Addr) (cap L : Nat) (A2 : Option Addr) (cap2 L2 : Nat) (w : World), PsAt w L A cap k.ps → L ≤ w.heap.size → NumsAt w L2 A2 cap2 codes → L2 ≤ w.heap.size → Calls Try.prog 66 #[.agg #[.int .i64 k.o, .int .i64 k.l, .int .i64 k.m, .slice A k.ps.length cap, .int .i64 k.base, .int .i64 k.last], .slice A2 codes.length cap2] w (fun e w' => e = .returned (.bool b) ∧ Below w.heap.size w w')) := by
      by_cases hk : CodesOk k codes
      · exact ⟨true, fun A cap L A2 cap2 L2 w h hL h2 hL2 => c_sCodesValid_yes k A cap L w h hL A2 cap2 L2 codes h2 hL2 hw hk, fun A cap L A2 cap2 L2 w h hL h2 hL2 => c_CodesValid_yes k A cap L w h hL hw A2 cap2 L2 codes h2 hL2 hs_codes hk⟩
      · exact ⟨false, fun A cap L A2 cap2 L2 w h hL h2 hL2 => c_sCodesValid_no k A cap L w h hL A2 cap2 L2 codes h2 hL2 hw hs_codes hk, fun A cap L A2 cap2 L2 w h hL h2 hL2 => c_CodesValid_no k A cap L w h hL hw A2 cap2 L2 codes h2 hL2 hs_codes hk⟩
    have HP := hid hp
    have HQ_codes := hid hq_codes
    have HS := hid HS
    have HI := hid HI
    clear hp hin hw hq_codes hqb_codes
    go_enter Try.func22, Try.ntmps22
    go_wp2_with fail
    refine (c_szKnown k Ak capk _ hn).mono ?_
    rintro e w1 ⟨rfl, hb1⟩
    have hz1 : w.heap.size ≤ w1.heap.size := by have := hb1.size; first | exact this | (simp only [World.size_alloc] at this; omega)
    have kN1 := (Blk.new _ 73 #[.int .i64 k.o, .int .i64 k.l, .int .i64 k.m, .slice Ak k.ps.length capk, .int .i64 k.base, .int .i64 k.last]).on hb1
    have hB1 : Below w.heap.size w w1 := by (repeat (first | with_reducible assumption | with_reducible exact Below.refl _ _ | with_reducible refine bel_alloc ?_ _ | with_reducible refine bel_drew ?_ | with_reducible refine bel_drewN ?_ _ | with_reducible refine bel_set ?_ (by first | omega | (simp; done) | (simp; omega)) _ | with_reducible refine bel_trans ?_ (by with_reducible assumption) | exact Below.refl _ _ | assumption | refine bel_alloc ?_ _ | refine bel_drew ?_ | refine bel_drewN ?_ _ | refine bel_set ?_ (by first | omega | (simp; done) | (simp; omega)) _ | refine bel_trans ?_ (by assumption)))
    clear hb1
    obtain ⟨q0_0, q0_1, q0_2, q0_3, q0_4, q0_5⟩ := kN1.cells6
    have l0 := kN1.lt
    go_wp2_with fail
    refine (c_toKnown k Ak capk w.heap.size _ (HP.out.below (by (repeat (first | with_reducible assumption | with_reducible exact Below.refl _ _ | with_reducible refine bel_alloc ?_ _ | with_reducible refine bel_drew ?_ | with_reducible refine bel_drewN ?_ _ | with_reducible refine bel_set ?_ (by first | omega | (simp; done) | (simp; omega)) _ | with_reducible refine bel_trans ?_ (by with_reducible assumption) | exact Below.refl _ _ | assumption | refine bel_alloc ?_ _ | refine bel_drew ?_ | refine bel_drewN ?_ _ | refine bel_set ?_ (by first | omega | (simp; done) | (simp; omega)) _ | refine bel_trans ?_ (by assumption)))) (Nat.le_refl _)) (by first | omega | (simp only [World.size_alloc]; omega)) hn).mono ?_
    rintro e w2 ⟨gs0, rfl, hown2, hb2⟩
    have hz2 : w1.heap.size ≤ w2.heap.size := by have := hb2.size; first | exact this | (simp only [World.size_alloc] at this; omega)
    have kN2 := kN1.on hb2
    have hB2 : Below w.heap.size w w2 := by (repeat (first | with_reducible assumption | with_reducible exact Below.refl _ _ | with_reducible refine bel_alloc ?_ _ | with_reducible refine bel_drew ?_ | with_reducible refine bel_drewN ?_ _ | with_reducible refine bel_set ?_ (by first | omega | (simp; done) | (simp; omega)) _ | with_reducible refine bel_trans ?_ (by with_reducible assumption) | exact Below.refl _ _ | assumption | refine bel_alloc ?_ _ | refine bel_drew ?_ | refine bel_drewN ?_ _ | refine bel_set ?_ (by first | omega | (simp; done) | (simp; omega)) _ | refine bel_trans ?_ (by assumption)))
    clear kN1 q0_0 q0_1 q0_2 q0_3 q0_4 q0_5 l0 hb2 hB1
    obtain ⟨q0_0, q0_1, q0_2, q0_3, q0_4, q0_5⟩ := kN2.cells6
    have l0 := kN2.lt
    have os02 := own_mono (B' := w1.heap.size) hown2 (by first | exact Nat.le_refl _ | (simp only [World.size_alloc]; omega) | omega)
    have uos0 := hid (own_upto os02)
    clear hown2
    go_wp2_with fail
    refine (c_toIntS Acodes capcodes codes w.heap.size _ (HQ_codes.out.below (by (repeat (first | with_reducible assumption | with_reducible exact Below.refl _ _ | with_reducible refine bel_alloc ?_ _ | with_reducible refine bel_drew ?_ | with_reducible refine bel_drewN ?_ _ | with_reducible refine bel_set ?_ (by first | omega | (simp; done) | (simp; omega)) _ | with_reducible refine bel_trans ?_ (by with_reducible assumption) | exact Below.refl _ _ | assumption | refine bel_alloc ?_ _ | refine bel_drew ?_ | refine bel_drewN ?_ _ | refine bel_set ?_ (by first | omega | (simp; done) | (simp; omega)) _ | refine bel_trans ?_ (by assumption)))) (Nat.le_refl _)) (by first | omega | (simp only [World.size_alloc]; omega)) hs_codes).mono ?_
    rintro e w3 ⟨gs1, rfl, hown3, hb3⟩
    have hz3 : w2.heap.size ≤ w3.heap.size := by have := hb3.size; first | exact this | (simp only [World.size_alloc] at this; omega)
    have kN3 := kN2.on hb3
    have os03 := own_on os02 hb3
    have hB3 : Below w.heap.size w w3 := by (repeat (first | with_reducible assumption | with_reducible exact Below.refl _ _ | with_reducible refine bel_alloc ?_ _ | with_reducible refine bel_drew ?_ | with_reducible refine bel_drewN ?_ _ | with_reducible refine bel_set ?_ (by first | omega | (simp; done) | (simp; omega)) _ | with_reducible refine bel_trans ?_ (by with_reducible assumption) | exact Below.refl _ _ | assumption | refine bel_alloc ?_ _ | refine bel_drew ?_ | refine bel_drewN ?_ _ | refine bel_set ?_ (by first | omega | (simp; done) | (simp; omega)) _ | refine bel_trans ?_ (by assumption)))
    clear kN2 os02 q0_0 q0_1 q0_2 q0_3 q0_4 q0_5 l0 hb3 hB2
    obtain ⟨q0_0, q0_1, q0_2, q0_3, q0_4, q0_5⟩ := kN3.cells6
    have l0 := kN3.lt
    have os13 := own_mono (B' := w2.heap.size) hown3 (by first | exact Nat.le_refl _ | (simp only [World.size_alloc]; omega) | omega)
    have uos1 := hid (own_upto os13)
    clear hown3
    go_wp2_with fail
    refine (HS.out _ _ _ _ _ _ _ (own_ps_at os03) (Nat.le_refl _) (own_ints_at os13) (Nat.le_refl _)).mono ?_
    rintro e w4 ⟨rfl, hb4⟩
    have hz4 : w3.heap.size ≤ w4.heap.size := by have := hb4.size; first | exact this | (simp only [World.size_alloc] at this; omega)
    have kN4 := kN3.on hb4
    have os04 := own_on os03 hb4
    have os14 := own_on os13 hb4
    have hB4 : Below w.heap.size w w4 := by (repeat (first | with_reducible assumption | with_reducible exact Below.refl _ _ | with_reducible refine bel_alloc ?_ _ | with_reducible refine bel_drew ?_ | with_reducible refine bel_drewN ?_ _ | with_reducible refine bel_set ?_ (by first | omega | (simp; done) | (simp; omega)) _ | with_reducible refine bel_trans ?_ (by with_reducible assumption) | exact Below.refl _ _ | assumption | refine bel_alloc ?_ _ | refine bel_drew ?_ | refine bel_drewN ?_ _ | refine bel_set ?_ (by first | omega | (simp; done) | (simp; omega)) _ | refine bel_trans ?_ (by assumption)))
    clear kN3 os03 os13 q0_0 q0_1 q0_2 q0_3 q0_4 q0_5 l0 hb4 hB3
    obtain ⟨q0_0, q0_1, q0_2, q0_3, q0_4, q0_5⟩ := kN4.cells6
    have l0 := kN4.lt
    clear os04
    clear os14
    go_wp2_with fail
    refine (c_toKnown k Ak capk w.heap.size _ (HP.out.below (by (repeat (first | with_reducible assumption | with_reducible exact Below.refl _ _ | with_reducible refine bel_alloc ?_ _ | with_reducible refine bel_drew ?_ | with_reducible refine bel_drewN ?_ _ | with_reducible refine bel_set ?_ (by first | omega | (simp; done) | (simp; omega)) _ | with_reducible refine bel_trans ?_ (by with_reducible assumption) | exact Below.refl _ _ | assumption | refine bel_alloc ?_ _ | refine bel_drew ?_ | refine bel_drewN ?_ _ | refine bel_set ?_ (by first | omega | (simp; done) | (simp; omega)) _ | refine bel_trans ?_ (by assumption)))) (Nat.le_refl _)) (by first | omega | (simp only [World.size_alloc]; omega)) hn).mono ?_
    rintro e w5 ⟨gx0, rfl, hown5, hb5⟩
    have hz5 : w4.heap.size ≤ w5.heap.size := by have := hb5.size; first | exact this | (simp only [World.size_alloc] at this; omega)
    have kN5 := kN4.on hb5
    have hB5 : Below w.heap.size w w5 := by (repeat (first | with_reducible assumption | with_reducible exact Below.refl _ _ | with_reducible refine bel_alloc ?_ _ | with_reducible refine bel_drew ?_ | with_reducible refine bel_drewN ?_ _ | with_reducible refine bel_set ?_ (by first | omega | (simp; done) | (simp; omega)) _ | with_reducible refine bel_trans ?_ (by with_reducible assumption) | exact Below.refl _ _ | assumption | refine bel_alloc ?_ _ | refine bel_drew ?_ | refine bel_drewN ?_ _ | refine bel_set ?_ (by first | omega | (simp; done) | (simp; omega)) _ | refine bel_trans ?_ (by assumption)))
    clear kN4 q0_0 q0_1 q0_2 q0_3 q0_4 q0_5 l0 hb5 hB4
    obtain ⟨q0_0, q0_1, q0_2, q0_3, q0_4, q0_5⟩ := kN5.cells6
    have l0 := kN5.lt
    have ox05 := own_mono (B' := w4.heap.size) hown5 (by first | exact Nat.le_refl _ | (simp only [World.size_alloc]; omega) | omega)
    have uox0 := hid (own_upto ox05)
    clear hown5
    go_wp2_with fail
    refine (c_toIntS Acodes capcodes codes w.heap.size _ (HQ_codes.out.below (by (repeat (first | with_reducible assumption | with_reducible exact Below.refl _ _ | with_reducible refine bel_alloc ?_ _ | with_reducible refine bel_drew ?_ | with_reducible refine bel_drewN ?_ _ | with_reducible refine bel_set ?_ (by first | omega | (simp; done) | (simp; omega)) _ | with_reducible refine bel_trans ?_ (by with_reducible assumption) | exact Below.refl _ _ | assumption | refine bel_alloc ?_ _ | refine bel_drew ?_ | refine bel_drewN ?_ _ | refine bel_set ?_ (by first | omega | (simp; done) | (simp; omega)) _ | refine bel_trans ?_ (by assumption)))) (Nat.le_refl _)) (by first | omega | (simp only [World.size_alloc]; omega)) hs_codes).mono ?_
    rintro e w6 ⟨gx1, rfl, hown6, hb6⟩
    have hz6 : w5.heap.size ≤ w6.heap.size := by have := hb6.size; first | exact this | (simp only [World.size_alloc] at this; omega)
    have kN6 := (kN5.alloc _).on hb6
    have kX6 := (Blk.new _ 28 #[.int .i64 k.o, .int .i64 k.l, .int .i64 k.m, .slice (some ⟨gx0, 0, none⟩) k.ps.length k.ps.length, .int .i64 k.base, .int .i64 k.last]).on hb6
    have ox06 := own_on (ox05.alloc _) hb6
    have hB6 : Below w.heap.size w w6 := by (repeat (first | with_reducible assumption | with_reducible exact Below.refl _ _ | with_reducible refine bel_alloc ?_ _ | with_reducible refine bel_drew ?_ | with_reducible refine bel_drewN ?_ _ | with_reducible refine bel_set ?_ (by first | omega | (simp; done) | (simp; omega)) _ | with_reducible refine bel_trans ?_ (by with_reducible assumption) | exact Below.refl _ _ | assumption | refine bel_alloc ?_ _ | refine bel_drew ?_ | refine bel_drewN ?_ _ | refine bel_set ?_ (by first | omega | (simp; done) | (simp; omega)) _ | refine bel_trans ?_ (by assumption)))
    clear kN5 ox05 q0_0 q0_1 q0_2 q0_3 q0_4 q0_5 l0 hb6 hB5
    obtain ⟨q0_0, q0_1, q0_2, q0_3, q0_4, q0_5⟩ := kN6.cells6
    have l0 := kN6.lt
    obtain ⟨q1_0, q1_1, q1_2, q1_3, q1_4, q1_5⟩ := kX6.cells6
    have l1 := kX6.lt
    have ox16 := own_mono (B' := w5.heap.size) hown6 (by first | exact Nat.le_refl _ | (simp only [World.size_alloc]; omega) | omega)
    have uox1 := hid (own_upto ox16)
    clear hown6
    go_wp2_with fail
    refine (HI.out _ _ _ _ _ _ _ (own_ps_at ox06) (Nat.le_refl _) (own_ints_at ox16) (Nat.le_refl _)).mono ?_
    rintro e w7 ⟨rfl, hb7⟩
    have hz7 : w6.heap.size ≤ w7.heap.size := by have := hb7.size; first | exact this | (simp only [World.size_alloc] at this; omega)
    have kN7 := kN6.on hb7
    have kX7 := kX6.on hb7
    have ox07 := own_on ox06 hb7
    have ox17 := own_on ox16 hb7
    have hB7 : Below w.heap.size w w7 := by (repeat (first | with_reducible assumption | with_reducible exact Below.refl _ _ | with_reducible refine bel_alloc ?_ _ | with_reducible refine bel_drew ?_ | with_reducible refine bel_drewN ?_ _ | with_reducible refine bel_set ?_ (by first | omega | (simp; done) | (simp; omega)) _ | with_reducible refine bel_trans ?_ (by with_reducible assumption) | exact Below.refl _ _ | assumption | refine bel_alloc ?_ _ | refine bel_drew ?_ | refine bel_drewN ?_ _ | refine bel_set ?_ (by first | omega | (simp; done) | (simp; omega)) _ | refine bel_trans ?_ (by assumption)))
    clear kN6 kX6 ox06 ox16 q0_0 q0_1 q0_2 q0_3 q0_4 q0_5 l0 q1_0 q1_1 q1_2 q1_3 q1_4 q1_5 l1 hb7 hB6
    obtain ⟨q0_0, q0_1, q0_2, q0_3, q0_4, q0_5⟩ := kN7.cells6
    have l0 := kN7.lt
    obtain ⟨q1_0, q1_1, q1_2, q1_3, q1_4, q1_5⟩ := kX7.cells6
    have l1 := kX7.lt
    go_wp2_with fail
    have hS := held12 kN7.cells6 kX7.cells6 (Below.refl w7.heap.size w7)
    refine wp_region_noPanic ?_
    refine wp_region_held_drew (S := (fun v => v.cell? ⟨w.heap.size, 0, none⟩ = some (.int .i64 k.o) ∧ v.cell? ⟨w.heap.size, 1, none⟩ = some (.int .i64 k.l) ∧ v.cell? ⟨w.heap.size, 2, none⟩ = some (.int .i64 k.m) ∧ v.cell? ⟨w.heap.size, 3, none⟩ = some (.slice Ak k.ps.length capk) ∧ v.cell? ⟨w.heap.size, 4, none⟩ = some (.int .i64 k.base) ∧ v.cell? ⟨w.heap.size, 5, none⟩ = some (.int .i64 k.last) ∧ v.cell? ⟨w5.heap.size, 0, none⟩ = some (.int .i64 k.o) ∧ v.cell? ⟨w5.heap.size, 1, none⟩ = some (.int .i64 k.l) ∧ v.cell? ⟨w5.heap.size, 2, none⟩ = some (.int .i64 k.m) ∧ v.cell? ⟨w5.heap.size, 3, none⟩ = some (.slice (some ⟨gx0, 0, none⟩) k.ps.length k.ps.length) ∧ v.cell? ⟨w5.heap.size, 4, none⟩ = some (.int .i64 k.base) ∧ v.cell? ⟨w5.heap.size, 5, none⟩ = some (.int .i64 k.last) ∧ Below w7.heap.size w7 v)) (by kernel_rfl) (s12_drew hS) (fun hHeld => ?_)
    refine wpAnyH_take (i := 0) (oi := ?or1_0) (v := ?vr1_0) ?ir1_0 (by kernel_rfl) (by kernel_rfl) (by kernel_rfl) (fun _ _ _ h => h) ?yr1_0 (by assumption) ?wr1_0
    case ir1_0 => (simp only [List.getElem?_toArray, List.getElem?_cons_zero]; rfl)
    case yr1_0 => exact Or.inl ⟨by rfl, by intro v hSw; (try dsimp only at hSw); go_simp; try with_reducible rfl⟩
    try simp only [Act.put, List.setIfInBounds_toArray, List.set_cons_zero, List.set_cons_succ]
    refine wpAnyH_take (i := 1) (oi := ?or1_1) (v := ?vr1_1) ?ir1_1 (by kernel_rfl) (by kernel_rfl) (by kernel_rfl) (fun _ _ _ h => h) ?yr1_1 (by assumption) ?wr1_1
    case ir1_1 => (simp only [List.getElem?_toArray, List.getElem?_cons_succ, List.getElem?_cons_zero]; rfl)
    case yr1_1 => exact Or.inl ⟨by rfl, by intro v hSw; (try dsimp only at hSw); go_simp; try with_reducible rfl⟩
    try simp only [Act.put, List.setIfInBounds_toArray, List.set_cons_zero, List.set_cons_succ]
    refine wpAnyH_ready (rs := [2]) (by kernel_rfl) (by simp) ?_
    refine AllReadyH.cons (o := ?or1_2) ?ir1_2 (fun K hK => ?sr1_2) AllReadyH.nil
    case ir1_2 => (simp only [List.getElem?_toArray, List.getElem?_cons_succ, List.getElem?_cons_zero]; rfl)
    (first | (go_simp; (first | (go_at_call 87; refine (c_toKnown k Ak capk w.heap.size _ (HP.out.below (bel_trans hB7 hHeld.2.2.2.2.2.2.2.2.2.2.2.2) (Nat.le_refl _)) (bel_trans hB7 hHeld.2.2.2.2.2.2.2.2.2.2.2.2).size hn).mono ?_; rintro e wt8 ⟨gt8, rfl, hownt8, hbt8⟩) | (go_at_call 88; refine (c_eqKnown k _ _ _ _ w7.heap.size _ _ ((own_ps_at ox07).below hHeld.2.2.2.2.2.2.2.2.2.2.2.2 (Nat.le_refl _)) (own_ps_at hownt8) (hHeld.2.2.2.2.2.2.2.2.2.2.2.2).size (Nat.le_refl _) hn).mono ?_; rintro e w8 ⟨rfl, hbq8⟩) | skip)))
    refine hK.out _ _ ?kr1_2 (fun hHeld => ?_)
    case kr1_2 => (try dsimp only); (first | with_reducible assumption | exact s12_bel (by assumption) (by assumption) | assumption | exact s12_alloc (by assumption) _)
    clear hK K
    try simp only [Act.put, List.setIfInBounds_toArray, List.set_cons_zero, List.set_cons_succ]
    refine wpAnyH_ready (rs := [3]) (by kernel_rfl) (by simp) ?_
    refine AllReadyH.cons (o := ?or1_3) ?ir1_3 (fun K hK => ?sr1_3) AllReadyH.nil
    case ir1_3 => (simp only [List.getElem?_toArray, List.getElem?_cons_succ, List.getElem?_cons_zero]; rfl)
    (first | (go_simp; (first | (go_at_call 87; refine (c_toKnown k Ak capk w.heap.size _ (HP.out.below (bel_trans hB7 hHeld.2.2.2.2.2.2.2.2.2.2.2.2) (Nat.le_refl _)) (bel_trans hB7 hHeld.2.2.2.2.2.2.2.2.2.2.2.2).size hn).mono ?_; rintro e wt8 ⟨gt8, rfl, hownt8, hbt8⟩) | (go_at_call 88; refine (c_eqKnown k _ _ _ _ w7.heap.size _ _ ((own_ps_at ox07).below hHeld.2.2.2.2.2.2.2.2.2.2.2.2 (Nat.le_refl _)) (own_ps_at hownt8) (hHeld.2.2.2.2.2.2.2.2.2.2.2.2).size (Nat.le_refl _) hn).mono ?_; rintro e w8 ⟨rfl, hbq8⟩) | skip)))
    refine hK.out _ _ ?kr1_3 (fun hHeld => ?_)
    case kr1_3 => (try dsimp only); (first | with_reducible assumption | exact s12_bel (by assumption) (by assumption) | assumption | exact s12_alloc (by assumption) _)
    clear hK K
    try simp only [Act.put, List.setIfInBounds_toArray, List.set_cons_zero, List.set_cons_succ]
    refine wpAnyH_take (i := 4) (oi := ?or1_4) (v := ?vr1_4) ?ir1_4 (by kernel_rfl) (by kernel_rfl) (by kernel_rfl) (fun _ _ _ h => h) ?yr1_4 (by assumption) ?wr1_4
    case ir1_4 => (simp only [List.getElem?_toArray, List.getElem?_cons_succ, List.getElem?_cons_zero]; rfl)
    case yr1_4 => exact Or.inl ⟨by rfl, by intro v hSw; (try dsimp only at hSw); go_simp; try with_reducible rfl⟩
    try simp only [Act.put, List.setIfInBounds_toArray, List.set_cons_zero, List.set_cons_succ]
    refine wpAnyH_done (by kernel_rfl) ?_ _
    refine NoPanic.normal ?_
    have hb8 := hHeld.2.2.2.2.2.2.2.2.2.2.2.2
    clear hHeld hS hbq8 hbt8 hownt8
    have hz8 : w7.heap.size ≤ w8.heap.size := by have := hb8.size; first | exact this | (simp only [World.size_alloc] at this; omega)
    have kN8 := kN7.on hb8
    have kX8 := kX7.on hb8
    have ox08 := own_on ox07 hb8
    have ox18 := own_on ox17 hb8
    have hB8 : Below w.heap.size w w8 := by (repeat (first | with_reducible assumption | with_reducible exact Below.refl _ _ | with_reducible refine bel_alloc ?_ _ | with_reducible refine bel_drew ?_ | with_reducible refine bel_drewN ?_ _ | with_reducible refine bel_set ?_ (by first | omega | (simp; done) | (simp; omega)) _ | with_reducible refine bel_trans ?_ (by with_reducible assumption) | exact Below.refl _ _ | assumption | refine bel_alloc ?_ _ | refine bel_drew ?_ | refine bel_drewN ?_ _ | refine bel_set ?_ (by first | omega | (simp; done) | (simp; omega)) _ | refine bel_trans ?_ (by assumption)))
    clear kN7 kX7 ox07 ox17 q0_0 q0_1 q0_2 q0_3 q0_4 q0_5 l0 q1_0 q1_1 q1_2 q1_3 q1_4 q1_5 l1 hb8 hB7
    obtain ⟨q0_0, q0_1, q0_2, q0_3, q0_4, q0_5⟩ := kN8.cells6
    have l0 := kN8.lt
    obtain ⟨q1_0, q1_1, q1_2, q1_3, q1_4, q1_5⟩ := kX8.cells6
    have l1 := kX8.lt
    go_wp2_with fail
    refine (c_toIntS Acodes capcodes codes w.heap.size _ (HQ_codes.out.below (by (repeat (first | with_reducible assumption | with_reducible exact Below.refl _ _ | with_reducible refine bel_alloc ?_ _ | with_reducible refine bel_drew ?_ | with_reducible refine bel_drewN ?_ _ | with_reducible refine bel_set ?_ (by first | omega | (simp; done) | (simp; omega)) _ | with_reducible refine bel_trans ?_ (by with_reducible assumption) | exact Below.refl _ _ | assumption | refine bel_alloc ?_ _ | refine bel_drew ?_ | refine bel_drewN ?_ _ | refine bel_set ?_ (by first | omega | (simp; done) | (simp; omega)) _ | refine bel_trans ?_ (by assumption)))) (Nat.le_refl _)) (by first | omega | (simp only [World.size_alloc]; omega)) hs_codes).mono ?_
    rintro e w9 ⟨gy8, rfl, hown9, hb9⟩
    have hz9 : w8.heap.size ≤ w9.heap.size := by have := hb9.size; first | exact this | (simp only [World.size_alloc] at this; omega)
    have kN9 := kN8.on hb9
    have kX9 := kX8.on hb9
    have ox09 := own_on ox08 hb9
    have ox19 := own_on ox18 hb9
    have hB9 : Below w.heap.size w w9 := by (repeat (first | with_reducible assumption | with_reducible exact Below.refl _ _ | with_reducible refine bel_alloc ?_ _ | with_reducible refine bel_drew ?_ | with_reducible refine bel_drewN ?_ _ | with_reducible refine bel_set ?_ (by first | omega | (simp; done) | (simp; omega)) _ | with_reducible refine bel_trans ?_ (by with_reducible assumption) | exact Below.refl _ _ | assumption | refine bel_alloc ?_ _ | refine bel_drew ?_ | refine bel_drewN ?_ _ | refine bel_set ?_ (by first | omega | (simp; done) | (simp; omega)) _ | refine bel_trans ?_ (by assumption)))
    clear kN8 kX8 ox08 ox18 q0_0 q0_1 q0_2 q0_3 q0_4 q0_5 l0 q1_0 q1_1 q1_2 q1_3 q1_4 q1_5 l1 hb9 hB8
    obtain ⟨q0_0, q0_1, q0_2, q0_3, q0_4, q0_5⟩ := kN9.cells6
    have l0 := kN9.lt
    obtain ⟨q1_0, q1_1, q1_2, q1_3, q1_4, q1_5⟩ := kX9.cells6
    have l1 := kX9.lt
    have oy89 := own_mono (B' := w8.heap.size) hown9 (by first | exact Nat.le_refl _ | (simp only [World.size_alloc]; omega) | omega)
    have uoy8 := hid (own_upto oy89)
    clear hown9
    go_wp2_with fail
    refine (c_eqIntS _ _ _ _ codes _ _ _ (own_ints_at ox19) (own_ints_at oy89) (Nat.le_refl _) (Nat.le_refl _) hs_codes).mono ?_
    rintro e w10 ⟨rfl, hb10⟩
    have hz10 : w9.heap.size ≤ w10.heap.size := by have := hb10.size; first | exact this | (simp only [World.size_alloc] at this; omega)
    have kN10 := kN9.on hb10
    have kX10 := kX9.on hb10
    have ox010 := own_on ox09 hb10
    have ox110 := own_on ox19 hb10
    have oy810 := own_on oy89 hb10
    have hB10 : Below w.heap.size w w10 := by (repeat (first | with_reducible assumption | with_reducible exact Below.refl _ _ | with_reducible refine bel_alloc ?_ _ | with_reducible refine bel_drew ?_ | with_reducible refine bel_drewN ?_ _ | with_reducible refine bel_set ?_ (by first | omega | (simp; done) | (simp; omega)) _ | with_reducible refine bel_trans ?_ (by with_reducible assumption) | exact Below.refl _ _ | assumption | refine bel_alloc ?_ _ | refine bel_drew ?_ | refine bel_drewN ?_ _ | refine bel_set ?_ (by first | omega | (simp; done) | (simp; omega)) _ | refine bel_trans ?_ (by assumption)))
    clear kN9 kX9 ox09 ox19 oy89 q0_0 q0_1 q0_2 q0_3 q0_4 q0_5 l0 q1_0 q1_1 q1_2 q1_3 q1_4 q1_5 l1 hb10 hB9
    obtain ⟨q0_0, q0_1, q0_2, q0_3, q0_4, q0_5⟩ := kN10.cells6
    have l0 := kN10.lt
    obtain ⟨q1_0, q1_1, q1_2, q1_3, q1_4, q1_5⟩ := kX10.cells6
    have l1 := kX10.lt
    clear oy810
    go_wp2
    go_ret
    exact ⟨rfl, by (repeat (first | with_reducible assumption | with_reducible exact Below.refl _ _ | with_reducible refine bel_alloc ?_ _ | with_reducible refine bel_drew ?_ | with_reducible refine bel_drewN ?_ _ | with_reducible refine bel_set ?_ (by first | omega | (simp; done) | (simp; omega)) _ | with_reducible refine bel_trans ?_ (by with_reducible assumption) | exact Below.refl _ _ | assumption | refine bel_alloc ?_ _ | refine bel_drew ?_ | refine bel_drewN ?_ _ | refine bel_set ?_ (by first | omega | (simp; done) | (simp; omega)) _ | refine bel_trans ?_ (by assumption)))⟩
  · have hb := hp.1
    have hcm := hp.2.1
    go_enter Try.func22, Try.ntmps22
    go_wp2_with fail
    refine (c_szKnown_big k Ak capk _ (by omega) (by omega)).mono ?_
    rintro e w1 ⟨rfl, hb1⟩
    have hc1 := bcell hb1
    have hz1_0 : w.heap.size < w1.heap.size := (by have := hb1.size; first | omega | (simp at this; omega))
    go_wp2
    go_ret
    exact ⟨rfl, by (repeat (first | with_reducible assumption | with_reducible exact Below.refl _ _ | with_reducible refine bel_alloc ?_ _ | with_reducible refine bel_drew ?_ | with_reducible refine bel_drewN ?_ _ | with_reducible refine bel_set ?_ (by first | omega | (simp; done) | (simp; omega)) _ | with_reducible refine bel_trans ?_ (by with_reducible assumption) | exact Below.refl _ _ | assumption | refine bel_alloc ?_ _ | refine bel_drew ?_ | refine bel_drewN ?_ _ | refine bel_set ?_ (by first | omega | (simp; done) | (simp; omega)) _ | refine bel_trans ?_ (by assumption)))⟩

set_option maxHeartbeats 4000000 in
set_option maxRecDepth 100000 in
theorem walk_FnExactCodesWidths (k : Kn) (Ak : Option Addr) (capk : Nat) (codes : List Int) (Acodes : Option Addr) (capcodes : Nat) (w : World) (hp : PsAt w w.heap.size Ak capk k.ps) (hin : k.In) (hq_codes : NumsAt w w.heap.size Acodes capcodes codes) (hqb_codes : NumsB codes) :
    Calls Try.prog 23 #[.agg #[.int .i64 k.o, .int .i64 k.l, .int .i64 k.m, .slice Ak k.ps.length capk, .int .i64 k.base, .int .i64 k.last], .slice Acodes codes.length capcodes] w fun e w' => e = .returned (.bool true) ∧ Below w.heap.size w w' := by
  by_cases big_codes : 1048576 < codes.length
  · have hmx := hq_codes.1
    have hmy := hq_codes.2.1
    unfold maxLen at hmy
    go_enter Try.func23, Try.ntmps23
    go_wp2_with fail
    go_ret
    exact ⟨rfl, by (repeat (first | with_reducible assumption | with_reducible exact Below.refl _ _ | with_reducible refine bel_alloc ?_ _ | with_reducible refine bel_drew ?_ | with_reducible refine bel_drewN ?_ _ | with_reducible refine bel_set ?_ (by first | omega | (simp; done) | (simp; omega)) _ | with_reducible refine bel_trans ?_ (by with_reducible assumption) | exact Below.refl _ _ | assumption | refine bel_alloc ?_ _ | refine bel_drew ?_ | refine bel_drewN ?_ _ | refine bel_set ?_ (by first | omega | (simp; done) | (simp; omega)) _ | refine bel_trans ?_ (by assumption)))⟩
  have hs_codes : codes.length ≤ 1048576 := by omega
  by_cases hn : k.ps.length ≤ 1048576
  · have hw := hin.wf hn
    obtain ⟨R, b, hl0, HS, HI⟩ : ∃ (R : List Int) (b : Bool), R.length ≤ 1048576 ∧ (∀ (A : Option Addr) (cap L : Nat) (A2 : Option Addr) (cap2 L2 : Nat) (w : World), PsAt w L A cap k.ps → L ≤ w.heap.size → NumsAt w L2 A2 cap2 codes → L2 ≤ w.heap.size → Calls Try.prog 94 #[.agg #[.int .i64 k.o, .int .i64 k.l, .int .i64 k.m, .slice A k.ps.length cap, .int .i64 k.base, .int .i64 k.last], .slice A2 codes.length cap2] w (fun e w' => ∃ A0_ cap0_, e = .returned (.tuple #[.slice A0_ R.length cap0_, .bool b]) ∧ w'.ownsRow w.heap.size 3 1 (.slice A0_ R.length cap0_) R.length (R.map iv) ∧ Below w.heap.size w w')) ∧ (∀ (A : Option Addr) (cap L : Nat) (A2 : Option Addr) (cap2 L2 : Nat) (w : World), PsAt w L A cap k.ps → L ≤ w.heap.size → NumsAt w L2 A2 cap2 codes → L2 ≤ w.heap.size → Calls Try.prog 67 #[.agg #[.int .i64 k.o, .int .i64 k.l, .int .i64 k.m, .slice A k.ps.length cap, .int .i64 k.base, .int .i64 k.last], .slice A2 codes.length cap2] w (fun e w' => ∃ A0_ cap0_, e = .returned (.tuple #[.slice A0_ R.length cap0_, .bool b]) ∧ w'.ownsRow w.heap.size 3 1 (.slice A0_ R.length cap0_) R.length (R.map iv) ∧ Below w.heap.size w w')) := by
      by_cases hk : CodesOk k codes
      · exact ⟨k.widths codes, true, by rw [Kn.widths_length]; exact hs_codes, fun A cap L A2 cap2 L2 w h hL h2 hL2 => c_sCodesWidths_yes k A cap L w h hL A2 cap2 L2 codes h2 hL2 hw hk, fun A cap L A2 cap2 L2 w h hL h2 hL2 => c_CodesWidths_yes k A cap L w h hL hw A2 cap2 L2 codes h2 hL2 hs_codes hk⟩
      · exact ⟨[], false, by simp, fun A cap L A2 cap2 L2 w h hL h2 hL2 => c_sCodesWidths_no k A cap L w h hL A2 cap2 L2 codes h2 hL2 hw hs_codes hk, (fun A cap L A2 cap2 L2 w h hL h2 hL2 => (c_CodesWidths_no k A cap L w h hL hw A2 cap2 L2 codes h2 hL2 hs_codes hk).mono fun e w' ⟨q1, q2⟩ => ⟨none, 0, q1, own_ints_nil _ _ _, q2⟩)⟩
    have HP := hid hp
    have HQ_codes := hid hq_codes
    have HS := hid HS
    have HI := hid HI
    clear hp hin hw hq_codes hqb_codes
    go_enter Try.func23, Try.ntmps23
    go_wp2_with fail
    refine (c_szKnown k Ak capk _ hn).mono ?_
    rintro e w1 ⟨rfl, hb1⟩
    have hz1 : w.heap.size ≤ w1.heap.size := by have := hb1.size; first | exact this | (simp only [World.size_alloc] at this; omega)
    have kN1 := (Blk.new _ 73 #[.int .i64 k.o, .int .i64 k.l, .int .i64 k.m, .slice Ak k.ps.length capk, .int .i64 k.base, .int .i64 k.last]).on hb1
    have hB1 : Below w.heap.size w w1 := by (repeat (first | with_reducible assumption | with_reducible exact Below.refl _ _ | with_reducible refine bel_alloc ?_ _ | with_reducible refine bel_drew ?_ | with_reducible refine bel_drewN ?_ _ | with_reducible refine bel_set ?_ (by first | omega | (simp; done) | (simp; omega)) _ | with_reducible refine bel_trans ?_ (by with_reducible assumption) | exact Below.refl _ _ | assumption | refine bel_alloc ?_ _ | refine bel_drew ?_ | refine bel_drewN ?_ _ | refine bel_set ?_ (by first | omega | (simp; done) | (simp; omega)) _ | refine bel_trans ?_ (by assumption)))
    clear hb1
    obtain ⟨q0_0, q0_1, q0_2, q0_3, q0_4, q0_5⟩ := kN1.cells6
    have l0 := kN1.lt
    go_wp2_with fail
    refine (c_toKnown k Ak capk w.heap.size _ (HP.out.below (by (repeat (first | with_reducible assumption | with_reducible exact Below.refl _ _ | with_reducible refine bel_alloc ?_ _ | with_reducible refine bel_drew ?_ | with_reducible refine bel_drewN ?_ _ | with_reducible refine bel_set ?_ (by first | omega | (simp; done) | (simp; omega)) _ | with_reducible refine bel_trans ?_ (by with_reducible assumption) | exact Below.refl _ _ | assumption | refine bel_alloc ?_ _ | refine bel_drew ?_ | refine bel_drewN ?_ _ | refine bel_set ?_ (by first | omega | (simp; done) | (simp; omega)) _ | refine bel_trans ?_ (by assumption)))) (Nat.le_refl _)) (by first | omega | (simp only [World.size_alloc]; omega)) hn).mono ?_
    rintro e w2 ⟨gs0, rfl, hown2, hb2⟩
    have hz2 : w1.heap.size ≤ w2.heap.size := by have := hb2.size; first | exact this | (simp only [World.size_alloc] at this; omega)
    have kN2 := kN1.on hb2
    have hB2 : Below w.heap.size w w2 := by (repeat (first | with_reducible assumption | with_reducible exact Below.refl _ _ | with_reducible refine bel_alloc ?_ _ | with_reducible refine bel_drew ?_ | with_reducible refine bel_drewN ?_ _ | with_reducible refine bel_set ?_ (by first | omega | (simp; done) | (simp; omega)) _ | with_reducible refine bel_trans ?_ (by with_reducible assumption) | exact Below.refl _ _ | assumption | refine bel_alloc ?_ _ | refine bel_drew ?_ | refine bel_drewN ?_ _ | refine bel_set ?_ (by first | omega | (simp; done) | (simp; omega)) _ | refine bel_trans ?_ (by assumption)))
    clear kN1 q0_0 q0_1 q0_2 q0_3 q0_4 q0_5 l0 hb2 hB1
    obtain ⟨q0_0, q0_1, q0_2, q0_3, q0_4, q0_5⟩ := kN2.cells6
    have l0 := kN2.lt
    have os02 := own_mono (B' := w1.heap.size) hown2 (by first | exact Nat.le_refl _ | (simp only [World.size_alloc]; omega) | omega)
    have uos0 := hid (own_upto os02)
    clear hown2
    go_wp2_with fail
    refine (c_toIntS Acodes capcodes codes w.heap.size _ (HQ_codes.out.below (by (repeat (first | with_reducible assumption | with_reducible exact Below.refl _ _ | with_reducible refine bel_alloc ?_ _ | with_reducible refine bel_drew ?_ | with_reducible refine bel_drewN ?_ _ | with_reducible refine bel_set ?_ (by first | omega | (simp; done) | (simp; omega)) _ | with_reducible refine bel_trans ?_ (by with_reducible assumption) | exact Below.refl _ _ | assumption | refine bel_alloc ?_ _ | refine bel_drew ?_ | refine bel_drewN ?_ _ | refine bel_set ?_ (by first | omega | (simp; done) | (simp; omega)) _ | refine bel_trans ?_ (by assumption)))) (Nat.le_refl _)) (by first | omega | (simp only [World.size_alloc]; omega)) hs_codes).mono ?_
    rintro e w3 ⟨gs1, rfl, hown3, hb3⟩
    have hz3 : w2.heap.size ≤ w3.heap.size := by have := hb3.size; first | exact this | (simp only [World.size_alloc] at this; omega)
    have kN3 := kN2.on hb3
    have os03 := own_on os02 hb3
    have hB3 : Below w.heap.size w w3 := by (repeat (first | with_reducible assumption | with_reducible exact Below.refl _ _ | with_reducible refine bel_alloc ?_ _ | with_reducible refine bel_drew ?_ | with_reducible refine bel_drewN ?_ _ | with_reducible refine bel_set ?_ (by first | omega | (simp; done) | (simp; omega)) _ | with_reducible refine bel_trans ?_ (by with_reducible assumption) | exact Below.refl _ _ | assumption | refine bel_alloc ?_ _ | refine bel_drew ?_ | refine bel_drewN ?_ _ | refine bel_set ?_ (by first | omega | (simp; done) | (simp; omega)) _ | refine bel_trans ?_ (by assumption)))
    clear kN2 os02 q0_0 q0_1 q0_2 q0_3 q0_4 q0_5 l0 hb3 hB2
    obtain ⟨q0_0, q0_1, q0_2, q0_3, q0_4, q0_5⟩ := kN3.cells6
    have l0 := kN3.lt
    have os13 := own_mono (B' := w2.heap.size) hown3 (by first | exact Nat.le_refl _ | (simp only [World.size_alloc]; omega) | omega)
    have uos1 := hid (own_upto os13)
    clear hown3
    go_wp2_with fail
    refine (HS.out _ _ _ _ _ _ _ (own_ps_at os03) (Nat.le_refl _) (own_ints_at os13) (Nat.le_refl _)).mono ?_
    rintro e w4 ⟨AW0, cW0, rfl, hrW0, hb4⟩
    have hz4 : w3.heap.size ≤ w4.heap.size := by have := hb4.size; first | exact this | (simp only [World.size_alloc] at this; omega)
    have kN4 := kN3.on hb4
    have os04 := own_on os03 hb4
    have os14 := own_on os13 hb4
    have hB4 : Below w.heap.size w w4 := by (repeat (first | with_reducible assumption | with_reducible exact Below.refl _ _ | with_reducible refine bel_alloc ?_ _ | with_reducible refine bel_drew ?_ | with_reducible refine bel_drewN ?_ _ | with_reducible refine bel_set ?_ (by first | omega | (simp; done) | (simp; omega)) _ | with_reducible refine bel_trans ?_ (by with_reducible assumption) | exact Below.refl _ _ | assumption | refine bel_alloc ?_ _ | refine bel_drew ?_ | refine bel_drewN ?_ _ | refine bel_set ?_ (by first | omega | (simp; done) | (simp; omega)) _ | refine bel_trans ?_ (by assumption)))
    clear kN3 os03 os13 q0_0 q0_1 q0_2 q0_3 q0_4 q0_5 l0 hb4 hB3
    obtain ⟨q0_0, q0_1, q0_2, q0_3, q0_4, q0_5⟩ := kN4.cells6
    have l0 := kN4.lt
    have oW04 := own_mono (B' := w3.heap.size) hrW0 (by first | exact Nat.le_refl _ | (simp only [World.size_alloc]; omega) | omega)
    have uoW0 := hid (own_upto oW04)
    clear hrW0
    clear os04
    clear os14
    go_wp2_with fail
    refine (c_toKnown k Ak capk w.heap.size _ (HP.out.below (by (repeat (first | with_reducible assumption | with_reducible exact Below.refl _ _ | with_reducible refine bel_alloc ?_ _ | with_reducible refine bel_drew ?_ | with_reducible refine bel_drewN ?_ _ | with_reducible refine bel_set ?_ (by first | omega | (simp; done) | (simp; omega)) _ | with_reducible refine bel_trans ?_ (by with_reducible assumption) | exact Below.refl _ _ | assumption | refine bel_alloc ?_ _ | refine bel_drew ?_ | refine bel_drewN ?_ _ | refine bel_set ?_ (by first | omega | (simp; done) | (simp; omega)) _ | refine bel_trans ?_ (by assumption)))) (Nat.le_refl _)) (by first | omega | (simp only [World.size_alloc]; omega)) hn).mono ?_
    rintro e w5 ⟨gx0, rfl, hown5, hb5⟩
    have hz5 : w4.heap.size ≤ w5.heap.size := by have := hb5.size; first | exact this | (simp only [World.size_alloc] at this; omega)
    have kN5 := kN4.on hb5
    have oW05 := own_on oW04 hb5
    have hB5 : Below w.heap.size w w5 := by (repeat (first | with_reducible assumption | with_reducible exact Below.refl _ _ | with_reducible refine bel_alloc ?_ _ | with_reducible refine bel_drew ?_ | with_reducible refine bel_drewN ?_ _ | with_reducible refine bel_set ?_ (by first | omega | (simp; done) | (simp; omega)) _ | with_reducible refine bel_trans ?_ (by with_reducible assumption) | exact Below.refl _ _ | assumption | refine bel_alloc ?_ _ | refine bel_drew ?_ | refine bel_drewN ?_ _ | refine bel_set ?_ (by first | omega | (simp; done) | (simp; omega)) _ | refine bel_trans ?_ (by assumption)))
    clear kN4 oW04 q0_0 q0_1 q0_2 q0_3 q0_4 q0_5 l0 hb5 hB4
    obtain ⟨q0_0, q0_1, q0_2, q0_3, q0_4, q0_5⟩ := kN5.cells6
    have l0 := kN5.lt
    have ox05 := own_mono (B' := w4.heap.size) hown5 (by first | exact Nat.le_refl _ | (simp only [World.size_alloc]; omega) | omega)
    have uox0 := hid (own_upto ox05)
    clear hown5
    go_wp2_with fail
    refine (c_toIntS Acodes capcodes codes w.heap.size _ (HQ_codes.out.below (by (repeat (first | with_reducible assumption | with_reducible exact Below.refl _ _ | with_reducible refine bel_alloc ?_ _ | with_reducible refine bel_drew ?_ | with_reducible refine bel_drewN ?_ _ | with_reducible refine bel_set ?_ (by first | omega | (simp; done) | (simp; omega)) _ | with_reducible refine bel_trans ?_ (by with_reducible assumption) | exact Below.refl _ _ | assumption | refine bel_alloc ?_ _ | refine bel_drew ?_ | refine bel_drewN ?_ _ | refine bel_set ?_ (by first | omega | (simp; done) | (simp; omega)) _ | refine bel_trans ?_ (by assumption)))) (Nat.le_refl _)) (by first | omega | (simp only [World.size_alloc]; omega)) hs_codes).mono ?_
    rintro e w6 ⟨gx1, rfl, hown6, hb6⟩
    have hz6 : w5.heap.size ≤ w6.heap.size := by have := hb6.size; first | exact this | (simp only [World.size_alloc] at this; omega)
    have kN6 := (kN5.alloc _).on hb6
    have kX6 := (Blk.new _ 28 #[.int .i64 k.o, .int .i64 k.l, .int .i64 k.m, .slice (some ⟨gx0, 0, none⟩) k.ps.length k.ps.length, .int .i64 k.base, .int .i64 k.last]).on hb6
    have oW06 := own_on (oW05.alloc _) hb6
    have ox06 := own_on (ox05.alloc _) hb6
    have hB6 : Below w.heap.size w w6 := by (repeat (first | with_reducible assumption | with_reducible exact Below.refl _ _ | with_reducible refine bel_alloc ?_ _ | with_reducible refine bel_drew ?_ | with_reducible refine bel_drewN ?_ _ | with_reducible refine bel_set ?_ (by first | omega | (simp; done) | (simp; omega)) _ | with_reducible refine bel_trans ?_ (by with_reducible assumption) | exact Below.refl _ _ | assumption | refine bel_alloc ?_ _ | refine bel_drew ?_ | refine bel_drewN ?_ _ | refine bel_set ?_ (by first | omega | (simp; done) | (simp; omega)) _ | refine bel_trans ?_ (by assumption)))
    clear kN5 oW05 ox05 q0_0 q0_1 q0_2 q0_3 q0_4 q0_5 l0 hb6 hB5
    obtain ⟨q0_0, q0_1, q0_2, q0_3, q0_4, q0_5⟩ := kN6.cells6
    have l0 := kN6.lt
    obtain ⟨q1_0, q1_1, q1_2, q1_3, q1_4, q1_5⟩ := kX6.cells6
    have l1 := kX6.lt
    have ox16 := own_mono (B' := w5.heap.size) hown6 (by first | exact Nat.le_refl _ | (simp only [World.size_alloc]; omega) | omega)
    have uox1 := hid (own_upto ox16)
    clear hown6
    go_wp2_with fail
    refine (HI.out _ _ _ _ _ _ _ (own_ps_at ox06) (Nat.le_refl _) (own_ints_at ox16) (Nat.le_refl _)).mono ?_
    rintro e w7 ⟨AG0, cG0, rfl, hrG0, hb7⟩
    have hz7 : w6.heap.size ≤ w7.heap.size := by have := hb7.size; first | exact this | (simp only [World.size_alloc] at this; omega)
    have kN7 := kN6.on hb7
    have kX7 := kX6.on hb7
    have oW07 := own_on oW06 hb7
    have ox07 := own_on ox06 hb7
    have ox17 := own_on ox16 hb7
    have hB7 : Below w.heap.size w w7 := by (repeat (first | with_reducible assumption | with_reducible exact Below.refl _ _ | with_reducible refine bel_alloc ?_ _ | with_reducible refine bel_drew ?_ | with_reducible refine bel_drewN ?_ _ | with_reducible refine bel_set ?_ (by first | omega | (simp; done) | (simp; omega)) _ | with_reducible refine bel_trans ?_ (by with_reducible assumption) | exact Below.refl _ _ | assumption | refine bel_alloc ?_ _ | refine bel_drew ?_ | refine bel_drewN ?_ _ | refine bel_set ?_ (by first | omega | (simp; done) | (simp; omega)) _ | refine bel_trans ?_ (by assumption)))
    clear kN6 kX6 oW06 ox06 ox16 q0_0 q0_1 q0_2 q0_3 q0_4 q0_5 l0 q1_0 q1_1 q1_2 q1_3 q1_4 q1_5 l1 hb7 hB6
    obtain ⟨q0_0, q0_1, q0_2, q0_3, q0_4, q0_5⟩ := kN7.cells6
    have l0 := kN7.lt
    obtain ⟨q1_0, q1_1, q1_2, q1_3, q1_4, q1_5⟩ := kX7.cells6
    have l1 := kX7.lt
    have oG07 := own_mono (B' := w6.heap.size) hrG0 (by first | exact Nat.le_refl _ | (simp only [World.size_alloc]; omega) | omega)
    have uoG0 := hid (own_upto oG07)
    clear hrG0
    go_wp2_with fail
    refine (c_eqIntS _ _ _ _ R _ _ _ (own_ints_at oG07) (own_ints_at oW07) (Nat.le_refl _) (Nat.le_refl _) hl0).mono ?_
    rintro e w8 ⟨rfl, hb8⟩
    have hz8 : w7.heap.size ≤ w8.heap.size := by have := hb8.size; first | exact this | (simp only [World.size_alloc] at this; omega)
    have kN8 := kN7.on hb8
    have kX8 := kX7.on hb8
    have oW08 := own_on oW07 hb8
    have ox08 := own_on ox07 hb8
    have ox18 := own_on ox17 hb8
    have oG08 := own_on oG07 hb8
    have hB8 : Below w.heap.size w w8 := by (repeat (first | with_reducible assumption | with_reducible exact Below.refl _ _ | with_reducible refine bel_alloc ?_ _ | with_reducible refine bel_drew ?_ | with_reducible refine bel_drewN ?_ _ | with_reducible refine bel_set ?_ (by first | omega | (simp; done) | (simp; omega)) _ | with_reducible refine bel_trans ?_ (by with_reducible assumption) | exact Below.refl _ _ | assumption | refine bel_alloc ?_ _ | refine bel_drew ?_ | refine bel_drewN ?_ _ | refine bel_set ?_ (by first | omega | (simp; done) | (simp; omega)) _ | refine bel_trans ?_ (by assumption)))
    clear kN7 kX7 oW07 ox07 ox17 oG07 q0_0 q0_1 q0_2 q0_3 q0_4 q0_5 l0 q1_0 q1_1 q1_2 q1_3 q1_4 q1_5 l1 hb8 hB7
    obtain ⟨q0_0, q0_1, q0_2, q0_3, q0_4, q0_5⟩ := kN8.cells6
    have l0 := kN8.lt
    obtain ⟨q1_0, q1_1, q1_2, q1_3, q1_4, q1_5⟩ := kX8.cells6
    have l1 := kX8.lt
    go_wp2_with fail
    have hS := held12 kN8.cells6 kX8.cells6 (Below.refl w8.heap.size w8)
    refine wp_region_noPanic ?_
    refine wp_region_held_drew (S := (fun v => v.cell? ⟨w.heap.size, 0, none⟩ = some (.int .i64 k.o) ∧ v.cell? ⟨w.heap.size, 1, none⟩ = some (.int .i64 k.l) ∧ v.cell? ⟨w.heap.size, 2, none⟩ = some (.int .i64 k.m) ∧ v.cell? ⟨w.heap.size, 3, none⟩ = some (.slice Ak k.ps.length capk) ∧ v.cell? ⟨w.heap.size, 4, none⟩ = some (.int .i64 k.base) ∧ v.cell? ⟨w.heap.size, 5, none⟩ = some (.int .i64 k.last) ∧ v.cell? ⟨w5.heap.size, 0, none⟩ = some (.int .i64 k.o) ∧ v.cell? ⟨w5.heap.size, 1, none⟩ = some (.int .i64 k.l) ∧ v.cell? ⟨w5.heap.size, 2, none⟩ = some (.int .i64 k.m) ∧ v.cell? ⟨w5.heap.size, 3, none⟩ = some (.slice (some ⟨gx0, 0, none⟩) k.ps.length k.ps.length) ∧ v.cell? ⟨w5.heap.size, 4, none⟩ = some (.int .i64 k.base) ∧ v.cell? ⟨w5.heap.size, 5, none⟩ = some (.int .i64 k.last) ∧ Below w8.heap.size w8 v)) (by kernel_rfl) (s12_drew hS) (fun hHeld => ?_)
    refine wpAnyH_take (i := 0) (oi := ?or2_0) (v := ?vr2_0) ?ir2_0 (by kernel_rfl) (by kernel_rfl) (by kernel_rfl) (fun _ _ _ h => h) ?yr2_0 (by assumption) ?wr2_0
    case ir2_0 => (simp only [List.getElem?_toArray, List.getElem?_cons_zero]; rfl)
    case yr2_0 => exact Or.inl ⟨by rfl, by intro v hSw; (try dsimp only at hSw); go_simp; try with_reducible rfl⟩
    try simp only [Act.put, List.setIfInBounds_toArray, List.set_cons_zero, List.set_cons_succ]
    refine wpAnyH_take (i := 1) (oi := ?or2_1) (v := ?vr2_1) ?ir2_1 (by kernel_rfl) (by kernel_rfl) (by kernel_rfl) (fun _ _ _ h => h) ?yr2_1 (by assumption) ?wr2_1
    case ir2_1 => (simp only [List.getElem?_toArray, List.getElem?_cons_succ, List.getElem?_cons_zero]; rfl)
    case yr2_1 => exact Or.inl ⟨by rfl, by intro v hSw; (try dsimp only at hSw); go_simp; try with_reducible rfl⟩
    try simp only [Act.put, List.setIfInBounds_toArray, List.set_cons_zero, List.set_cons_succ]
    refine wpAnyH_ready (rs := [2]) (by kernel_rfl) (by simp) ?_
    refine AllReadyH.cons (o := ?or2_2) ?ir2_2 (fun K hK => ?sr2_2) AllReadyH.nil
    case ir2_2 => (simp only [List.getElem?_toArray, List.getElem?_cons_succ, List.getElem?_cons_zero]; rfl)
    (first | (go_simp; (first | (go_at_call 87; refine (c_toKnown k Ak capk w.heap.size _ (HP.out.below (bel_trans hB8 hHeld.2.2.2.2.2.2.2.2.2.2.2.2) (Nat.le_refl _)) (bel_trans hB8 hHeld.2.2.2.2.2.2.2.2.2.2.2.2).size hn).mono ?_; rintro e wt9 ⟨gt9, rfl, hownt9, hbt9⟩) | (go_at_call 88; refine (c_eqKnown k _ _ _ _ w8.heap.size _ _ ((own_ps_at ox08).below hHeld.2.2.2.2.2.2.2.2.2.2.2.2 (Nat.le_refl _)) (own_ps_at hownt9) (hHeld.2.2.2.2.2.2.2.2.2.2.2.2).size (Nat.le_refl _) hn).mono ?_; rintro e w9 ⟨rfl, hbq9⟩) | skip)))
    refine hK.out _ _ ?kr2_2 (fun hHeld => ?_)
    case kr2_2 => (try dsimp only); (first | with_reducible assumption | exact s12_bel (by assumption) (by assumption) | assumption | exact s12_alloc (by assumption) _)
    clear hK K
    try simp only [Act.put, List.setIfInBounds_toArray, List.set_cons_zero, List.set_cons_succ]
    refine wpAnyH_ready (rs := [3]) (by kernel_rfl) (by simp) ?_
    refine AllReadyH.cons (o := ?or2_3) ?ir2_3 (fun K hK => ?sr2_3) AllReadyH.nil
    case ir2_3 => (simp only [List.getElem?_toArray, List.getElem?_cons_succ, List.getElem?_cons_zero]; rfl)
    (first | (go_simp; (first | (go_at_call 87; refine (c_toKnown k Ak capk w.heap.size _ (HP.out.below (bel_trans hB8 hHeld.2.2.2.2.2.2.2.2.2.2.2.2) (Nat.le_refl _)) (bel_trans hB8 hHeld.2.2.2.2.2.2.2.2.2.2.2.2).size hn).mono ?_; rintro e wt9 ⟨gt9, rfl, hownt9, hbt9⟩) | (go_at_call 88; refine (c_eqKnown k _ _ _ _ w8.heap.size _ _ ((own_ps_at ox08).below hHeld.2.2.2.2.2.2.2.2.2.2.2.2 (Nat.le_refl _)) (own_ps_at hownt9) (hHeld.2.2.2.2.2.2.2.2.2.2.2.2).size (Nat.le_refl _) hn).mono ?_; rintro e w9 ⟨rfl, hbq9⟩) | skip)))
    refine hK.out _ _ ?kr2_3 (fun hHeld => ?_)
    case kr2_3 => (try dsimp only); (first | with_reducible assumption | exact s12_bel (by assumption) (by assumption) | assumption | exact s12_alloc (by assumption) _)
    clear hK K
    try simp only [Act.put, List.setIfInBounds_toArray, List.set_cons_zero, List.set_cons_succ]
    refine wpAnyH_take (i := 4) (oi := ?or2_4) (v := ?vr2_4) ?ir2_4 (by kernel_rfl) (by kernel_rfl) (by kernel_rfl) (fun _ _ _ h => h) ?yr2_4 (by assumption) ?wr2_4
    case ir2_4 => (simp only [List.getElem?_toArray, List.getElem?_cons_succ, List.getElem?_cons_zero]; rfl)
    case yr2_4 => exact Or.inl ⟨by rfl, by intro v hSw; (try dsimp only at hSw); go_simp; try with_reducible rfl⟩
    try simp only [Act.put, List.setIfInBounds_toArray, List.set_cons_zero, List.set_cons_succ]
    refine wpAnyH_done (by kernel_rfl) ?_ _
    refine NoPanic.normal ?_
    have hb9 := hHeld.2.2.2.2.2.2.2.2.2.2.2.2
    clear hHeld hS hbq9 hbt9 hownt9
    have hz9 : w8.heap.size ≤ w9.heap.size := by have := hb9.size; first | exact this | (simp only [World.size_alloc] at this; omega)
    have kN9 := kN8.on hb9
    have kX9 := kX8.on hb9
    have oW09 := own_on oW08 hb9
    have ox09 := own_on ox08 hb9
    have ox19 := own_on ox18 hb9
    have oG09 := own_on oG08 hb9
    have hB9 : Below w.heap.size w w9 := by (repeat (first | with_reducible assumption | with_reducible exact Below.refl _ _ | with_reducible refine bel_alloc ?_ _ | with_reducible refine bel_drew ?_ | with_reducible refine bel_drewN ?_ _ | with_reducible refine bel_set ?_ (by first | omega | (simp; done) | (simp; omega)) _ | with_reducible refine bel_trans ?_ (by with_reducible assumption) | exact Below.refl _ _ | assumption | refine bel_alloc ?_ _ | refine bel_drew ?_ | refine bel_drewN ?_ _ | refine bel_set ?_ (by first | omega | (simp; done) | (simp; omega)) _ | refine bel_trans ?_ (by assumption)))
    clear kN8 kX8 oW08 ox08 ox18 oG08 q0_0 q0_1 q0_2 q0_3 q0_4 q0_5 l0 q1_0 q1_1 q1_2 q1_3 q1_4 q1_5 l1 hb9 hB8
    obtain ⟨q0_0, q0_1, q0_2, q0_3, q0_4, q0_5⟩ := kN9.cells6
    have l0 := kN9.lt
    obtain ⟨q1_0, q1_1, q1_2, q1_3, q1_4, q1_5⟩ := kX9.cells6
    have l1 := kX9.lt
    go_wp2_with fail
    refine (c_toIntS Acodes capcodes codes w.heap.size _ (HQ_codes.out.below (by (repeat (first | with_reducible assumption | with_reducible exact Below.refl _ _ | with_reducible refine bel_alloc ?_ _ | with_reducible refine bel_drew ?_ | with_reducible refine bel_drewN ?_ _ | with_reducible refine bel_set ?_ (by first | omega | (simp; done) | (simp; omega)) _ | with_reducible refine bel_trans ?_ (by with_reducible assumption) | exact Below.refl _ _ | assumption | refine bel_alloc ?_ _ | refine bel_drew ?_ | refine bel_drewN ?_ _ | refine bel_set ?_ (by first | omega | (simp; done) | (simp; omega)) _ | refine bel_trans ?_ (by assumption)))) (Nat.le_refl _)) (by first | omega | (simp only [World.size_alloc]; omega)) hs_codes).mono ?_
    rintro e w10 ⟨gy9, rfl, hown10, hb10⟩
    have hz10 : w9.heap.size ≤ w10.heap.size := by have := hb10.size; first | exact this | (simp only [World.size_alloc] at this; omega)
    have kN10 := kN9.on hb10
    have kX10 := kX9.on hb10
    have oW010 := own_on oW09 hb10
    have ox010 := own_on ox09 hb10
    have ox110 := own_on ox19 hb10
    have oG010 := own_on oG09 hb10
    have hB10 : Below w.heap.size w w10 := by (repeat (first | with_reducible assumption | with_reducible exact Below.refl _ _ | with_reducible refine bel_alloc ?_ _ | with_reducible refine bel_drew ?_ | with_reducible refine bel_drewN ?_ _ | with_reducible refine bel_set ?_ (by first | omega | (simp; done) | (simp; omega)) _ | with_reducible refine bel_trans ?_ (by with_reducible assumption) | exact Below.refl _ _ | assumption | refine bel_alloc ?_ _ | refine bel_drew ?_ | refine bel_drewN ?_ _ | refine bel_set ?_ (by first | omega | (simp; done) | (simp; omega)) _ | refine bel_trans ?_ (by assumption)))
    clear kN9 kX9 oW09 ox09 ox19 oG09 q0_0 q0_1 q0_2 q0_3 q0_4 q0_5 l0 q1_0 q1_1 q1_2 q1_3 q1_4 q1_5 l1 hb10 hB9
    obtain ⟨q0_0, q0_1, q0_2, q0_3, q0_4, q0_5⟩ := kN10.cells6
    have l0 := kN10.lt
    obtain ⟨q1_0, q1_1, q1_2, q1_3, q1_4, q1_5⟩ := kX10.cells6
    have l1 := kX10.lt
    have oy910 := own_mono (B' := w9.heap.size) hown10 (by first | exact Nat.le_refl _ | (simp only [World.size_alloc]; omega) | omega)
    have uoy9 := hid (own_upto oy910)
    clear hown10
    go_wp2_with fail
    refine (c_eqIntS _ _ _ _ codes _ _ _ (own_ints_at ox110) (own_ints_at oy910) (Nat.le_refl _) (Nat.le_refl _) hs_codes).mono ?_
    rintro e w11 ⟨rfl, hb11⟩
    have hz11 : w10.heap.size ≤ w11.heap.size := by have := hb11.size; first | exact this | (simp only [World.size_alloc] at this; omega)
    have kN11 := kN10.on hb11
    have kX11 := kX10.on hb11
    have oW011 := own_on oW010 hb11
    have ox011 := own_on ox010 hb11
    have ox111 := own_on ox110 hb11
    have oG011 := own_on oG010 hb11
    have oy911 := own_on oy910 hb11
    have hB11 : Below w.heap.size w w11 := by (repeat (first | with_reducible assumption | with_reducible exact Below.refl _ _ | with_reducible refine bel_alloc ?_ _ | with_reducible refine bel_drew ?_ | with_reducible refine bel_drewN ?_ _ | with_reducible refine bel_set ?_ (by first | omega | (simp; done) | (simp; omega)) _ | with_reducible refine bel_trans ?_ (by with_reducible assumption) | exact Below.refl _ _ | assumption | refine bel_alloc ?_ _ | refine bel_drew ?_ | refine bel_drewN ?_ _ | refine bel_set ?_ (by first | omega | (simp; done) | (simp; omega)) _ | refine bel_trans ?_ (by assumption)))
    clear kN10 kX10 oW010 ox010 ox110 oG010 oy910 q0_0 q0_1 q0_2 q0_3 q0_4 q0_5 l0 q1_0 q1_1 q1_2 q1_3 q1_4 q1_5 l1 hb11 hB10
    obtain ⟨q0_0, q0_1, q0_2, q0_3, q0_4, q0_5⟩ := kN11.cells6
    have l0 := kN11.lt
    obtain ⟨q1_0, q1_1, q1_2, q1_3, q1_4, q1_5⟩ := kX11.cells6
    have l1 := kX11.lt
    clear oy911
    go_wp2_with fail
    refine (c_markKnown_any k _ _ _ _ (ox011) (by first | omega | (simp only [World.size_alloc]; omega)) hn).mono ?_
    rintro e w12 ⟨rfl, hown12, hg12⟩
    have hz12 : w11.heap.size ≤ w12.heap.size := by have := hg12.size; first | exact this | (simp only [World.size_alloc] at this; omega)
    have kN12 := box_apart kN11 ox011 (by decide) hg12
    have kX12 := box_apart kX11 ox011 (by decide) hg12
    have oW012 := oW011.kept hg12 (own_apart oW011 ox011 (by decide))
    have ox012 := hown12
    have ox112 := ox111.kept hg12 (own_apart ox111 ox011 (by decide))
    have oG012 := oG011.kept hg12 (own_apart oG011 ox011 (by decide))
    have hB12 : Below w.heap.size w w12 := bel_grow (by (repeat (first | with_reducible assumption | with_reducible exact Below.refl _ _ | with_reducible refine bel_alloc ?_ _ | with_reducible refine bel_drew ?_ | with_reducible refine bel_drewN ?_ _ | with_reducible refine bel_set ?_ (by first | omega | (simp; done) | (simp; omega)) _ | with_reducible refine bel_trans ?_ (by with_reducible assumption) | exact Below.refl _ _ | assumption | refine bel_alloc ?_ _ | refine bel_drew ?_ | refine bel_drewN ?_ _ | refine bel_set ?_ (by first | omega | (simp; done) | (simp; omega)) _ | refine bel_trans ?_ (by assumption)))) ox011 (by omega) hg12
    clear kN11 kX11 oW011 ox011 ox111 oG011 q0_0 q0_1 q0_2 q0_3 q0_4 q0_5 l0 q1_0 q1_1 q1_2 q1_3 q1_4 q1_5 l1 hown12 hg12 hB11
    obtain ⟨q0_0, q0_1, q0_2, q0_3, q0_4, q0_5⟩ := kN12.cells6
    have l0 := kN12.lt
    obtain ⟨q1_0, q1_1, q1_2, q1_3, q1_4, q1_5⟩ := kX12.cells6
    have l1 := kX12.lt
    go_wp2_with fail
    refine (c_markIntS_any codes _ _ _ _ _ (ox112) hs_codes (by omega) (by omega)).mono ?_
    rintro e w13 ⟨rfl, hown13, hg13⟩
    have hz13 : w12.heap.size ≤ w13.heap.size := by have := hg13.size; first | exact this | (simp only [World.size_alloc] at this; omega)
    have kN13 := box_apart kN12 ox112 (by decide) hg13
    have kX13 := box_apart kX12 ox112 (by decide) hg13
    have oW013 := oW012.kept hg13 (sep_old uoW0.out ox112 (by omega))
    have ox013 := ox012.kept hg13 (own_apart ox012 ox112 (by decide))
    have ox113 := hown13
    have oG013 := oG012.kept hg13 (sep_turn (sep_old uox1.out oG012 (by omega)))
    have hB13 : Below w.heap.size w w13 := bel_grow (by (repeat (first | with_reducible assumption | with_reducible exact Below.refl _ _ | with_reducible refine bel_alloc ?_ _ | with_reducible refine bel_drew ?_ | with_reducible refine bel_drewN ?_ _ | with_reducible refine bel_set ?_ (by first | omega | (simp; done) | (simp; omega)) _ | with_reducible refine bel_trans ?_ (by with_reducible assumption) | exact Below.refl _ _ | assumption | refine bel_alloc ?_ _ | refine bel_drew ?_ | refine bel_drewN ?_ _ | refine bel_set ?_ (by first | omega | (simp; done) | (simp; omega)) _ | refine bel_trans ?_ (by assumption)))) ox112 (by omega) hg13
    clear kN12 kX12 oW012 ox012 ox112 oG012 q0_0 q0_1 q0_2 q0_3 q0_4 q0_5 l0 q1_0 q1_1 q1_2 q1_3 q1_4 q1_5 l1 hown13 hg13 hB12
    obtain ⟨q0_0, q0_1, q0_2, q0_3, q0_4, q0_5⟩ := kN13.cells6
    have l0 := kN13.lt
    obtain ⟨q1_0, q1_1, q1_2, q1_3, q1_4, q1_5⟩ := kX13.cells6
    have l1 := kX13.lt
    go_wp2_with fail
    refine (c_eqIntS _ _ _ _ R _ _ _ (own_ints_at oG013) (own_ints_at oW013) (Nat.le_refl _) (Nat.le_refl _) hl0).mono ?_
    rintro e w14 ⟨rfl, hb14⟩
    have hz14 : w13.heap.size ≤ w14.heap.size := by have := hb14.size; first | exact this | (simp only [World.size_alloc] at this; omega)
    have kN14 := kN13.on hb14
    have kX14 := kX13.on hb14
    have oW014 := own_on oW013 hb14
    have ox014 := own_on ox013 hb14
    have ox114 := own_on ox113 hb14
    have oG014 := own_on oG013 hb14
    have hB14 : Below w.heap.size w w14 := by (repeat (first | with_reducible assumption | with_reducible exact Below.refl _ _ | with_reducible refine bel_alloc ?_ _ | with_reducible refine bel_drew ?_ | with_reducible refine bel_drewN ?_ _ | with_reducible refine bel_set ?_ (by first | omega | (simp; done) | (simp; omega)) _ | with_reducible refine bel_trans ?_ (by with_reducible assumption) | exact Below.refl _ _ | assumption | refine bel_alloc ?_ _ | refine bel_drew ?_ | refine bel_drewN ?_ _ | refine bel_set ?_ (by first | omega | (simp; done) | (simp; omega)) _ | refine bel_trans ?_ (by assumption)))
    clear kN13 kX13 oW013 ox013 ox113 oG013 q0_0 q0_1 q0_2 q0_3 q0_4 q0_5 l0 q1_0 q1_1 q1_2 q1_3 q1_4 q1_5 l1 hb14 hB13
    obtain ⟨q0_0, q0_1, q0_2, q0_3, q0_4, q0_5⟩ := kN14.cells6
    have l0 := kN14.lt
    obtain ⟨q1_0, q1_1, q1_2, q1_3, q1_4, q1_5⟩ := kX14.cells6
    have l1 := kX14.lt
    go_wp2_with fail
    refine (c_markIntS_any R _ _ _ _ _ (oG014) hl0 (by omega) (by omega)).mono ?_
    rintro e w15 ⟨rfl, hown15, hg15⟩
    have hz15 : w14.heap.size ≤ w15.heap.size := by have := hg15.size; first | exact this | (simp only [World.size_alloc] at this; omega)
    have kN15 := box_apart kN14 oG014 (by decide) hg15
    have kX15 := box_apart kX14 oG014 (by decide) hg15
    have oW015 := oW014.kept hg15 (sep_old uoW0.out oG014 (by omega))
    have ox015 := ox014.kept hg15 (own_apart ox014 oG014 (by decide))
    have ox115 := ox114.kept hg15 (sep_old uox1.out oG014 (by omega))
    have oG015 := hown15
    have hB15 : Below w.heap.size w w15 := bel_grow (by (repeat (first | with_reducible assumption | with_reducible exact Below.refl _ _ | with_reducible refine bel_alloc ?_ _ | with_reducible refine bel_drew ?_ | with_reducible refine bel_drewN ?_ _ | with_reducible refine bel_set ?_ (by first | omega | (simp; done) | (simp; omega)) _ | with_reducible refine bel_trans ?_ (by with_reducible assumption) | exact Below.refl _ _ | assumption | refine bel_alloc ?_ _ | refine bel_drew ?_ | refine bel_drewN ?_ _ | refine bel_set ?_ (by first | omega | (simp; done) | (simp; omega)) _ | refine bel_trans ?_ (by assumption)))) oG014 (by omega) hg15
    clear kN14 kX14 oW014 ox014 ox114 oG014 q0_0 q0_1 q0_2 q0_3 q0_4 q0_5 l0 q1_0 q1_1 q1_2 q1_3 q1_4 q1_5 l1 hown15 hg15 hB14
    obtain ⟨q0_0, q0_1, q0_2, q0_3, q0_4, q0_5⟩ := kN15.cells6
    have l0 := kN15.lt
    obtain ⟨q1_0, q1_1, q1_2, q1_3, q1_4, q1_5⟩ := kX15.cells6
    have l1 := kX15.lt
    go_wp2_with fail
    refine ((c_heldIntS_below _ _ _ _ _ _ (own_ints_at oG015) hl0 (by omega) (by omega))).mono ?_
    rintro e w16 ⟨rfl, hb16⟩
    have hz16 : w15.heap.size ≤ w16.heap.size := by have := hb16.size; first | exact this | (simp only [World.size_alloc] at this; omega)
    have kN16 := kN15.on hb16
    have kX16 := kX15.on hb16
    have oW016 := own_on oW015 hb16
    have ox016 := own_on ox015 hb16
    have ox116 := own_on ox115 hb16
    have oG016 := own_on oG015 hb16
    have hB16 : Below w.heap.size w w16 := by (repeat (first | with_reducible assumption | with_reducible exact Below.refl _ _ | with_reducible refine bel_alloc ?_ _ | with_reducible refine bel_drew ?_ | with_reducible refine bel_drewN ?_ _ | with_reducible refine bel_set ?_ (by first | omega | (simp; done) | (simp; omega)) _ | with_reducible refine bel_trans ?_ (by with_reducible assumption) | exact Below.refl _ _ | assumption | refine bel_alloc ?_ _ | refine bel_drew ?_ | refine bel_drewN ?_ _ | refine bel_set ?_ (by first | omega | (simp; done) | (simp; omega)) _ | refine bel_trans ?_ (by assumption)))
    clear kN15 kX15 oW015 ox015 ox115 oG015 q0_0 q0_1 q0_2 q0_3 q0_4 q0_5 l0 q1_0 q1_1 q1_2 q1_3 q1_4 q1_5 l1 hb16 hB15
    obtain ⟨q0_0, q0_1, q0_2, q0_3, q0_4, q0_5⟩ := kN16.cells6
    have l0 := kN16.lt
    obtain ⟨q1_0, q1_1, q1_2, q1_3, q1_4, q1_5⟩ := kX16.cells6
    have l1 := kX16.lt
    go_wp2_with fail
    refine (c_toKnown k Ak capk w.heap.size _ (HP.out.below (by (repeat (first | with_reducible assumption | with_reducible exact Below.refl _ _ | with_reducible refine bel_alloc ?_ _ | with_reducible refine bel_drew ?_ | with_reducible refine bel_drewN ?_ _ | with_reducible refine bel_set ?_ (by first | omega | (simp; done) | (simp; omega)) _ | with_reducible refine bel_trans ?_ (by with_reducible assumption) | exact Below.refl _ _ | assumption | refine bel_alloc ?_ _ | refine bel_drew ?_ | refine bel_drewN ?_ _ | refine bel_set ?_ (by first | omega | (simp; done) | (simp; omega)) _ | refine bel_trans ?_ (by assumption)))) (Nat.le_refl _)) (by first | omega | (simp only [World.size_alloc]; omega)) hn).mono ?_
    rintro e w17 ⟨gt0, rfl, hown17, hb17⟩
    have hz17 : w16.heap.size ≤ w17.heap.size := by have := hb17.size; first | exact this | (simp only [World.size_alloc] at this; omega)
    have kN17 := kN16.on hb17
    have kX17 := kX16.on hb17
    have oW017 := own_on oW016 hb17
    have ox017 := own_on ox016 hb17
    have ox117 := own_on ox116 hb17
    have oG017 := own_on oG016 hb17
    have hB17 : Below w.heap.size w w17 := by (repeat (first | with_reducible assumption | with_reducible exact Below.refl _ _ | with_reducible refine bel_alloc ?_ _ | with_reducible refine bel_drew ?_ | with_reducible refine bel_drewN ?_ _ | with_reducible refine bel_set ?_ (by first | omega | (simp; done) | (simp; omega)) _ | with_reducible refine bel_trans ?_ (by with_reducible assumption) | exact Below.refl _ _ | assumption | refine bel_alloc ?_ _ | refine bel_drew ?_ | refine bel_drewN ?_ _ | refine bel_set ?_ (by first | omega | (simp; done) | (simp; omega)) _ | refine bel_trans ?_ (by assumption)))
    clear kN16 kX16 oW016 ox016 ox116 oG016 q0_0 q0_1 q0_2 q0_3 q0_4 q0_5 l0 q1_0 q1_1 q1_2 q1_3 q1_4 q1_5 l1 hb17 hB16
    obtain ⟨q0_0, q0_1, q0_2, q0_3, q0_4, q0_5⟩ := kN17.cells6
    have l0 := kN17.lt
    obtain ⟨q1_0, q1_1, q1_2, q1_3, q1_4, q1_5⟩ := kX17.cells6
    have l1 := kX17.lt
    have ot017 := own_mono (B' := w16.heap.size) hown17 (by first | exact Nat.le_refl _ | (simp only [World.size_alloc]; omega) | omega)
    have uot0 := hid (own_upto ot017)
    clear hown17
    go_wp2_with fail
    refine (c_toIntS Acodes capcodes codes w.heap.size _ (HQ_codes.out.below (by (repeat (first | with_reducible assumption | with_reducible exact Below.refl _ _ | with_reducible refine bel_alloc ?_ _ | with_reducible refine bel_drew ?_ | with_reducible refine bel_drewN ?_ _ | with_reducible refine bel_set ?_ (by first | omega | (simp; done) | (simp; omega)) _ | with_reducible refine bel_trans ?_ (by with_reducible assumption) | exact Below.refl _ _ | assumption | refine bel_alloc ?_ _ | refine bel_drew ?_ | refine bel_drewN ?_ _ | refine bel_set ?_ (by first | omega | (simp; done) | (simp; omega)) _ | refine bel_trans ?_ (by assumption)))) (Nat.le_refl _)) (by first | omega | (simp only [World.size_alloc]; omega)) hs_codes).mono ?_
    rintro e w18 ⟨gt1, rfl, hown18, hb18⟩
    have hz18 : w17.heap.size ≤ w18.heap.size := by have := hb18.size; first | exact this | (simp only [World.size_alloc] at this; omega)
    have kN18 := kN17.on hb18
    have kX18 := kX17.on hb18
    have oW018 := own_on oW017 hb18
    have ox018 := own_on ox017 hb18
    have ox118 := own_on ox117 hb18
    have oG018 := own_on oG017 hb18
    have ot018 := own_on ot017 hb18
    have hB18 : Below w.heap.size w w18 := by (repeat (first | with_reducible assumption | with_reducible exact Below.refl _ _ | with_reducible refine bel_alloc ?_ _ | with_reducible refine bel_drew ?_ | with_reducible refine bel_drewN ?_ _ | with_reducible refine bel_set ?_ (by first | omega | (simp; done) | (simp; omega)) _ | with_reducible refine bel_trans ?_ (by with_reducible assumption) | exact Below.refl _ _ | assumption | refine bel_alloc ?_ _ | refine bel_drew ?_ | refine bel_drewN ?_ _ | refine bel_set ?_ (by first | omega | (simp; done) | (simp; omega)) _ | refine bel_trans ?_ (by assumption)))
    clear kN17 kX17 oW017 ox017 ox117 oG017 ot017 q0_0 q0_1 q0_2 q0_3 q0_4 q0_5 l0 q1_0 q1_1 q1_2 q1_3 q1_4 q1_5 l1 hb18 hB17
    obtain ⟨q0_0, q0_1, q0_2, q0_3, q0_4, q0_5⟩ := kN18.cells6
    have l0 := kN18.lt
    obtain ⟨q1_0, q1_1, q1_2, q1_3, q1_4, q1_5⟩ := kX18.cells6
    have l1 := kX18.lt
    have ot118 := own_mono (B' := w17.heap.size) hown18 (by first | exact Nat.le_refl _ | (simp only [World.size_alloc]; omega) | omega)
    have uot1 := hid (own_upto ot118)
    clear hown18
    go_wp2_with fail
    refine (HI.out _ _ _ _ _ _ _ (own_ps_at ot018) (Nat.le_refl _) (own_ints_at ot118) (Nat.le_refl _)).mono ?_
    rintro e w19 ⟨AH0, cH0, rfl, hrH0, hb19⟩
    have hz19 : w18.heap.size ≤ w19.heap.size := by have := hb19.size; first | exact this | (simp only [World.size_alloc] at this; omega)
    have kN19 := kN18.on hb19
    have kX19 := kX18.on hb19
    have oW019 := own_on oW018 hb19
    have ox019 := own_on ox018 hb19
    have ox119 := own_on ox118 hb19
    have oG019 := own_on oG018 hb19
    have ot019 := own_on ot018 hb19
    have ot119 := own_on ot118 hb19
    have hB19 : Below w.heap.size w w19 := by (repeat (first | with_reducible assumption | with_reducible exact Below.refl _ _ | with_reducible refine bel_alloc ?_ _ | with_reducible refine bel_drew ?_ | with_reducible refine bel_drewN ?_ _ | with_reducible refine bel_set ?_ (by first | omega | (simp; done) | (simp; omega)) _ | with_reducible refine bel_trans ?_ (by with_reducible assumption) | exact Below.refl _ _ | assumption | refine bel_alloc ?_ _ | refine bel_drew ?_ | refine bel_drewN ?_ _ | refine bel_set ?_ (by first | omega | (simp; done) | (simp; omega)) _ | refine bel_trans ?_ (by assumption)))
    clear kN18 kX18 oW018 ox018 ox118 oG018 ot018 ot118 q0_0 q0_1 q0_2 q0_3 q0_4 q0_5 l0 q1_0 q1_1 q1_2 q1_3 q1_4 q1_5 l1 hb19 hB18
    obtain ⟨q0_0, q0_1, q0_2, q0_3, q0_4, q0_5⟩ := kN19.cells6
    have l0 := kN19.lt
    obtain ⟨q1_0, q1_1, q1_2, q1_3, q1_4, q1_5⟩ := kX19.cells6
    have l1 := kX19.lt
    have oH019 := own_mono (B' := w18.heap.size) hrH0 (by first | exact Nat.le_refl _ | (simp only [World.size_alloc]; omega) | omega)
    have uoH0 := hid (own_upto oH019)
    clear hrH0
    clear ot019
    clear ot119
    go_wp2_with fail
    refine (c_eqIntS _ _ _ _ R _ _ _ (own_ints_at oH019) (own_ints_at oW019) (Nat.le_refl _) (Nat.le_refl _) hl0).mono ?_
    rintro e w20 ⟨rfl, hb20⟩
    have hz20 : w19.heap.size ≤ w20.heap.size := by have := hb20.size; first | exact this | (simp only [World.size_alloc] at this; omega)
    have kN20 := kN19.on hb20
    have kX20 := kX19.on hb20
    have oW020 := own_on oW019 hb20
    have ox020 := own_on ox019 hb20
    have ox120 := own_on ox119 hb20
    have oG020 := own_on oG019 hb20
    have oH020 := own_on oH019 hb20
    have hB20 : Below w.heap.size w w20 := by (repeat (first | with_reducible assumption | with_reducible exact Below.refl _ _ | with_reducible refine bel_alloc ?_ _ | with_reducible refine bel_drew ?_ | with_reducible refine bel_drewN ?_ _ | with_reducible refine bel_set ?_ (by first | omega | (simp; done) | (simp; omega)) _ | with_reducible refine bel_trans ?_ (by with_reducible assumption) | exact Below.refl _ _ | assumption | refine bel_alloc ?_ _ | refine bel_drew ?_ | refine bel_drewN ?_ _ | refine bel_set ?_ (by first | omega | (simp; done) | (simp; omega)) _ | refine bel_trans ?_ (by assumption)))
    clear kN19 kX19 oW019 ox019 ox119 oG019 oH019 q0_0 q0_1 q0_2 q0_3 q0_4 q0_5 l0 q1_0 q1_1 q1_2 q1_3 q1_4 q1_5 l1 hb20 hB19
    obtain ⟨q0_0, q0_1, q0_2, q0_3, q0_4, q0_5⟩ := kN20.cells6
    have l0 := kN20.lt
    obtain ⟨q1_0, q1_1, q1_2, q1_3, q1_4, q1_5⟩ := kX20.cells6
    have l1 := kX20.lt
    go_wp2_with fail
    refine ((c_heldIntS_below _ _ _ _ _ _ (own_ints_at oG020) hl0 (by omega) (by omega))).mono ?_
    rintro e w21 ⟨rfl, hb21⟩
    have hz21 : w20.heap.size ≤ w21.heap.size := by have := hb21.size; first | exact this | (simp only [World.size_alloc] at this; omega)
    have kN21 := kN20.on hb21
    have kX21 := kX20.on hb21
    have oW021 := own_on oW020 hb21
    have ox021 := own_on ox020 hb21
    have ox121 := own_on ox120 hb21
    have oG021 := own_on oG020 hb21
    have oH021 := own_on oH020 hb21
    have hB21 : Below w.heap.size w w21 := by (repeat (first | with_reducible assumption | with_reducible exact Below.refl _ _ | with_reducible refine bel_alloc ?_ _ | with_reducible refine bel_drew ?_ | with_reducible refine bel_drewN ?_ _ | with_reducible refine bel_set ?_ (by first | omega | (simp; done) | (simp; omega)) _ | with_reducible refine bel_trans ?_ (by with_reducible assumption) | exact Below.refl _ _ | assumption | refine bel_alloc ?_ _ | refine bel_drew ?_ | refine bel_drewN ?_ _ | refine bel_set ?_ (by first | omega | (simp; done) | (simp; omega)) _ | refine bel_trans ?_ (by assumption)))
    clear kN20 kX20 oW020 ox020 ox120 oG020 oH020 q0_0 q0_1 q0_2 q0_3 q0_4 q0_5 l0 q1_0 q1_1 q1_2 q1_3 q1_4 q1_5 l1 hb21 hB20
    obtain ⟨q0_0, q0_1, q0_2, q0_3, q0_4, q0_5⟩ := kN21.cells6
    have l0 := kN21.lt
    obtain ⟨q1_0, q1_1, q1_2, q1_3, q1_4, q1_5⟩ := kX21.cells6
    have l1 := kX21.lt
    go_wp2
    go_ret
    exact ⟨rfl, by (repeat (first | with_reducible assumption | with_reducible exact Below.refl _ _ | with_reducible refine bel_alloc ?_ _ | with_reducible refine bel_drew ?_ | with_reducible refine bel_drewN ?_ _ | with_reducible refine bel_set ?_ (by first | omega | (simp; done) | (simp; omega)) _ | with_reducible refine bel_trans ?_ (by with_reducible assumption) | exact Below.refl _ _ | assumption | refine bel_alloc ?_ _ | refine bel_drew ?_ | refine bel_drewN ?_ _ | refine bel_set ?_ (by first | omega | (simp; done) | (simp; omega)) _ | refine bel_trans ?_ (by assumption)))⟩
  · have hb := hp.1
    have hcm := hp.2.1
    go_enter Try.func23, Try.ntmps23
    go_wp2_with fail
    refine (c_szKnown_big k Ak capk _ (by omega) (by omega)).mono ?_
    rintro e w1 ⟨rfl, hb1⟩
    have hc1 := bcell hb1
    have hz1_0 : w.heap.size < w1.heap.size := (by have := hb1.size; first | omega | (simp at this; omega))
    go_wp2
    go_ret
    exact ⟨rfl, by (repeat (first | with_reducible assumption | with_reducible exact Below.refl _ _ | with_reducible refine bel_alloc ?_ _ | with_reducible refine bel_drew ?_ | with_reducible refine bel_drewN ?_ _ | with_reducible refine bel_set ?_ (by first | omega | (simp; done) | (simp; omega)) _ | with_reducible refine bel_trans ?_ (by with_reducible assumption) | exact Below.refl _ _ | assumption | refine bel_alloc ?_ _ | refine bel_drew ?_ | refine bel_drewN ?_ _ | refine bel_set ?_ (by first | omega | (simp; done) | (simp; omega)) _ | refine bel_trans ?_ (by assumption)))⟩

set_option maxHeartbeats 4000000 in
set_option maxRecDepth 100000 in
theorem walk_FnExactCodesData (k : Kn) (Ak : Option Addr) (capk : Nat) (codes : List Int) (Acodes : Option Addr) (capcodes : Nat) (w : World) (hp : PsAt w w.heap.size Ak capk k.ps) (hin : k.In) (hq_codes : NumsAt w w.heap.size Acodes capcodes codes) (hqb_codes : NumsB codes) :
    Calls Try.prog 24 #[.agg #[.int .i64 k.o, .int .i64 k.l, .int .i64 k.m, .slice Ak k.ps.length capk, .int .i64 k.base, .int .i64 k.last], .slice Acodes codes.length capcodes] w fun e w' => e = .returned (.bool true) ∧ Below w.heap.size w w' := by
  by_cases big_codes : 1048576 < codes.length
  · have hmx := hq_codes.1
    have hmy := hq_codes.2.1
    unfold maxLen at hmy
    go_enter Try.func24, Try.ntmps24
    go_wp2_with fail
    go_ret
    exact ⟨rfl, by (repeat (first | with_reducible assumption | with_reducible exact Below.refl _ _ | with_reducible refine bel_alloc ?_ _ | with_reducible refine bel_drew ?_ | with_reducible refine bel_drewN ?_ _ | with_reducible refine bel_set ?_ (by first | omega | (simp; done) | (simp; omega)) _ | with_reducible refine bel_trans ?_ (by with_reducible assumption) | exact Below.refl _ _ | assumption | refine bel_alloc ?_ _ | refine bel_drew ?_ | refine bel_drewN ?_ _ | refine bel_set ?_ (by first | omega | (simp; done) | (simp; omega)) _ | refine bel_trans ?_ (by assumption)))⟩
  have hs_codes : codes.length ≤ 1048576 := by omega
  by_cases hn : k.ps.length ≤ 1048576
  · have hw := hin.wf hn
    obtain ⟨s, b, HS, HI⟩ : ∃ (s : ByteArray) (b : Bool), (∀ (A : Option Addr) (cap L : Nat) (A2 : Option Addr) (cap2 L2 : Nat) (w : World), PsAt w L A cap k.ps → L ≤ w.heap.size → NumsAt w L2 A2 cap2 codes → L2 ≤ w.heap.size → Calls Try.prog 65 #[.agg #[.int .i64 k.o, .int .i64 k.l, .int .i64 k.m, .slice A k.ps.length cap, .int .i64 k.base, .int .i64 k.last], .slice A2 codes.length cap2] w (fun e w' => e = .returned (.tuple #[.string s, .bool b]) ∧ Below w.heap.size w w')) ∧ (∀ (A : Option Addr) (cap L : Nat) (A2 : Option Addr) (cap2 L2 : Nat) (w : World), PsAt w L A cap k.ps → L ≤ w.heap.size → NumsAt w L2 A2 cap2 codes → L2 ≤ w.heap.size → Calls Try.prog 64 #[.agg #[.int .i64 k.o, .int .i64 k.l, .int .i64 k.m, .slice A k.ps.length cap, .int .i64 k.base, .int .i64 k.last], .slice A2 codes.length cap2] w (fun e w' => e = .returned (.tuple #[.string s, .bool b]) ∧ Below w.heap.size w w')) := by
      by_cases hk : CodesOk k codes
      · exact ⟨str (k.dat codes), true, fun A cap L A2 cap2 L2 w h hL h2 hL2 => c_sCodesData_yes k A cap L w h hL A2 cap2 L2 codes h2 hL2 hw hk, fun A cap L A2 cap2 L2 w h hL h2 hL2 => c_CodesData_yes k A cap L w h hL hw A2 cap2 L2 codes h2 hL2 hs_codes hk⟩
      · exact ⟨ByteArray.empty, false, fun A cap L A2 cap2 L2 w h hL h2 hL2 => c_sCodesData_no k A cap L w h hL A2 cap2 L2 codes h2 hL2 hw hs_codes hk, fun A cap L A2 cap2 L2 w h hL h2 hL2 => c_CodesData_no k A cap L w h hL hw A2 cap2 L2 codes h2 hL2 hs_codes hk⟩
    have HP := hid hp
    have HQ_codes := hid hq_codes
    have HS := hid HS
    have HI := hid HI
    clear hp hin hw hq_codes hqb_codes
    go_enter Try.func24, Try.ntmps24
    go_wp2_with fail
    refine (c_szKnown k Ak capk _ hn).mono ?_
    rintro e w1 ⟨rfl, hb1⟩
    have hz1 : w.heap.size ≤ w1.heap.size := by have := hb1.size; first | exact this | (simp only [World.size_alloc] at this; omega)
    have kN1 := (Blk.new _ 73 #[.int .i64 k.o, .int .i64 k.l, .int .i64 k.m, .slice Ak k.ps.length capk, .int .i64 k.base, .int .i64 k.last]).on hb1
    have hB1 : Below w.heap.size w w1 := by (repeat (first | with_reducible assumption | with_reducible exact Below.refl _ _ | with_reducible refine bel_alloc ?_ _ | with_reducible refine bel_drew ?_ | with_reducible refine bel_drewN ?_ _ | with_reducible refine bel_set ?_ (by first | omega | (simp; done) | (simp; omega)) _ | with_reducible refine bel_trans ?_ (by with_reducible assumption) | exact Below.refl _ _ | assumption | refine bel_alloc ?_ _ | refine bel_drew ?_ | refine bel_drewN ?_ _ | refine bel_set ?_ (by first | omega | (simp; done) | (simp; omega)) _ | refine bel_trans ?_ (by assumption)))
    clear hb1
    obtain ⟨q0_0, q0_1, q0_2, q0_3, q0_4, q0_5⟩ := kN1.cells6
    have l0 := kN1.lt
    go_wp2_with fail
    refine (c_toKnown k Ak capk w.heap.size _ (HP.out.below (by (repeat (first | with_reducible assumption | with_reducible exact Below.refl _ _ | with_reducible refine bel_alloc ?_ _ | with_reducible refine bel_drew ?_ | with_reducible refine bel_drewN ?_ _ | with_reducible refine bel_set ?_ (by first | omega | (simp; done) | (simp; omega)) _ | with_reducible refine bel_trans ?_ (by with_reducible assumption) | exact Below.refl _ _ | assumption | refine bel_alloc ?_ _ | refine bel_drew ?_ | refine bel_drewN ?_ _ | refine bel_set ?_ (by first | omega | (simp; done) | (simp; omega)) _ | refine bel_trans ?_ (by assumption)))) (Nat.le_refl _)) (by first | omega | (simp only [World.size_alloc]; omega)) hn).mono ?_
    rintro e w2 ⟨gs0, rfl, hown2, hb2⟩
    have hz2 : w1.heap.size ≤ w2.heap.size := by have := hb2.size; first | exact this | (simp only [World.size_alloc] at this; omega)
    have kN2 := kN1.on hb2
    have hB2 : Below w.heap.size w w2 := by (repeat (first | with_reducible assumption | with_reducible exact Below.refl _ _ | with_reducible refine bel_alloc ?_ _ | with_reducible refine bel_drew ?_ | with_reducible refine bel_drewN ?_ _ | with_reducible refine bel_set ?_ (by first | omega | (simp; done) | (simp; omega)) _ | with_reducible refine bel_trans ?_ (by with_reducible assumption) | exact Below.refl _ _ | assumption | refine bel_alloc ?_ _ | refine bel_drew ?_ | refine bel_drewN ?_ _ | refine bel_set ?_ (by first | omega | (simp; done) | (simp; omega)) _ | refine bel_trans ?_ (by assumption)))
    clear kN1 q0_0 q0_1 q0_2 q0_3 q0_4 q0_5 l0 hb2 hB1
    obtain ⟨q0_0, q0_1, q0_2, q0_3, q0_4, q0_5⟩ := kN2.cells6
    have l0 := kN2.lt
    have os02 := own_mono (B' := w1.heap.size) hown2 (by first | exact Nat.le_refl _ | (simp only [World.size_alloc]; omega) | omega)
    have uos0 := hid (own_upto os02)
    clear hown2
    go_wp2_with fail
    refine (c_toIntS Acodes capcodes codes w.heap.size _ (HQ_codes.out.below (by (repeat (first | with_reducible assumption | with_reducible exact Below.refl _ _ | with_reducible refine bel_alloc ?_ _ | with_reducible refine bel_drew ?_ | with_reducible refine bel_drewN ?_ _ | with_reducible refine bel_set ?_ (by first | omega | (simp; done) | (simp; omega)) _ | with_reducible refine bel_trans ?_ (by with_reducible assumption) | exact Below.refl _ _ | assumption | refine bel_alloc ?_ _ | refine bel_drew ?_ | refine bel_drewN ?_ _ | refine bel_set ?_ (by first | omega | (simp; done) | (simp; omega)) _ | refine bel_trans ?_ (by assumption)))) (Nat.le_refl _)) (by first | omega | (simp only [World.size_alloc]; omega)) hs_codes).mono ?_
    rintro e w3 ⟨gs1, rfl, hown3, hb3⟩
    have hz3 : w2.heap.size ≤ w3.heap.size := by have := hb3.size; first | exact this | (simp only [World.size_alloc] at this; omega)
    have kN3 := kN2.on hb3
    have os03 := own_on os02 hb3
    have hB3 : Below w.heap.size w w3 := by (repeat (first | with_reducible assumption | with_reducible exact Below.refl _ _ | with_reducible refine bel_alloc ?_ _ | with_reducible refine bel_drew ?_ | with_reducible refine bel_drewN ?_ _ | with_reducible refine bel_set ?_ (by first | omega | (simp; done) | (simp; omega)) _ | with_reducible refine bel_trans ?_ (by with_reducible assumption) | exact Below.refl _ _ | assumption | refine bel_alloc ?_ _ | refine bel_drew ?_ | refine bel_drewN ?_ _ | refine bel_set ?_ (by first | omega | (simp; done) | (simp; omega)) _ | refine bel_trans ?_ (by assumption)))
    clear kN2 os02 q0_0 q0_1 q0_2 q0_3 q0_4 q0_5 l0 hb3 hB2
    obtain ⟨q0_0, q0_1, q0_2, q0_3, q0_4, q0_5⟩ := kN3.cells6
    have l0 := kN3.lt
    have os13 := own_mono (B' := w2.heap.size) hown3 (by first | exact Nat.le_refl _ | (simp only [World.size_alloc]; omega) | omega)
    have uos1 := hid (own_upto os13)
    clear hown3
    go_wp2_with fail
    refine (HS.out _ _ _ _ _ _ _ (own_ps_at os03) (Nat.le_refl _) (own_ints_at os13) (Nat.le_refl _)).mono ?_
    rintro e w4 ⟨rfl, hb4⟩
    have hz4 : w3.heap.size ≤ w4.heap.size := by have := hb4.size; first | exact this | (simp only [World.size_alloc] at this; omega)
    have kN4 := kN3.on hb4
    have os04 := own_on os03 hb4
    have os14 := own_on os13 hb4
    have hB4 : Below w.heap.size w w4 := by (repeat (first | with_reducible assumption | with_reducible exact Below.refl _ _ | with_reducible refine bel_alloc ?_ _ | with_reducible refine bel_drew ?_ | with_reducible refine bel_drewN ?_ _ | with_reducible refine bel_set ?_ (by first | omega | (simp; done) | (simp; omega)) _ | with_reducible refine bel_trans ?_ (by with_reducible assumption) | exact Below.refl _ _ | assumption | refine bel_alloc ?_ _ | refine bel_drew ?_ | refine bel_drewN ?_ _ | refine bel_set ?_ (by first | omega | (simp; done) | (simp; omega)) _ | refine bel_trans ?_ (by assumption)))
    clear kN3 os03 os13 q0_0 q0_1 q0_2 q0_3 q0_4 q0_5 l0 hb4 hB3
    obtain ⟨q0_0, q0_1, q0_2, q0_3, q0_4, q0_5⟩ := kN4.cells6
    have l0 := kN4.lt
    clear os04
    clear os14
    go_wp2_with fail
    refine (c_toKnown k Ak capk w.heap.size _ (HP.out.below (by (repeat (first | with_reducible assumption | with_reducible exact Below.refl _ _ | with_reducible refine bel_alloc ?_ _ | with_reducible refine bel_drew ?_ | with_reducible refine bel_drewN ?_ _ | with_reducible refine bel_set ?_ (by first | omega | (simp; done) | (simp; omega)) _ | with_reducible refine bel_trans ?_ (by with_reducible assumption) | exact Below.refl _ _ | assumption | refine bel_alloc ?_ _ | refine bel_drew ?_ | refine bel_drewN ?_ _ | refine bel_set ?_ (by first | omega | (simp; done) | (simp; omega)) _ | refine bel_trans ?_ (by assumption)))) (Nat.le_refl _)) (by first | omega | (simp only [World.size_alloc]; omega)) hn).mono ?_
    rintro e w5 ⟨gx0, rfl, hown5, hb5⟩
    have hz5 : w4.heap.size ≤ w5.heap.size := by have := hb5.size; first | exact this | (simp only [World.size_alloc] at this; omega)
    have kN5 := kN4.on hb5
    have hB5 : Below w.heap.size w w5 := by (repeat (first | with_reducible assumption | with_reducible exact Below.refl _ _ | with_reducible refine bel_alloc ?_ _ | with_reducible refine bel_drew ?_ | with_reducible refine bel_drewN ?_ _ | with_reducible refine bel_set ?_ (by first | omega | (simp; done) | (simp; omega)) _ | with_reducible refine bel_trans ?_ (by with_reducible assumption) | exact Below.refl _ _ | assumption | refine bel_alloc ?_ _ | refine bel_drew ?_ | refine bel_drewN ?_ _ | refine bel_set ?_ (by first | omega | (simp; done) | (simp; omega)) _ | refine bel_trans ?_ (by assumption)))
    clear kN4 q0_0 q0_1 q0_2 q0_3 q0_4 q0_5 l0 hb5 hB4
    obtain ⟨q0_0, q0_1, q0_2, q0_3, q0_4, q0_5⟩ := kN5.cells6
    have l0 := kN5.lt
    have ox05 := own_mono (B' := w4.heap.size) hown5 (by first | exact Nat.le_refl _ | (simp only [World.size_alloc]; omega) | omega)
    have uox0 := hid (own_upto ox05)
    clear hown5
    go_wp2_with fail
    refine (c_toIntS Acodes capcodes codes w.heap.size _ (HQ_codes.out.below (by (repeat (first | with_reducible assumption | with_reducible exact Below.refl _ _ | with_reducible refine bel_alloc ?_ _ | with_reducible refine bel_drew ?_ | with_reducible refine bel_drewN ?_ _ | with_reducible refine bel_set ?_ (by first | omega | (simp; done) | (simp; omega)) _ | with_reducible refine bel_trans ?_ (by with_reducible assumption) | exact Below.refl _ _ | assumption | refine bel_alloc ?_ _ | refine bel_drew ?_ | refine bel_drewN ?_ _ | refine bel_set ?_ (by first | omega | (simp; done) | (simp; omega)) _ | refine bel_trans ?_ (by assumption)))) (Nat.le_refl _)) (by first | omega | (simp only [World.size_alloc]; omega)) hs_codes).mono ?_
    rintro e w6 ⟨gx1, rfl, hown6, hb6⟩
    have hz6 : w5.heap.size ≤ w6.heap.size := by have := hb6.size; first | exact this | (simp only [World.size_alloc] at this; omega)
    have kN6 := (kN5.alloc _).on hb6
    have kX6 := (Blk.new _ 28 #[.int .i64 k.o, .int .i64 k.l, .int .i64 k.m, .slice (some ⟨gx0, 0, none⟩) k.ps.length k.ps.length, .int .i64 k.base, .int .i64 k.last]).on hb6
    have ox06 := own_on (ox05.alloc _) hb6
    have hB6 : Below w.heap.size w w6 := by (repeat (first | with_reducible assumption | with_reducible exact Below.refl _ _ | with_reducible refine bel_alloc ?_ _ | with_reducible refine bel_drew ?_ | with_reducible refine bel_drewN ?_ _ | with_reducible refine bel_set ?_ (by first | omega | (simp; done) | (simp; omega)) _ | with_reducible refine bel_trans ?_ (by with_reducible assumption) | exact Below.refl _ _ | assumption | refine bel_alloc ?_ _ | refine bel_drew ?_ | refine bel_drewN ?_ _ | refine bel_set ?_ (by first | omega | (simp; done) | (simp; omega)) _ | refine bel_trans ?_ (by assumption)))
    clear kN5 ox05 q0_0 q0_1 q0_2 q0_3 q0_4 q0_5 l0 hb6 hB5
    obtain ⟨q0_0, q0_1, q0_2, q0_3, q0_4, q0_5⟩ := kN6.cells6
    have l0 := kN6.lt
    obtain ⟨q1_0, q1_1, q1_2, q1_3, q1_4, q1_5⟩ := kX6.cells6
    have l1 := kX6.lt
    have ox16 := own_mono (B' := w5.heap.size) hown6 (by first | exact Nat.le_refl _ | (simp only [World.size_alloc]; omega) | omega)
    have uox1 := hid (own_upto ox16)
    clear hown6
    go_wp2_with fail
    refine (HI.out _ _ _ _ _ _ _ (own_ps_at ox06) (Nat.le_refl _) (own_ints_at ox16) (Nat.le_refl _)).mono ?_
    rintro e w7 ⟨rfl, hb7⟩
    have hz7 : w6.heap.size ≤ w7.heap.size := by have := hb7.size; first | exact this | (simp only [World.size_alloc] at this; omega)
    have kN7 := kN6.on hb7
    have kX7 := kX6.on hb7
    have ox07 := own_on ox06 hb7
    have ox17 := own_on ox16 hb7
    have hB7 : Below w.heap.size w w7 := by (repeat (first | with_reducible assumption | with_reducible exact Below.refl _ _ | with_reducible refine bel_alloc ?_ _ | with_reducible refine bel_drew ?_ | with_reducible refine bel_drewN ?_ _ | with_reducible refine bel_set ?_ (by first | omega | (simp; done) | (simp; omega)) _ | with_reducible refine bel_trans ?_ (by with_reducible assumption) | exact Below.refl _ _ | assumption | refine bel_alloc ?_ _ | refine bel_drew ?_ | refine bel_drewN ?_ _ | refine bel_set ?_ (by first | omega | (simp; done) | (simp; omega)) _ | refine bel_trans ?_ (by assumption)))
    clear kN6 kX6 ox06 ox16 q0_0 q0_1 q0_2 q0_3 q0_4 q0_5 l0 q1_0 q1_1 q1_2 q1_3 q1_4 q1_5 l1 hb7 hB6
    obtain ⟨q0_0, q0_1, q0_2, q0_3, q0_4, q0_5⟩ := kN7.cells6
    have l0 := kN7.lt
    obtain ⟨q1_0, q1_1, q1_2, q1_3, q1_4, q1_5⟩ := kX7.cells6
    have l1 := kX7.lt
    go_wp2_with fail
    have hS := held12 kN7.cells6 kX7.cells6 (Below.refl w7.heap.size w7)
    refine wp_region_noPanic ?_
    refine wp_region_held_drew (S := (fun v => v.cell? ⟨w.heap.size, 0, none⟩ = some (.int .i64 k.o) ∧ v.cell? ⟨w.heap.size, 1, none⟩ = some (.int .i64 k.l) ∧ v.cell? ⟨w.heap.size, 2, none⟩ = some (.int .i64 k.m) ∧ v.cell? ⟨w.heap.size, 3, none⟩ = some (.slice Ak k.ps.length capk) ∧ v.cell? ⟨w.heap.size, 4, none⟩ = some (.int .i64 k.base) ∧ v.cell? ⟨w.heap.size, 5, none⟩ = some (.int .i64 k.last) ∧ v.cell? ⟨w5.heap.size, 0, none⟩ = some (.int .i64 k.o) ∧ v.cell? ⟨w5.heap.size, 1, none⟩ = some (.int .i64 k.l) ∧ v.cell? ⟨w5.heap.size, 2, none⟩ = some (.int .i64 k.m) ∧ v.cell? ⟨w5.heap.size, 3, none⟩ = some (.slice (some ⟨gx0, 0, none⟩) k.ps.length k.ps.length) ∧ v.cell? ⟨w5.heap.size, 4, none⟩ = some (.int .i64 k.base) ∧ v.cell? ⟨w5.heap.size, 5, none⟩ = some (.int .i64 k.last) ∧ Below w7.heap.size w7 v)) (by kernel_rfl) (s12_drew hS) (fun hHeld => ?_)
    refine wpAnyH_take (i := 0) (oi := ?or3_0) (v := ?vr3_0) ?ir3_0 (by kernel_rfl) (by kernel_rfl) (by kernel_rfl) (fun _ _ _ h => h) ?yr3_0 (by assumption) ?wr3_0
    case ir3_0 => (simp only [List.getElem?_toArray, List.getElem?_cons_zero]; rfl)
    case yr3_0 => exact Or.inl ⟨by rfl, by intro v hSw; (try dsimp only at hSw); go_simp; try with_reducible rfl⟩
    try simp only [Act.put, List.setIfInBounds_toArray, List.set_cons_zero, List.set_cons_succ]
    refine wpAnyH_take (i := 1) (oi := ?or3_1) (v := ?vr3_1) ?ir3_1 (by kernel_rfl) (by kernel_rfl) (by kernel_rfl) (fun _ _ _ h => h) ?yr3_1 (by assumption) ?wr3_1
    case ir3_1 => (simp only [List.getElem?_toArray, List.getElem?_cons_succ, List.getElem?_cons_zero]; rfl)
    case yr3_1 => exact Or.inl ⟨by rfl, by intro v hSw; (try dsimp only at hSw); go_simp; try with_reducible rfl⟩
    try simp only [Act.put, List.setIfInBounds_toArray, List.set_cons_zero, List.set_cons_succ]
    refine wpAnyH_ready (rs := [2]) (by kernel_rfl) (by simp) ?_
    refine AllReadyH.cons (o := ?or3_2) ?ir3_2 (fun K hK => ?sr3_2) AllReadyH.nil
    case ir3_2 => (simp only [List.getElem?_toArray, List.getElem?_cons_succ, List.getElem?_cons_zero]; rfl)
    (first | (go_simp; (first | (go_at_call 87; refine (c_toKnown k Ak capk w.heap.size _ (HP.out.below (bel_trans hB7 hHeld.2.2.2.2.2.2.2.2.2.2.2.2) (Nat.le_refl _)) (bel_trans hB7 hHeld.2.2.2.2.2.2.2.2.2.2.2.2).size hn).mono ?_; rintro e wt8 ⟨gt8, rfl, hownt8, hbt8⟩) | (go_at_call 88; refine (c_eqKnown k _ _ _ _ w7.heap.size _ _ ((own_ps_at ox07).below hHeld.2.2.2.2.2.2.2.2.2.2.2.2 (Nat.le_refl _)) (own_ps_at hownt8) (hHeld.2.2.2.2.2.2.2.2.2.2.2.2).size (Nat.le_refl _) hn).mono ?_; rintro e w8 ⟨rfl, hbq8⟩) | skip)))
    refine hK.out _ _ ?kr3_2 (fun hHeld => ?_)
    case kr3_2 => (try dsimp only); (first | with_reducible assumption | exact s12_bel (by assumption) (by assumption) | assumption | exact s12_alloc (by assumption) _)
    clear hK K
    try simp only [Act.put, List.setIfInBounds_toArray, List.set_cons_zero, List.set_cons_succ]
    refine wpAnyH_ready (rs := [3]) (by kernel_rfl) (by simp) ?_
    refine AllReadyH.cons (o := ?or3_3) ?ir3_3 (fun K hK => ?sr3_3) AllReadyH.nil
    case ir3_3 => (simp only [List.getElem?_toArray, List.getElem?_cons_succ, List.getElem?_cons_zero]; rfl)
    (first | (go_simp; (first | (go_at_call 87; refine (c_toKnown k Ak capk w.heap.size _ (HP.out.below (bel_trans hB7 hHeld.2.2.2.2.2.2.2.2.2.2.2.2) (Nat.le_refl _)) (bel_trans hB7 hHeld.2.2.2.2.2.2.2.2.2.2.2.2).size hn).mono ?_; rintro e wt8 ⟨gt8, rfl, hownt8, hbt8⟩) | (go_at_call 88; refine (c_eqKnown k _ _ _ _ w7.heap.size _ _ ((own_ps_at ox07).below hHeld.2.2.2.2.2.2.2.2.2.2.2.2 (Nat.le_refl _)) (own_ps_at hownt8) (hHeld.2.2.2.2.2.2.2.2.2.2.2.2).size (Nat.le_refl _) hn).mono ?_; rintro e w8 ⟨rfl, hbq8⟩) | skip)))
    refine hK.out _ _ ?kr3_3 (fun hHeld => ?_)
    case kr3_3 => (try dsimp only); (first | with_reducible assumption | exact s12_bel (by assumption) (by assumption) | assumption | exact s12_alloc (by assumption) _)
    clear hK K
    try simp only [Act.put, List.setIfInBounds_toArray, List.set_cons_zero, List.set_cons_succ]
    refine wpAnyH_take (i := 4) (oi := ?or3_4) (v := ?vr3_4) ?ir3_4 (by kernel_rfl) (by kernel_rfl) (by kernel_rfl) (fun _ _ _ h => h) ?yr3_4 (by assumption) ?wr3_4
    case ir3_4 => (simp only [List.getElem?_toArray, List.getElem?_cons_succ, List.getElem?_cons_zero]; rfl)
    case yr3_4 => exact Or.inl ⟨by rfl, by intro v hSw; (try dsimp only at hSw); go_simp; try with_reducible rfl⟩
    try simp only [Act.put, List.setIfInBounds_toArray, List.set_cons_zero, List.set_cons_succ]
    refine wpAnyH_done (by kernel_rfl) ?_ _
    refine NoPanic.normal ?_
    have hb8 := hHeld.2.2.2.2.2.2.2.2.2.2.2.2
    clear hHeld hS hbq8 hbt8 hownt8
    have hz8 : w7.heap.size ≤ w8.heap.size := by have := hb8.size; first | exact this | (simp only [World.size_alloc] at this; omega)
    have kN8 := kN7.on hb8
    have kX8 := kX7.on hb8
    have ox08 := own_on ox07 hb8
    have ox18 := own_on ox17 hb8
    have hB8 : Below w.heap.size w w8 := by (repeat (first | with_reducible assumption | with_reducible exact Below.refl _ _ | with_reducible refine bel_alloc ?_ _ | with_reducible refine bel_drew ?_ | with_reducible refine bel_drewN ?_ _ | with_reducible refine bel_set ?_ (by first | omega | (simp; done) | (simp; omega)) _ | with_reducible refine bel_trans ?_ (by with_reducible assumption) | exact Below.refl _ _ | assumption | refine bel_alloc ?_ _ | refine bel_drew ?_ | refine bel_drewN ?_ _ | refine bel_set ?_ (by first | omega | (simp; done) | (simp; omega)) _ | refine bel_trans ?_ (by assumption)))
    clear kN7 kX7 ox07 ox17 q0_0 q0_1 q0_2 q0_3 q0_4 q0_5 l0 q1_0 q1_1 q1_2 q1_3 q1_4 q1_5 l1 hb8 hB7
    obtain ⟨q0_0, q0_1, q0_2, q0_3, q0_4, q0_5⟩ := kN8.cells6
    have l0 := kN8.lt
    obtain ⟨q1_0, q1_1, q1_2, q1_3, q1_4, q1_5⟩ := kX8.cells6
    have l1 := kX8.lt
    go_wp2_with fail
    refine (c_toIntS Acodes capcodes codes w.heap.size _ (HQ_codes.out.below (by (repeat (first | with_reducible assumption | with_reducible exact Below.refl _ _ | with_reducible refine bel_alloc ?_ _ | with_reducible refine bel_drew ?_ | with_reducible refine bel_drewN ?_ _ | with_reducible refine bel_set ?_ (by first | omega | (simp; done) | (simp; omega)) _ | with_reducible refine bel_trans ?_ (by with_reducible assumption) | exact Below.refl _ _ | assumption | refine bel_alloc ?_ _ | refine bel_drew ?_ | refine bel_drewN ?_ _ | refine bel_set ?_ (by first | omega | (simp; done) | (simp; omega)) _ | refine bel_trans ?_ (by assumption)))) (Nat.le_refl _)) (by first | omega | (simp only [World.size_alloc]; omega)) hs_codes).mono ?_
    rintro e w9 ⟨gy8, rfl, hown9, hb9⟩
    have hz9 : w8.heap.size ≤ w9.heap.size := by have := hb9.size; first | exact this | (simp only [World.size_alloc] at this; omega)
    have kN9 := kN8.on hb9
    have kX9 := kX8.on hb9
    have ox09 := own_on ox08 hb9
    have ox19 := own_on ox18 hb9
    have hB9 : Below w.heap.size w w9 := by (repeat (first | with_reducible assumption | with_reducible exact Below.refl _ _ | with_reducible refine bel_alloc ?_ _ | with_reducible refine bel_drew ?_ | with_reducible refine bel_drewN ?_ _ | with_reducible refine bel_set ?_ (by first | omega | (simp; done) | (simp; omega)) _ | with_reducible refine bel_trans ?_ (by with_reducible assumption) | exact Below.refl _ _ | assumption | refine bel_alloc ?_ _ | refine bel_drew ?_ | refine bel_drewN ?_ _ | refine bel_set ?_ (by first | omega | (simp; done) | (simp; omega)) _ | refine bel_trans ?_ (by assumption)))
    clear kN8 kX8 ox08 ox18 q0_0 q0_1 q0_2 q0_3 q0_4 q0_5 l0 q1_0 q1_1 q1_2 q1_3 q1_4 q1_5 l1 hb9 hB8
    obtain ⟨q0_0, q0_1, q0_2, q0_3, q0_4, q0_5⟩ := kN9.cells6
    have l0 := kN9.lt
    obtain ⟨q1_0, q1_1, q1_2, q1_3, q1_4, q1_5⟩ := kX9.cells6
    have l1 := kX9.lt
    have oy89 := own_mono (B' := w8.heap.size) hown9 (by first | exact Nat.le_refl _ | (simp only [World.size_alloc]; omega) | omega)
    have uoy8 := hid (own_upto oy89)
    clear hown9
    go_wp2_with fail
    refine (c_eqIntS _ _ _ _ codes _ _ _ (own_ints_at ox19) (own_ints_at oy89) (Nat.le_refl _) (Nat.le_refl _) hs_codes).mono ?_
    rintro e w10 ⟨rfl, hb10⟩
    have hz10 : w9.heap.size ≤ w10.heap.size := by have := hb10.size; first | exact this | (simp only [World.size_alloc] at this; omega)
    have kN10 := kN9.on hb10
    have kX10 := kX9.on hb10
    have ox010 := own_on ox09 hb10
    have ox110 := own_on ox19 hb10
    have oy810 := own_on oy89 hb10
    have hB10 : Below w.heap.size w w10 := by (repeat (first | with_reducible assumption | with_reducible exact Below.refl _ _ | with_reducible refine bel_alloc ?_ _ | with_reducible refine bel_drew ?_ | with_reducible refine bel_drewN ?_ _ | with_reducible refine bel_set ?_ (by first | omega | (simp; done) | (simp; omega)) _ | with_reducible refine bel_trans ?_ (by with_reducible assumption) | exact Below.refl _ _ | assumption | refine bel_alloc ?_ _ | refine bel_drew ?_ | refine bel_drewN ?_ _ | refine bel_set ?_ (by first | omega | (simp; done) | (simp; omega)) _ | refine bel_trans ?_ (by assumption)))
    clear kN9 kX9 ox09 ox19 oy89 q0_0 q0_1 q0_2 q0_3 q0_4 q0_5 l0 q1_0 q1_1 q1_2 q1_3 q1_4 q1_5 l1 hb10 hB9
    obtain ⟨q0_0, q0_1, q0_2, q0_3, q0_4, q0_5⟩ := kN10.cells6
    have l0 := kN10.lt
    obtain ⟨q1_0, q1_1, q1_2, q1_3, q1_4, q1_5⟩ := kX10.cells6
    have l1 := kX10.lt
    clear oy810
    go_wp2
    go_ret
    exact ⟨rfl, by (repeat (first | with_reducible assumption | with_reducible exact Below.refl _ _ | with_reducible refine bel_alloc ?_ _ | with_reducible refine bel_drew ?_ | with_reducible refine bel_drewN ?_ _ | with_reducible refine bel_set ?_ (by first | omega | (simp; done) | (simp; omega)) _ | with_reducible refine bel_trans ?_ (by with_reducible assumption) | exact Below.refl _ _ | assumption | refine bel_alloc ?_ _ | refine bel_drew ?_ | refine bel_drewN ?_ _ | refine bel_set ?_ (by first | omega | (simp; done) | (simp; omega)) _ | refine bel_trans ?_ (by assumption)))⟩
  · have hb := hp.1
    have hcm := hp.2.1
    go_enter Try.func24, Try.ntmps24
    go_wp2_with fail
    refine (c_szKnown_big k Ak capk _ (by omega) (by omega)).mono ?_
    rintro e w1 ⟨rfl, hb1⟩
    have hc1 := bcell hb1
    have hz1_0 : w.heap.size < w1.heap.size := (by have := hb1.size; first | omega | (simp at this; omega))
    go_wp2
    go_ret
    exact ⟨rfl, by (repeat (first | with_reducible assumption | with_reducible exact Below.refl _ _ | with_reducible refine bel_alloc ?_ _ | with_reducible refine bel_drew ?_ | with_reducible refine bel_drewN ?_ _ | with_reducible refine bel_set ?_ (by first | omega | (simp; done) | (simp; omega)) _ | with_reducible refine bel_trans ?_ (by with_reducible assumption) | exact Below.refl _ _ | assumption | refine bel_alloc ?_ _ | refine bel_drew ?_ | refine bel_drewN ?_ _ | refine bel_set ?_ (by first | omega | (simp; done) | (simp; omega)) _ | refine bel_trans ?_ (by assumption)))⟩
end Go.Proofs.Ytoiifopjipfjhaa
