/- Walks of exact laws: each law's Go text returns true, and writes nothing that was there. -/
import Derived.Test.YtfjealhigckegaaDoorFe
import Derived.Test.YtfjealhigckegaaDoorBe
namespace Go.Proofs.YtfjealhigckegaaDoor
open Go.ChangeShapes Go.WideShapes Go.ChangeAt Go.RowKit Go.Joins
set_option linter.unusedVariables false

theorem own_ps_at {w : World} {B : Nat} {e : TypeId} {A : Option Addr} {n cap : Nat} {l : List Pr} (h : w.ownsRow B e 2 (.slice A n cap) n (prs l)) : PsAt w w.heap.size A cap l := by
  obtain ⟨A', cap', e1, h2, _, _⟩ := own_ps h
  obtain ⟨rfl, -, rfl⟩ : A = A' ∧ n = l.length ∧ cap = cap' := by simpa using e1
  exact h2

set_option maxHeartbeats 4000000 in
set_option maxRecDepth 100000 in
theorem walk_FnExactFormatKnown (k : Kn) (Ak : Option Addr) (capk : Nat) (w : World) (hp : PsAt w w.heap.size Ak capk k.ps) (hin : k.In) (hTab : TabN w) :
    Calls Tryd.prog 3 #[.agg #[.int .i64 k.o, .int .i64 k.l, .int .i64 k.m, .slice Ak k.ps.length capk, .int .i64 k.base, .int .i64 k.last]] w fun e w' => e = .returned (.bool true) ∧ Below w.heap.size w w' := by
  by_cases hn : k.ps.length ≤ 1048576
  · have hw := hin.wf hn
    obtain ⟨R, HS, HI⟩ : ∃ (R : ByteArray), (∀ (A : Option Addr) (cap L : Nat) (w : World), PsAt w L A cap k.ps → L ≤ w.heap.size → Calls Tryd.prog 6 #[.agg #[.int .i64 k.o, .int .i64 k.l, .int .i64 k.m, .slice A k.ps.length cap, .int .i64 k.base, .int .i64 k.last]] w (fun e w' => e = .returned (.string R) ∧ Below w.heap.size w w')) ∧ (∀ (A : Option Addr) (cap L : Nat) (v : World), PsAt v L A cap k.ps → L ≤ v.heap.size → Below w.heap.size w v → Calls Tryd.prog 8 #[.agg #[.int .i64 k.o, .int .i64 k.l, .int .i64 k.m, .slice A k.ps.length cap, .int .i64 k.base, .int .i64 k.last]] v (fun e w' => e = .returned (.string R) ∧ Below v.heap.size v w')) := by
      by_cases hk : k.Ok
      · exact ⟨knT k, fun A cap L w h hL => c_sFormatKnown_yes k A cap L w h hL hk hw, fun A cap L v h hL hb => c_FormatKnown_yes k A cap L v h hL hk hw (hTab.on hb)⟩
      · exact ⟨ByteArray.empty, fun A cap L w h hL => c_sFormatKnown_no k A cap L w h hL hk hw, fun A cap L v h hL hb => c_FormatKnown_no k A cap L v h hL hk hw⟩
    have HP := hid hp
    have HS := hid HS
    have HI := hid HI
    clear hp hin hw hTab
    go_enter Tryd.func3, Tryd.ntmps3
    go_wp2_with fail
    refine (c_szKnown k Ak capk _ hn).mono ?_
    rintro e w1 ⟨rfl, hb1⟩
    have hz1 : w.heap.size ≤ w1.heap.size := by have := hb1.size; first | exact this | (simp only [World.size_alloc] at this; omega)
    have kN1 := (Blk.new _ 26 #[.int .i64 k.o, .int .i64 k.l, .int .i64 k.m, .slice Ak k.ps.length capk, .int .i64 k.base, .int .i64 k.last]).on hb1
    have hB1 : Below w.heap.size w w1 := by (repeat (first | with_reducible (first | assumption | exact Below.refl _ _ | refine bel_alloc ?_ _ | refine bel_drew ?_ | refine bel_drewN ?_ _ | refine bel_set ?_ (by first | omega | (simp; done) | (simp; omega)) _ | refine bel_trans ?_ (by assumption)) | assumption | refine bel_trans ?_ (by assumption)))
    clear hb1
    obtain ⟨q0_0, q0_1, q0_2, q0_3, q0_4, q0_5⟩ := kN1.cells6
    have l0 := kN1.lt
    go_wp2_with fail
    refine (c_toKnown k Ak capk w.heap.size _ (HP.out.below (by (repeat (first | with_reducible (first | assumption | exact Below.refl _ _ | refine bel_alloc ?_ _ | refine bel_drew ?_ | refine bel_drewN ?_ _ | refine bel_set ?_ (by first | omega | (simp; done) | (simp; omega)) _ | refine bel_trans ?_ (by assumption)) | assumption | refine bel_trans ?_ (by assumption)))) (Nat.le_refl _)) (by first | omega | (simp only [World.size_alloc]; omega)) hn).mono ?_
    rintro e w2 ⟨gs0, rfl, hown2, hb2⟩
    have hz2 : w1.heap.size ≤ w2.heap.size := by have := hb2.size; first | exact this | (simp only [World.size_alloc] at this; omega)
    have kN2 := kN1.on hb2
    have hB2 : Below w.heap.size w w2 := by (repeat (first | with_reducible (first | assumption | exact Below.refl _ _ | refine bel_alloc ?_ _ | refine bel_drew ?_ | refine bel_drewN ?_ _ | refine bel_set ?_ (by first | omega | (simp; done) | (simp; omega)) _ | refine bel_trans ?_ (by assumption)) | assumption | refine bel_trans ?_ (by assumption)))
    clear kN1 q0_0 q0_1 q0_2 q0_3 q0_4 q0_5 l0 hb2 hB1
    obtain ⟨q0_0, q0_1, q0_2, q0_3, q0_4, q0_5⟩ := kN2.cells6
    have l0 := kN2.lt
    have os02 := own_mono (B' := w1.heap.size) hown2 (by first | exact Nat.le_refl _ | (simp only [World.size_alloc]; omega) | omega)
    clear hown2
    go_wp2_with fail
    refine (HS.out _ _ _ _ (own_ps_at os02) (Nat.le_refl _)).mono ?_
    rintro e w3 ⟨rfl, hb3⟩
    have hz3 : w2.heap.size ≤ w3.heap.size := by have := hb3.size; first | exact this | (simp only [World.size_alloc] at this; omega)
    have kN3 := kN2.on hb3
    have os03 := own_on os02 hb3
    have hB3 : Below w.heap.size w w3 := by (repeat (first | with_reducible (first | assumption | exact Below.refl _ _ | refine bel_alloc ?_ _ | refine bel_drew ?_ | refine bel_drewN ?_ _ | refine bel_set ?_ (by first | omega | (simp; done) | (simp; omega)) _ | refine bel_trans ?_ (by assumption)) | assumption | refine bel_trans ?_ (by assumption)))
    clear kN2 os02 q0_0 q0_1 q0_2 q0_3 q0_4 q0_5 l0 hb3 hB2
    obtain ⟨q0_0, q0_1, q0_2, q0_3, q0_4, q0_5⟩ := kN3.cells6
    have l0 := kN3.lt
    clear os03
    go_wp2_with fail
    refine (c_toKnown k Ak capk w.heap.size _ (HP.out.below (by (repeat (first | with_reducible (first | assumption | exact Below.refl _ _ | refine bel_alloc ?_ _ | refine bel_drew ?_ | refine bel_drewN ?_ _ | refine bel_set ?_ (by first | omega | (simp; done) | (simp; omega)) _ | refine bel_trans ?_ (by assumption)) | assumption | refine bel_trans ?_ (by assumption)))) (Nat.le_refl _)) (by first | omega | (simp only [World.size_alloc]; omega)) hn).mono ?_
    rintro e w4 ⟨gx0, rfl, hown4, hb4⟩
    have hz4 : w3.heap.size ≤ w4.heap.size := by have := hb4.size; first | exact this | (simp only [World.size_alloc] at this; omega)
    have kN4 := kN3.on hb4
    have hB4 : Below w.heap.size w w4 := by (repeat (first | with_reducible (first | assumption | exact Below.refl _ _ | refine bel_alloc ?_ _ | refine bel_drew ?_ | refine bel_drewN ?_ _ | refine bel_set ?_ (by first | omega | (simp; done) | (simp; omega)) _ | refine bel_trans ?_ (by assumption)) | assumption | refine bel_trans ?_ (by assumption)))
    clear kN3 q0_0 q0_1 q0_2 q0_3 q0_4 q0_5 l0 hb4 hB3
    obtain ⟨q0_0, q0_1, q0_2, q0_3, q0_4, q0_5⟩ := kN4.cells6
    have l0 := kN4.lt
    have ox04 := own_mono (B' := w3.heap.size) hown4 (by first | exact Nat.le_refl _ | (simp only [World.size_alloc]; omega) | omega)
    clear hown4
    go_wp2_with fail
    refine (HI.out _ _ _ _ (own_ps_at (ox04.alloc _)) (Nat.le_refl _) (by (repeat (first | with_reducible (first | assumption | exact Below.refl _ _ | refine bel_alloc ?_ _ | refine bel_drew ?_ | refine bel_drewN ?_ _ | refine bel_set ?_ (by first | omega | (simp; done) | (simp; omega)) _ | refine bel_trans ?_ (by assumption)) | assumption | refine bel_trans ?_ (by assumption))))).mono ?_
    rintro e w5 ⟨rfl, hb5⟩
    have hz5 : w4.heap.size ≤ w5.heap.size := by have := hb5.size; first | exact this | (simp only [World.size_alloc] at this; omega)
    have kN5 := (kN4.alloc _).on hb5
    have kX5 := (Blk.new _ 32 #[.int .i64 k.o, .int .i64 k.l, .int .i64 k.m, .slice (some ⟨gx0, 0, none⟩) k.ps.length k.ps.length, .int .i64 k.base, .int .i64 k.last]).on hb5
    have ox05 := own_on (ox04.alloc _) hb5
    have hB5 : Below w.heap.size w w5 := by (repeat (first | with_reducible (first | assumption | exact Below.refl _ _ | refine bel_alloc ?_ _ | refine bel_drew ?_ | refine bel_drewN ?_ _ | refine bel_set ?_ (by first | omega | (simp; done) | (simp; omega)) _ | refine bel_trans ?_ (by assumption)) | assumption | refine bel_trans ?_ (by assumption)))
    clear kN4 ox04 q0_0 q0_1 q0_2 q0_3 q0_4 q0_5 l0 hb5 hB4
    obtain ⟨q0_0, q0_1, q0_2, q0_3, q0_4, q0_5⟩ := kN5.cells6
    have l0 := kN5.lt
    obtain ⟨q1_0, q1_1, q1_2, q1_3, q1_4, q1_5⟩ := kX5.cells6
    have l1 := kX5.lt
    go_wp2_with fail
    have hS := held12 kN5.cells6 kX5.cells6 (Below.refl w5.heap.size w5)
    refine wp_region_noPanic ?_
    refine wp_region_held_drew (S := (fun v => v.cell? ⟨w.heap.size, 0, none⟩ = some (.int .i64 k.o) ∧ v.cell? ⟨w.heap.size, 1, none⟩ = some (.int .i64 k.l) ∧ v.cell? ⟨w.heap.size, 2, none⟩ = some (.int .i64 k.m) ∧ v.cell? ⟨w.heap.size, 3, none⟩ = some (.slice Ak k.ps.length capk) ∧ v.cell? ⟨w.heap.size, 4, none⟩ = some (.int .i64 k.base) ∧ v.cell? ⟨w.heap.size, 5, none⟩ = some (.int .i64 k.last) ∧ v.cell? ⟨w4.heap.size, 0, none⟩ = some (.int .i64 k.o) ∧ v.cell? ⟨w4.heap.size, 1, none⟩ = some (.int .i64 k.l) ∧ v.cell? ⟨w4.heap.size, 2, none⟩ = some (.int .i64 k.m) ∧ v.cell? ⟨w4.heap.size, 3, none⟩ = some (.slice (some ⟨gx0, 0, none⟩) k.ps.length k.ps.length) ∧ v.cell? ⟨w4.heap.size, 4, none⟩ = some (.int .i64 k.base) ∧ v.cell? ⟨w4.heap.size, 5, none⟩ = some (.int .i64 k.last) ∧ Below w5.heap.size w5 v)) (by kernel_rfl) (s12_drew hS) (fun hHeld => ?_)
    refine tk 0 ?_
    refine tk 1 ?_
    refine wpAnyH_ready (rs := [2]) (by kernel_rfl) (by simp) ?_
    refine AllReadyH.cons (o := ?or1_2) ?ir1_2 (fun K hK => ?sr1_2) AllReadyH.nil
    case ir1_2 => (simp only [List.getElem?_toArray, List.getElem?_cons_succ, List.getElem?_cons_zero]; rfl)
    (first | (go_simp; (first | (go_at_call 7; refine (c_toKnown k Ak capk w.heap.size _ (HP.out.below (bel_trans hB5 hHeld.2.2.2.2.2.2.2.2.2.2.2.2) (Nat.le_refl _)) (bel_trans hB5 hHeld.2.2.2.2.2.2.2.2.2.2.2.2).size hn).mono ?_; rintro e wt6 ⟨gt6, rfl, hownt6, hbt6⟩) | (go_at_call 9; refine (c_eqKnown k _ _ _ _ w5.heap.size _ _ ((own_ps_at ox05).below hHeld.2.2.2.2.2.2.2.2.2.2.2.2 (Nat.le_refl _)) (own_ps_at hownt6) (hHeld.2.2.2.2.2.2.2.2.2.2.2.2).size (Nat.le_refl _) hn).mono ?_; rintro e w6 ⟨rfl, hbq6⟩) | skip)))
    refine hK.out _ _ ?kr1_2 (fun hHeld => ?_)
    case kr1_2 => (try dsimp only); (first | with_reducible assumption | exact s12_bel (by assumption) (by assumption) | assumption | exact s12_alloc (by assumption) _)
    clear hK K
    try simp only [Act.put, List.setIfInBounds_toArray, List.set_cons_zero, List.set_cons_succ]
    refine wpAnyH_ready (rs := [3]) (by kernel_rfl) (by simp) ?_
    refine AllReadyH.cons (o := ?or1_3) ?ir1_3 (fun K hK => ?sr1_3) AllReadyH.nil
    case ir1_3 => (simp only [List.getElem?_toArray, List.getElem?_cons_succ, List.getElem?_cons_zero]; rfl)
    (first | (go_simp; (first | (go_at_call 7; refine (c_toKnown k Ak capk w.heap.size _ (HP.out.below (bel_trans hB5 hHeld.2.2.2.2.2.2.2.2.2.2.2.2) (Nat.le_refl _)) (bel_trans hB5 hHeld.2.2.2.2.2.2.2.2.2.2.2.2).size hn).mono ?_; rintro e wt6 ⟨gt6, rfl, hownt6, hbt6⟩) | (go_at_call 9; refine (c_eqKnown k _ _ _ _ w5.heap.size _ _ ((own_ps_at ox05).below hHeld.2.2.2.2.2.2.2.2.2.2.2.2 (Nat.le_refl _)) (own_ps_at hownt6) (hHeld.2.2.2.2.2.2.2.2.2.2.2.2).size (Nat.le_refl _) hn).mono ?_; rintro e w6 ⟨rfl, hbq6⟩) | skip)))
    refine hK.out _ _ ?kr1_3 (fun hHeld => ?_)
    case kr1_3 => (try dsimp only); (first | with_reducible assumption | exact s12_bel (by assumption) (by assumption) | assumption | exact s12_alloc (by assumption) _)
    clear hK K
    try simp only [Act.put, List.setIfInBounds_toArray, List.set_cons_zero, List.set_cons_succ]
    refine tk 4 ?_
    refine wpAnyH_done (by kernel_rfl) ?_ _
    refine NoPanic.normal ?_
    have hb6 := hHeld.2.2.2.2.2.2.2.2.2.2.2.2
    clear hHeld hS hbq6 hbt6 hownt6
    have hz6 : w5.heap.size ≤ w6.heap.size := by have := hb6.size; first | exact this | (simp only [World.size_alloc] at this; omega)
    have kN6 := kN5.on hb6
    have kX6 := kX5.on hb6
    have ox06 := own_on ox05 hb6
    have hB6 : Below w.heap.size w w6 := by (repeat (first | with_reducible (first | assumption | exact Below.refl _ _ | refine bel_alloc ?_ _ | refine bel_drew ?_ | refine bel_drewN ?_ _ | refine bel_set ?_ (by first | omega | (simp; done) | (simp; omega)) _ | refine bel_trans ?_ (by assumption)) | assumption | refine bel_trans ?_ (by assumption)))
    clear kN5 kX5 ox05 q0_0 q0_1 q0_2 q0_3 q0_4 q0_5 l0 q1_0 q1_1 q1_2 q1_3 q1_4 q1_5 l1 hb6 hB5
    obtain ⟨q0_0, q0_1, q0_2, q0_3, q0_4, q0_5⟩ := kN6.cells6
    have l0 := kN6.lt
    obtain ⟨q1_0, q1_1, q1_2, q1_3, q1_4, q1_5⟩ := kX6.cells6
    have l1 := kX6.lt
    go_wp2
    go_ret
    exact ⟨rfl, by (repeat (first | with_reducible (first | assumption | exact Below.refl _ _ | refine bel_alloc ?_ _ | refine bel_drew ?_ | refine bel_drewN ?_ _ | refine bel_set ?_ (by first | omega | (simp; done) | (simp; omega)) _ | refine bel_trans ?_ (by assumption)) | assumption | refine bel_trans ?_ (by assumption)))⟩
  · have hb := hp.1
    have hcm := hp.2.1
    go_enter Tryd.func3, Tryd.ntmps3
    go_wp2_with fail
    refine (c_szKnown_big k Ak capk _ (by omega) (by omega)).mono ?_
    rintro e w1 ⟨rfl, hb1⟩
    have hc1 := bcell hb1
    have hz1_0 : w.heap.size < w1.heap.size := (by have := hb1.size; first | omega | (simp at this; omega))
    go_wp2
    go_ret
    exact ⟨rfl, by (repeat (first | with_reducible (first | assumption | exact Below.refl _ _ | refine bel_alloc ?_ _ | refine bel_drew ?_ | refine bel_drewN ?_ _ | refine bel_set ?_ (by first | omega | (simp; done) | (simp; omega)) _ | refine bel_trans ?_ (by assumption)) | assumption | refine bel_trans ?_ (by assumption)))⟩
end Go.Proofs.YtfjealhigckegaaDoor
