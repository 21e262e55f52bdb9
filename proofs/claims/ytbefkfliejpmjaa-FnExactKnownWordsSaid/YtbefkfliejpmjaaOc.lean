/- Walks of exact laws: each law's Go text returns true, and writes nothing that was there. -/
import Derived.Test.YtbefkfliejpmjaaOd
namespace Go.Proofs.Ytbefkfliejpmjaa
open Go.ChangeShapes Go.WideShapes Go.ChangeAt Go.RowKit Go.Joins
set_option linter.unusedVariables false

set_option maxHeartbeats 4000000 in
set_option maxRecDepth 100000 in
theorem walk_FnExactKnownWords (k : Kn) (Ak : Option Addr) (capk : Nat) (w : World) (hp : PsAt w w.heap.size Ak capk k.ps) (hin : k.In) :
    Calls Try.prog 3 #[.agg #[.int .i64 k.o, .int .i64 k.l, .int .i64 k.m, .slice Ak k.ps.length capk, .int .i64 k.base, .int .i64 k.last]] w fun e w' => e = .returned (.bool true) ∧ Below w.heap.size w w' := by
  by_cases hn : k.ps.length ≤ 1048576
  · have hw := hin.wf hn
    obtain ⟨R, hl0, HS, HI⟩ : ∃ (R : List ByteArray), R.length ≤ 1048576 ∧ (∀ (A : Option Addr) (cap L : Nat) (w : World), PsAt w L A cap k.ps → L ≤ w.heap.size → Calls Try.prog 5 #[.agg #[.int .i64 k.o, .int .i64 k.l, .int .i64 k.m, .slice A k.ps.length cap, .int .i64 k.base, .int .i64 k.last]] w (fun e w' => ∃ A0_ cap0_, e = .returned (.slice A0_ R.length cap0_) ∧ w'.ownsRow w.heap.size 9 1 (.slice A0_ R.length cap0_) R.length (R.map sv) ∧ Below w.heap.size w w')) ∧ (∀ (A : Option Addr) (cap L : Nat) (w : World), PsAt w L A cap k.ps → L ≤ w.heap.size → Calls Try.prog 7 #[.agg #[.int .i64 k.o, .int .i64 k.l, .int .i64 k.m, .slice A k.ps.length cap, .int .i64 k.base, .int .i64 k.last]] w (fun e w' => ∃ A0_ cap0_, e = .returned (.slice A0_ R.length cap0_) ∧ w'.ownsRow w.heap.size 9 1 (.slice A0_ R.length cap0_) R.length (R.map sv) ∧ Below w.heap.size w w')) := by
      exact ⟨kwR k, kwR_len k, fun A cap L w h hL => c_sKnownWords k A cap L w h hL hw, fun A cap L w h hL => c_KnownWords k A cap L w h hL hw⟩
    have HP := hid hp
    have HS := hid HS
    have HI := hid HI
    clear hp hin hw
    go_enter Try.func3, Try.ntmps3
    go_wp2_with fail
    refine (c_szKnown k Ak capk _ hn).mono ?_
    rintro e w1 ⟨rfl, hb1⟩
    have hz1 : w.heap.size ≤ w1.heap.size := by have := hb1.size; first | exact this | (simp only [World.size_alloc] at this; omega)
    have kN1 := (Blk.new _ 26 #[.int .i64 k.o, .int .i64 k.l, .int .i64 k.m, .slice Ak k.ps.length capk, .int .i64 k.base, .int .i64 k.last]).on hb1
    have hB1 : Below w.heap.size w w1 := by (repeat (first | with_reducible (first | assumption | exact Below.refl _ _ | refine bel_alloc ?_ _ | refine bel_drew ?_ | refine bel_drewN ?_ _ | refine bel_set ?_ (by first | omega | (simp; done) | (simp; omega)) _ | refine bel_trans ?_ (by assumption)) | assumption | refine bel_trans ?_ (by assumption)))
    clear hb1
    obtain ⟨q0_0, q0_1, q0_2, q0_3, q0_4, q0_5⟩ := kN1.cells6
    have l0 := kN1.lt
    go_wp2_with fail
    refine (c_toKnown k Ak capk w.heap.size _ (HP.out.below (by (repeat (first | with_reducible (first | assumption | exact Below.refl _ _ | refine bel_alloc ?_ _ | refine bel_drew ?_ | refine bel_drewN ?_ _ | refine bel_set ?_ (by first | omega | (simp; done) | (simp; omega)) _ | refine bel_trans ?_ (by assumption)) | assumption | refine bel_trans ?_ (by assumption)))) (Nat.le_refl _)) (by first | omega | (simp only [World.size_alloc]; omega)) hn).mono ?_
    rintro e w2 ⟨gs0, rfl, hown2, hb2⟩
    have hz2 : w1.heap.size ≤ w2.heap.size := by have := hb2.size; first | exact this | (simp only [World.size_alloc] at this; omega)
    have kN2 := kN1.on hb2
    have hB2 : Below w.heap.size w w2 := by (repeat (first | with_reducible (first | assumption | exact Below.refl _ _ | refine bel_alloc ?_ _ | refine bel_drew ?_ | refine bel_drewN ?_ _ | refine bel_set ?_ (by first | omega | (simp; done) | (simp; omega)) _ | refine bel_trans ?_ (by assumption)) | assumption | refine bel_trans ?_ (by assumption)))
    clear kN1 q0_0 q0_1 q0_2 q0_3 q0_4 q0_5 l0 hb2 hB1
    obtain ⟨q0_0, q0_1, q0_2, q0_3, q0_4, q0_5⟩ := kN2.cells6
    have l0 := kN2.lt
    have os02 := own_mono (B' := w1.heap.size) hown2 (by first | exact Nat.le_refl _ | (simp only [World.size_alloc]; omega) | omega)
    have uos0 := hid (own_upto os02)
    clear hown2
    go_wp2_with fail
    refine (HS.out _ _ _ _ (own_ps_at os02) (Nat.le_refl _)).mono ?_
    rintro e w3 ⟨AW0, cW0, rfl, hrW0, hb3⟩
    have hz3 : w2.heap.size ≤ w3.heap.size := by have := hb3.size; first | exact this | (simp only [World.size_alloc] at this; omega)
    have kN3 := kN2.on hb3
    have os03 := own_on os02 hb3
    have hB3 : Below w.heap.size w w3 := by (repeat (first | with_reducible (first | assumption | exact Below.refl _ _ | refine bel_alloc ?_ _ | refine bel_drew ?_ | refine bel_drewN ?_ _ | refine bel_set ?_ (by first | omega | (simp; done) | (simp; omega)) _ | refine bel_trans ?_ (by assumption)) | assumption | refine bel_trans ?_ (by assumption)))
    clear kN2 os02 q0_0 q0_1 q0_2 q0_3 q0_4 q0_5 l0 hb3 hB2
    obtain ⟨q0_0, q0_1, q0_2, q0_3, q0_4, q0_5⟩ := kN3.cells6
    have l0 := kN3.lt
    have oW03 := own_mono (B' := w2.heap.size) hrW0 (by first | exact Nat.le_refl _ | (simp only [World.size_alloc]; omega) | omega)
    have uoW0 := hid (own_upto oW03)
    clear hrW0
    clear os03
    go_wp2_with fail
    refine (c_toKnown k Ak capk w.heap.size _ (HP.out.below (by (repeat (first | with_reducible (first | assumption | exact Below.refl _ _ | refine bel_alloc ?_ _ | refine bel_drew ?_ | refine bel_drewN ?_ _ | refine bel_set ?_ (by first | omega | (simp; done) | (simp; omega)) _ | refine bel_trans ?_ (by assumption)) | assumption | refine bel_trans ?_ (by assumption)))) (Nat.le_refl _)) (by first | omega | (simp only [World.size_alloc]; omega)) hn).mono ?_
    rintro e w4 ⟨gx0, rfl, hown4, hb4⟩
    have hz4 : w3.heap.size ≤ w4.heap.size := by have := hb4.size; first | exact this | (simp only [World.size_alloc] at this; omega)
    have kN4 := kN3.on hb4
    have oW04 := own_on oW03 hb4
    have hB4 : Below w.heap.size w w4 := by (repeat (first | with_reducible (first | assumption | exact Below.refl _ _ | refine bel_alloc ?_ _ | refine bel_drew ?_ | refine bel_drewN ?_ _ | refine bel_set ?_ (by first | omega | (simp; done) | (simp; omega)) _ | refine bel_trans ?_ (by assumption)) | assumption | refine bel_trans ?_ (by assumption)))
    clear kN3 oW03 q0_0 q0_1 q0_2 q0_3 q0_4 q0_5 l0 hb4 hB3
    obtain ⟨q0_0, q0_1, q0_2, q0_3, q0_4, q0_5⟩ := kN4.cells6
    have l0 := kN4.lt
    have ox04 := own_mono (B' := w3.heap.size) hown4 (by first | exact Nat.le_refl _ | (simp only [World.size_alloc]; omega) | omega)
    have uox0 := hid (own_upto ox04)
    clear hown4
    go_wp2_with fail
    refine (HI.out _ _ _ _ (own_ps_at (ox04.alloc _)) (Nat.le_refl _)).mono ?_
    rintro e w5 ⟨AG0, cG0, rfl, hrG0, hb5⟩
    have hz5 : w4.heap.size ≤ w5.heap.size := by have := hb5.size; first | exact this | (simp only [World.size_alloc] at this; omega)
    have kN5 := (kN4.alloc _).on hb5
    have kX5 := (Blk.new _ 33 #[.int .i64 k.o, .int .i64 k.l, .int .i64 k.m, .slice (some ⟨gx0, 0, none⟩) k.ps.length k.ps.length, .int .i64 k.base, .int .i64 k.last]).on hb5
    have oW05 := own_on (oW04.alloc _) hb5
    have ox05 := own_on (ox04.alloc _) hb5
    have hB5 : Below w.heap.size w w5 := by (repeat (first | with_reducible (first | assumption | exact Below.refl _ _ | refine bel_alloc ?_ _ | refine bel_drew ?_ | refine bel_drewN ?_ _ | refine bel_set ?_ (by first | omega | (simp; done) | (simp; omega)) _ | refine bel_trans ?_ (by assumption)) | assumption | refine bel_trans ?_ (by assumption)))
    clear kN4 oW04 ox04 q0_0 q0_1 q0_2 q0_3 q0_4 q0_5 l0 hb5 hB4
    obtain ⟨q0_0, q0_1, q0_2, q0_3, q0_4, q0_5⟩ := kN5.cells6
    have l0 := kN5.lt
    obtain ⟨q1_0, q1_1, q1_2, q1_3, q1_4, q1_5⟩ := kX5.cells6
    have l1 := kX5.lt
    have oG05 := own_mono (B' := w4.heap.size) hrG0 (by first | exact Nat.le_refl _ | (simp only [World.size_alloc]; omega) | omega)
    have uoG0 := hid (own_upto oG05)
    clear hrG0
    go_wp2_with fail
    refine (c_eqStringS _ _ _ _ R _ _ _ (own_strs_at oG05) (own_strs_at oW05) (Nat.le_refl _) (Nat.le_refl _) hl0).mono ?_
    rintro e w6 ⟨rfl, hb6⟩
    have hz6 : w5.heap.size ≤ w6.heap.size := by have := hb6.size; first | exact this | (simp only [World.size_alloc] at this; omega)
    have kN6 := kN5.on hb6
    have kX6 := kX5.on hb6
    have oW06 := own_on oW05 hb6
    have ox06 := own_on ox05 hb6
    have oG06 := own_on oG05 hb6
    have hB6 : Below w.heap.size w w6 := by (repeat (first | with_reducible (first | assumption | exact Below.refl _ _ | refine bel_alloc ?_ _ | refine bel_drew ?_ | refine bel_drewN ?_ _ | refine bel_set ?_ (by first | omega | (simp; done) | (simp; omega)) _ | refine bel_trans ?_ (by assumption)) | assumption | refine bel_trans ?_ (by assumption)))
    clear kN5 kX5 oW05 ox05 oG05 q0_0 q0_1 q0_2 q0_3 q0_4 q0_5 l0 q1_0 q1_1 q1_2 q1_3 q1_4 q1_5 l1 hb6 hB5
    obtain ⟨q0_0, q0_1, q0_2, q0_3, q0_4, q0_5⟩ := kN6.cells6
    have l0 := kN6.lt
    obtain ⟨q1_0, q1_1, q1_2, q1_3, q1_4, q1_5⟩ := kX6.cells6
    have l1 := kX6.lt
    go_wp2_with fail
    have hS := held12 kN6.cells6 kX6.cells6 (Below.refl w6.heap.size w6)
    refine wp_region_noPanic ?_
    refine wp_region_held_drew (S := (fun v => v.cell? ⟨w.heap.size, 0, none⟩ = some (.int .i64 k.o) ∧ v.cell? ⟨w.heap.size, 1, none⟩ = some (.int .i64 k.l) ∧ v.cell? ⟨w.heap.size, 2, none⟩ = some (.int .i64 k.m) ∧ v.cell? ⟨w.heap.size, 3, none⟩ = some (.slice Ak k.ps.length capk) ∧ v.cell? ⟨w.heap.size, 4, none⟩ = some (.int .i64 k.base) ∧ v.cell? ⟨w.heap.size, 5, none⟩ = some (.int .i64 k.last) ∧ v.cell? ⟨w4.heap.size, 0, none⟩ = some (.int .i64 k.o) ∧ v.cell? ⟨w4.heap.size, 1, none⟩ = some (.int .i64 k.l) ∧ v.cell? ⟨w4.heap.size, 2, none⟩ = some (.int .i64 k.m) ∧ v.cell? ⟨w4.heap.size, 3, none⟩ = some (.slice (some ⟨gx0, 0, none⟩) k.ps.length k.ps.length) ∧ v.cell? ⟨w4.heap.size, 4, none⟩ = some (.int .i64 k.base) ∧ v.cell? ⟨w4.heap.size, 5, none⟩ = some (.int .i64 k.last) ∧ Below w6.heap.size w6 v)) (by kernel_rfl) (s12_drew hS) (fun hHeld => ?_)
    refine tk 0 ?_
    refine tk 1 ?_
    refine wpAnyH_ready (rs := [2]) (by kernel_rfl) (by simp) ?_
    refine AllReadyH.cons (o := ?or1_2) ?ir1_2 (fun K hK => ?sr1_2) AllReadyH.nil
    case ir1_2 => (simp only [List.getElem?_toArray, List.getElem?_cons_succ, List.getElem?_cons_zero]; rfl)
    (first | (go_simp; (first | (go_at_call 6; refine (c_toKnown k Ak capk w.heap.size _ (HP.out.below (bel_trans hB6 hHeld.2.2.2.2.2.2.2.2.2.2.2.2) (Nat.le_refl _)) (bel_trans hB6 hHeld.2.2.2.2.2.2.2.2.2.2.2.2).size hn).mono ?_; rintro e wt7 ⟨gt7, rfl, hownt7, hbt7⟩) | (go_at_call 9; refine (c_eqKnown k _ _ _ _ w6.heap.size _ _ ((own_ps_at ox06).below hHeld.2.2.2.2.2.2.2.2.2.2.2.2 (Nat.le_refl _)) (own_ps_at hownt7) (hHeld.2.2.2.2.2.2.2.2.2.2.2.2).size (Nat.le_refl _) hn).mono ?_; rintro e w7 ⟨rfl, hbq7⟩) | skip)))
    refine hK.out _ _ ?kr1_2 (fun hHeld => ?_)
    case kr1_2 => (try dsimp only); (first | with_reducible assumption | exact s12_bel (by assumption) (by assumption) | assumption | exact s12_alloc (by assumption) _)
    clear hK K
    try simp only [Act.put, List.setIfInBounds_toArray, List.set_cons_zero, List.set_cons_succ]
    refine wpAnyH_ready (rs := [3]) (by kernel_rfl) (by simp) ?_
    refine AllReadyH.cons (o := ?or1_3) ?ir1_3 (fun K hK => ?sr1_3) AllReadyH.nil
    case ir1_3 => (simp only [List.getElem?_toArray, List.getElem?_cons_succ, List.getElem?_cons_zero]; rfl)
    (first | (go_simp; (first | (go_at_call 6; refine (c_toKnown k Ak capk w.heap.size _ (HP.out.below (bel_trans hB6 hHeld.2.2.2.2.2.2.2.2.2.2.2.2) (Nat.le_refl _)) (bel_trans hB6 hHeld.2.2.2.2.2.2.2.2.2.2.2.2).size hn).mono ?_; rintro e wt7 ⟨gt7, rfl, hownt7, hbt7⟩) | (go_at_call 9; refine (c_eqKnown k _ _ _ _ w6.heap.size _ _ ((own_ps_at ox06).below hHeld.2.2.2.2.2.2.2.2.2.2.2.2 (Nat.le_refl _)) (own_ps_at hownt7) (hHeld.2.2.2.2.2.2.2.2.2.2.2.2).size (Nat.le_refl _) hn).mono ?_; rintro e w7 ⟨rfl, hbq7⟩) | skip)))
    refine hK.out _ _ ?kr1_3 (fun hHeld => ?_)
    case kr1_3 => (try dsimp only); (first | with_reducible assumption | exact s12_bel (by assumption) (by assumption) | assumption | exact s12_alloc (by assumption) _)
    clear hK K
    try simp only [Act.put, List.setIfInBounds_toArray, List.set_cons_zero, List.set_cons_succ]
    refine tk 4 ?_
    refine wpAnyH_done (by kernel_rfl) ?_ _
    refine NoPanic.normal ?_
    have hb7 := hHeld.2.2.2.2.2.2.2.2.2.2.2.2
    clear hHeld hS hbq7 hbt7 hownt7
    have hz7 : w6.heap.size ≤ w7.heap.size := by have := hb7.size; first | exact this | (simp only [World.size_alloc] at this; omega)
    have kN7 := kN6.on hb7
    have kX7 := kX6.on hb7
    have oW07 := own_on oW06 hb7
    have ox07 := own_on ox06 hb7
    have oG07 := own_on oG06 hb7
    have hB7 : Below w.heap.size w w7 := by (repeat (first | with_reducible (first | assumption | exact Below.refl _ _ | refine bel_alloc ?_ _ | refine bel_drew ?_ | refine bel_drewN ?_ _ | refine bel_set ?_ (by first | omega | (simp; done) | (simp; omega)) _ | refine bel_trans ?_ (by assumption)) | assumption | refine bel_trans ?_ (by assumption)))
    clear kN6 kX6 oW06 ox06 oG06 q0_0 q0_1 q0_2 q0_3 q0_4 q0_5 l0 q1_0 q1_1 q1_2 q1_3 q1_4 q1_5 l1 hb7 hB6
    obtain ⟨q0_0, q0_1, q0_2, q0_3, q0_4, q0_5⟩ := kN7.cells6
    have l0 := kN7.lt
    obtain ⟨q1_0, q1_1, q1_2, q1_3, q1_4, q1_5⟩ := kX7.cells6
    have l1 := kX7.lt
    go_wp2_with fail
    refine (c_markKnown_any k _ _ _ _ (ox07) (by first | omega | (simp only [World.size_alloc]; omega)) hn).mono ?_
    rintro e w8 ⟨rfl, hown8, hg8⟩
    have hz8 : w7.heap.size ≤ w8.heap.size := by have := hg8.size; first | exact this | (simp only [World.size_alloc] at this; omega)
    have kN8 := box_apart kN7 ox07 (by decide) hg8
    have kX8 := box_apart kX7 ox07 (by decide) hg8
    have oW08 := oW07.kept hg8 (own_apart oW07 ox07 (by decide))
    have ox08 := hown8
    have oG08 := oG07.kept hg8 (own_apart oG07 ox07 (by decide))
    have hB8 : Below w.heap.size w w8 := bel_grow (by (repeat (first | with_reducible (first | assumption | exact Below.refl _ _ | refine bel_alloc ?_ _ | refine bel_drew ?_ | refine bel_drewN ?_ _ | refine bel_set ?_ (by first | omega | (simp; done) | (simp; omega)) _ | refine bel_trans ?_ (by assumption)) | assumption | refine bel_trans ?_ (by assumption)))) ox07 (by omega) hg8
    clear kN7 kX7 oW07 ox07 oG07 q0_0 q0_1 q0_2 q0_3 q0_4 q0_5 l0 q1_0 q1_1 q1_2 q1_3 q1_4 q1_5 l1 hown8 hg8 hB7
    obtain ⟨q0_0, q0_1, q0_2, q0_3, q0_4, q0_5⟩ := kN8.cells6
    have l0 := kN8.lt
    obtain ⟨q1_0, q1_1, q1_2, q1_3, q1_4, q1_5⟩ := kX8.cells6
    have l1 := kX8.lt
    go_wp2_with fail
    refine (c_eqStringS _ _ _ _ R _ _ _ (own_strs_at oG08) (own_strs_at oW08) (Nat.le_refl _) (Nat.le_refl _) hl0).mono ?_
    rintro e w9 ⟨rfl, hb9⟩
    have hz9 : w8.heap.size ≤ w9.heap.size := by have := hb9.size; first | exact this | (simp only [World.size_alloc] at this; omega)
    have kN9 := kN8.on hb9
    have kX9 := kX8.on hb9
    have oW09 := own_on oW08 hb9
    have ox09 := own_on ox08 hb9
    have oG09 := own_on oG08 hb9
    have hB9 : Below w.heap.size w w9 := by (repeat (first | with_reducible (first | assumption | exact Below.refl _ _ | refine bel_alloc ?_ _ | refine bel_drew ?_ | refine bel_drewN ?_ _ | refine bel_set ?_ (by first | omega | (simp; done) | (simp; omega)) _ | refine bel_trans ?_ (by assumption)) | assumption | refine bel_trans ?_ (by assumption)))
    clear kN8 kX8 oW08 ox08 oG08 q0_0 q0_1 q0_2 q0_3 q0_4 q0_5 l0 q1_0 q1_1 q1_2 q1_3 q1_4 q1_5 l1 hb9 hB8
    obtain ⟨q0_0, q0_1, q0_2, q0_3, q0_4, q0_5⟩ := kN9.cells6
    have l0 := kN9.lt
    obtain ⟨q1_0, q1_1, q1_2, q1_3, q1_4, q1_5⟩ := kX9.cells6
    have l1 := kX9.lt
    go_wp2_with fail
    refine (c_markStringS_any R _ _ _ _ (oG09) hl0).mono ?_
    rintro e w10 ⟨rfl, hown10, hg10⟩
    have hz10 : w9.heap.size ≤ w10.heap.size := by have := hg10.size; first | exact this | (simp only [World.size_alloc] at this; omega)
    have kN10 := box_apart kN9 oG09 (by decide) hg10
    have kX10 := box_apart kX9 oG09 (by decide) hg10
    have oW010 := oW09.kept hg10 (sep_old uoW0.out oG09 (by omega))
    have ox010 := ox09.kept hg10 (own_apart ox09 oG09 (by decide))
    have oG010 := hown10
    have hB10 : Below w.heap.size w w10 := bel_grow (by (repeat (first | with_reducible (first | assumption | exact Below.refl _ _ | refine bel_alloc ?_ _ | refine bel_drew ?_ | refine bel_drewN ?_ _ | refine bel_set ?_ (by first | omega | (simp; done) | (simp; omega)) _ | refine bel_trans ?_ (by assumption)) | assumption | refine bel_trans ?_ (by assumption)))) oG09 (by omega) hg10
    clear kN9 kX9 oW09 ox09 oG09 q0_0 q0_1 q0_2 q0_3 q0_4 q0_5 l0 q1_0 q1_1 q1_2 q1_3 q1_4 q1_5 l1 hown10 hg10 hB9
    obtain ⟨q0_0, q0_1, q0_2, q0_3, q0_4, q0_5⟩ := kN10.cells6
    have l0 := kN10.lt
    obtain ⟨q1_0, q1_1, q1_2, q1_3, q1_4, q1_5⟩ := kX10.cells6
    have l1 := kX10.lt
    go_wp2_with fail
    refine (c_heldStringS _ _ _ _ _ (own_strs_at oG010) (Nat.le_refl _) hl0).mono ?_
    rintro e w11 ⟨rfl, hb11⟩
    have hz11 : w10.heap.size ≤ w11.heap.size := by have := hb11.size; first | exact this | (simp only [World.size_alloc] at this; omega)
    have kN11 := kN10.on hb11
    have kX11 := kX10.on hb11
    have oW011 := own_on oW010 hb11
    have ox011 := own_on ox010 hb11
    have oG011 := own_on oG010 hb11
    have hB11 : Below w.heap.size w w11 := by (repeat (first | with_reducible (first | assumption | exact Below.refl _ _ | refine bel_alloc ?_ _ | refine bel_drew ?_ | refine bel_drewN ?_ _ | refine bel_set ?_ (by first | omega | (simp; done) | (simp; omega)) _ | refine bel_trans ?_ (by assumption)) | assumption | refine bel_trans ?_ (by assumption)))
    clear kN10 kX10 oW010 ox010 oG010 q0_0 q0_1 q0_2 q0_3 q0_4 q0_5 l0 q1_0 q1_1 q1_2 q1_3 q1_4 q1_5 l1 hb11 hB10
    obtain ⟨q0_0, q0_1, q0_2, q0_3, q0_4, q0_5⟩ := kN11.cells6
    have l0 := kN11.lt
    obtain ⟨q1_0, q1_1, q1_2, q1_3, q1_4, q1_5⟩ := kX11.cells6
    have l1 := kX11.lt
    go_wp2_with fail
    refine (c_toKnown k Ak capk w.heap.size _ (HP.out.below (by (repeat (first | with_reducible (first | assumption | exact Below.refl _ _ | refine bel_alloc ?_ _ | refine bel_drew ?_ | refine bel_drewN ?_ _ | refine bel_set ?_ (by first | omega | (simp; done) | (simp; omega)) _ | refine bel_trans ?_ (by assumption)) | assumption | refine bel_trans ?_ (by assumption)))) (Nat.le_refl _)) (by first | omega | (simp only [World.size_alloc]; omega)) hn).mono ?_
    rintro e w12 ⟨gt0, rfl, hown12, hb12⟩
    have hz12 : w11.heap.size ≤ w12.heap.size := by have := hb12.size; first | exact this | (simp only [World.size_alloc] at this; omega)
    have kN12 := kN11.on hb12
    have kX12 := kX11.on hb12
    have oW012 := own_on oW011 hb12
    have ox012 := own_on ox011 hb12
    have oG012 := own_on oG011 hb12
    have hB12 : Below w.heap.size w w12 := by (repeat (first | with_reducible (first | assumption | exact Below.refl _ _ | refine bel_alloc ?_ _ | refine bel_drew ?_ | refine bel_drewN ?_ _ | refine bel_set ?_ (by first | omega | (simp; done) | (simp; omega)) _ | refine bel_trans ?_ (by assumption)) | assumption | refine bel_trans ?_ (by assumption)))
    clear kN11 kX11 oW011 ox011 oG011 q0_0 q0_1 q0_2 q0_3 q0_4 q0_5 l0 q1_0 q1_1 q1_2 q1_3 q1_4 q1_5 l1 hb12 hB11
    obtain ⟨q0_0, q0_1, q0_2, q0_3, q0_4, q0_5⟩ := kN12.cells6
    have l0 := kN12.lt
    obtain ⟨q1_0, q1_1, q1_2, q1_3, q1_4, q1_5⟩ := kX12.cells6
    have l1 := kX12.lt
    have ot012 := own_mono (B' := w11.heap.size) hown12 (by first | exact Nat.le_refl _ | (simp only [World.size_alloc]; omega) | omega)
    have uot0 := hid (own_upto ot012)
    clear hown12
    go_wp2_with fail
    refine (HI.out _ _ _ _ (own_ps_at ot012) (Nat.le_refl _)).mono ?_
    rintro e w13 ⟨AH0, cH0, rfl, hrH0, hb13⟩
    have hz13 : w12.heap.size ≤ w13.heap.size := by have := hb13.size; first | exact this | (simp only [World.size_alloc] at this; omega)
    have kN13 := kN12.on hb13
    have kX13 := kX12.on hb13
    have oW013 := own_on oW012 hb13
    have ox013 := own_on ox012 hb13
    have oG013 := own_on oG012 hb13
    have ot013 := own_on ot012 hb13
    have hB13 : Below w.heap.size w w13 := by (repeat (first | with_reducible (first | assumption | exact Below.refl _ _ | refine bel_alloc ?_ _ | refine bel_drew ?_ | refine bel_drewN ?_ _ | refine bel_set ?_ (by first | omega | (simp; done) | (simp; omega)) _ | refine bel_trans ?_ (by assumption)) | assumption | refine bel_trans ?_ (by assumption)))
    clear kN12 kX12 oW012 ox012 oG012 ot012 q0_0 q0_1 q0_2 q0_3 q0_4 q0_5 l0 q1_0 q1_1 q1_2 q1_3 q1_4 q1_5 l1 hb13 hB12
    obtain ⟨q0_0, q0_1, q0_2, q0_3, q0_4, q0_5⟩ := kN13.cells6
    have l0 := kN13.lt
    obtain ⟨q1_0, q1_1, q1_2, q1_3, q1_4, q1_5⟩ := kX13.cells6
    have l1 := kX13.lt
    have oH013 := own_mono (B' := w12.heap.size) hrH0 (by first | exact Nat.le_refl _ | (simp only [World.size_alloc]; omega) | omega)
    have uoH0 := hid (own_upto oH013)
    clear hrH0
    clear ot013
    go_wp2_with fail
    refine (c_eqStringS _ _ _ _ R _ _ _ (own_strs_at oH013) (own_strs_at oW013) (Nat.le_refl _) (Nat.le_refl _) hl0).mono ?_
    rintro e w14 ⟨rfl, hb14⟩
    have hz14 : w13.heap.size ≤ w14.heap.size := by have := hb14.size; first | exact this | (simp only [World.size_alloc] at this; omega)
    have kN14 := kN13.on hb14
    have kX14 := kX13.on hb14
    have oW014 := own_on oW013 hb14
    have ox014 := own_on ox013 hb14
    have oG014 := own_on oG013 hb14
    have oH014 := own_on oH013 hb14
    have hB14 : Below w.heap.size w w14 := by (repeat (first | with_reducible (first | assumption | exact Below.refl _ _ | refine bel_alloc ?_ _ | refine bel_drew ?_ | refine bel_drewN ?_ _ | refine bel_set ?_ (by first | omega | (simp; done) | (simp; omega)) _ | refine bel_trans ?_ (by assumption)) | assumption | refine bel_trans ?_ (by assumption)))
    clear kN13 kX13 oW013 ox013 oG013 oH013 q0_0 q0_1 q0_2 q0_3 q0_4 q0_5 l0 q1_0 q1_1 q1_2 q1_3 q1_4 q1_5 l1 hb14 hB13
    obtain ⟨q0_0, q0_1, q0_2, q0_3, q0_4, q0_5⟩ := kN14.cells6
    have l0 := kN14.lt
    obtain ⟨q1_0, q1_1, q1_2, q1_3, q1_4, q1_5⟩ := kX14.cells6
    have l1 := kX14.lt
    go_wp2_with fail
    refine (c_heldStringS _ _ _ _ _ (own_strs_at oG014) (Nat.le_refl _) hl0).mono ?_
    rintro e w15 ⟨rfl, hb15⟩
    have hz15 : w14.heap.size ≤ w15.heap.size := by have := hb15.size; first | exact this | (simp only [World.size_alloc] at this; omega)
    have kN15 := kN14.on hb15
    have kX15 := kX14.on hb15
    have oW015 := own_on oW014 hb15
    have ox015 := own_on ox014 hb15
    have oG015 := own_on oG014 hb15
    have oH015 := own_on oH014 hb15
    have hB15 : Below w.heap.size w w15 := by (repeat (first | with_reducible (first | assumption | exact Below.refl _ _ | refine bel_alloc ?_ _ | refine bel_drew ?_ | refine bel_drewN ?_ _ | refine bel_set ?_ (by first | omega | (simp; done) | (simp; omega)) _ | refine bel_trans ?_ (by assumption)) | assumption | refine bel_trans ?_ (by assumption)))
    clear kN14 kX14 oW014 ox014 oG014 oH014 q0_0 q0_1 q0_2 q0_3 q0_4 q0_5 l0 q1_0 q1_1 q1_2 q1_3 q1_4 q1_5 l1 hb15 hB14
    obtain ⟨q0_0, q0_1, q0_2, q0_3, q0_4, q0_5⟩ := kN15.cells6
    have l0 := kN15.lt
    obtain ⟨q1_0, q1_1, q1_2, q1_3, q1_4, q1_5⟩ := kX15.cells6
    have l1 := kX15.lt
    go_wp2
    go_ret
    exact ⟨rfl, by (repeat (first | with_reducible (first | assumption | exact Below.refl _ _ | refine bel_alloc ?_ _ | refine bel_drew ?_ | refine bel_drewN ?_ _ | refine bel_set ?_ (by first | omega | (simp; done) | (simp; omega)) _ | refine bel_trans ?_ (by assumption)) | assumption | refine bel_trans ?_ (by assumption)))⟩
  · have hb := hp.1
    have hcm := hp.2.1
    go_enter Try.func3, Try.ntmps3
    go_wp2_with fail
    refine (c_szKnown_big k Ak capk _ (by omega) (by omega)).mono ?_
    rintro e w1 ⟨rfl, hb1⟩
    have hc1 := bcell hb1
    have hz1_0 : w.heap.size < w1.heap.size := (by have := hb1.size; first | omega | (simp at this; omega))
    go_wp2
    go_ret
    exact ⟨rfl, by (repeat (first | with_reducible (first | assumption | exact Below.refl _ _ | refine bel_alloc ?_ _ | refine bel_drew ?_ | refine bel_drewN ?_ _ | refine bel_set ?_ (by first | omega | (simp; done) | (simp; omega)) _ | refine bel_trans ?_ (by assumption)) | assumption | refine bel_trans ?_ (by assumption)))⟩
end Go.Proofs.Ytbefkfliejpmjaa
