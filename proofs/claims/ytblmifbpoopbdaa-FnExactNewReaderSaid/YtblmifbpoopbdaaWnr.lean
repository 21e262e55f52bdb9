/- Walks of exact laws: each law's Go text returns true, and writes nothing that was there. -/
import Derived.Test.YtblmifbpoopbdaaBh
import Derived.Test.YtblmifbpoopbdaaNy
namespace Go.Proofs.Ytblmifbpoopbdaa
open Go.ChangeShapes Go.WideShapes Go.ChangeAt Go.RowKit Go.Joins
set_option linter.unusedVariables false

set_option maxHeartbeats 4000000 in
set_option maxRecDepth 100000 in
theorem walk_FnExactNewReader (k : Kn) (Ak : Option Addr) (capk : Nat) (w : World) (hp : PsAt w w.heap.size Ak capk k.ps) (hin : k.In) :
    Calls Try.prog 13 #[.agg #[.int .i64 k.o, .int .i64 k.l, .int .i64 k.m, .slice Ak k.ps.length capk, .int .i64 k.base, .int .i64 k.last]] w fun e w' => e = .returned (.bool true) ∧ Below w.heap.size w w' := by
  by_cases hn : k.ps.length ≤ 1048576
  · have hw := hin.wf hn
    obtain ⟨R, E, b, hl0, HS, HI⟩ : ∃ (R : Kn) (E : Int) (b : Bool), R.ps.length ≤ 1048576 ∧ (∀ (A : Option Addr) (cap L : Nat) (w : World), PsAt w L A cap k.ps → L ≤ w.heap.size → Calls Try.prog 63 #[.agg #[.int .i64 k.o, .int .i64 k.l, .int .i64 k.m, .slice A k.ps.length cap, .int .i64 k.base, .int .i64 k.last]] w (fun e w' => ∃ A0_ cap0_, e = .returned (.tuple #[.agg #[.int .i64 R.o, .int .i64 R.l, .int .i64 R.m, .slice A0_ R.ps.length cap0_, .int .i64 R.base, .int .i64 R.last, .string ByteArray.empty, .int .i64 0, .int .i64 0, .int .i64 E], .bool b]) ∧ w'.ownsRow w.heap.size 182 2 (.slice A0_ R.ps.length cap0_) R.ps.length (prs R.ps) ∧ Below w.heap.size w w')) ∧ (∀ (A : Option Addr) (cap L : Nat) (w : World), PsAt w L A cap k.ps → L ≤ w.heap.size → Calls Try.prog 64 #[.agg #[.int .i64 k.o, .int .i64 k.l, .int .i64 k.m, .slice A k.ps.length cap, .int .i64 k.base, .int .i64 k.last]] w (fun e w' => ∃ A0_ cap0_, e = .returned (.tuple #[.agg #[.int .i64 R.o, .int .i64 R.l, .int .i64 R.m, .slice A0_ R.ps.length cap0_, .int .i64 R.base, .int .i64 R.last, .string ByteArray.empty, .int .i64 0, .int .i64 0, .int .i64 E], .bool b]) ∧ w'.ownsRow w.heap.size 182 2 (.slice A0_ R.ps.length cap0_) R.ps.length (prs R.ps) ∧ Below w.heap.size w w')) := by
      by_cases hk : k.Ok
      · exact ⟨k, 1, true, by have := hk.len; omega, fun A cap L w h hL => c_sNewReader_yes k A cap L w h hL hk hw, fun A cap L w h hL => c_NewReader_yes k A cap L w h hL hk hw⟩
      · exact ⟨⟨0, 0, 0, [], 0, 0⟩, 0, false, by simp, fun A cap L w h hL => (c_sNewReader_no k A cap L w h hL hk hw).mono fun e w' ⟨q1, q2⟩ => ⟨none, 0, q1, own_ps_nil _ _ _, q2⟩, fun A cap L w h hL => (c_NewReader_no k A cap L w h hL hk hw).mono fun e w' ⟨q1, q2⟩ => ⟨none, 0, q1, own_ps_nil _ _ _, q2⟩⟩
    have HP := hid hp
    have HS := hid HS
    have HI := hid HI
    clear hp hin hw
    go_enter Try.func13, Try.ntmps13
    go_wp2_with fail
    refine (c_szKnown k Ak capk _ hn).mono ?_
    rintro e w1 ⟨rfl, hb1⟩
    have hz1 : w.heap.size ≤ w1.heap.size := by have := hb1.size; first | exact this | (simp only [World.size_alloc] at this; omega)
    have kN1 := (Blk.new _ 45 #[.int .i64 k.o, .int .i64 k.l, .int .i64 k.m, .slice Ak k.ps.length capk, .int .i64 k.base, .int .i64 k.last]).on hb1
    have hB1 : Below w.heap.size w w1 := by (repeat (first | with_reducible (first | assumption | exact Below.refl _ _ | refine bel_alloc ?_ _ | refine bel_drew ?_ | refine bel_drewN ?_ _ | refine bel_set ?_ (by first | omega | (simp; done) | (simp; omega)) _ | refine bel_trans ?_ (by assumption)) | assumption | refine bel_trans ?_ (by assumption)))
    clear hb1
    obtain ⟨q0_0, q0_1, q0_2, q0_3, q0_4, q0_5⟩ := kN1.cells6
    have l0 := kN1.lt
    go_wp2_with fail
    refine (c_toKnown k Ak capk w.heap.size _ (HP.out.below (by (repeat (first | with_reducible (first | assumption | exact Below.refl _ _ | refine bel_alloc ?_ _ | refine bel_drew ?_ | refine bel_drewN ?_ _ | refine bel_set ?_ (by first | omega | (simp; done) | (simp; omega)) _ | refine bel_trans ?_ (by assumption)) | assumption | refine bel_trans ?_ (by assumption)))) (Nat.le_refl _)) (by first | omega | (simp only [World.size_alloc]; omega)) hn).mono ?_
    rintro e w2 ⟨gs0, rfl, hown2, hb2⟩
    have hz2 : w1.heap.size ≤ w2.heap.size := by have := hb2.size; first | exact this | (simp only [World.size_alloc] at this; omega)
    have kN2 := kN1.on hb2
    have hB2 : Below w.heap.size w w2 := by (repeat (first | with_reducible (first | assumption | exact Below.refl _ _ | refine bel_alloc ?_ _ | refine bel_drew ?_ | refine bel_drewN ?_ _ | refine bel_set ?_ (by first | omega | (simp; done) | (simp; omega)) _ | refine bel_trans ?_ (by assumption)) | assumption | refine bel_trans ?_ (by assumption)))
    clear kN1 q0_0 q0_1 q0_2 q0_3 q0_4 q0_5 l0 hb2 hB1
    obtain ⟨q0_0, q0_1, q0_2, q0_3, q0_4, q0_5⟩ := kN2.cells6
    have l0 := kN2.lt
    have os02 := own_mono (B' := w1.heap.size) hown2 (by first | exact Nat.le_refl _ | (simp only [World.size_alloc]; omega) | omega)
    have uos0 := hid (own_upto os02)
    clear hown2
    go_wp2_with fail
    refine (HS.out _ _ _ _ (own_ps_at os02) (Nat.le_refl _)).mono ?_
    rintro e w3 ⟨AW0, cW0, rfl, hrW0, hb3⟩
    have hz3 : w2.heap.size ≤ w3.heap.size := by have := hb3.size; first | exact this | (simp only [World.size_alloc] at this; omega)
    have kN3 := kN2.on hb3
    have os03 := own_on os02 hb3
    have hB3 : Below w.heap.size w w3 := by (repeat (first | with_reducible (first | assumption | exact Below.refl _ _ | refine bel_alloc ?_ _ | refine bel_drew ?_ | refine bel_drewN ?_ _ | refine bel_set ?_ (by first | omega | (simp; done) | (simp; omega)) _ | refine bel_trans ?_ (by assumption)) | assumption | refine bel_trans ?_ (by assumption)))
    clear kN2 os02 q0_0 q0_1 q0_2 q0_3 q0_4 q0_5 l0 hb3 hB2
    obtain ⟨q0_0, q0_1, q0_2, q0_3, q0_4, q0_5⟩ := kN3.cells6
    have l0 := kN3.lt
    have oW03 := own_mono (B' := w2.heap.size) hrW0 (by first | exact Nat.le_refl _ | (simp only [World.size_alloc]; omega) | omega)
    have uoW0 := hid (own_upto oW03)
    clear hrW0
    clear os03
    go_wp2_with fail
    refine (c_toKnown k Ak capk w.heap.size _ (HP.out.below (by (repeat (first | with_reducible (first | assumption | exact Below.refl _ _ | refine bel_alloc ?_ _ | refine bel_drew ?_ | refine bel_drewN ?_ _ | refine bel_set ?_ (by first | omega | (simp; done) | (simp; omega)) _ | refine bel_trans ?_ (by assumption)) | assumption | refine bel_trans ?_ (by assumption)))) (Nat.le_refl _)) (by first | omega | (simp only [World.size_alloc]; omega)) hn).mono ?_
    rintro e w4 ⟨gx0, rfl, hown4, hb4⟩
    have hz4 : w3.heap.size ≤ w4.heap.size := by have := hb4.size; first | exact this | (simp only [World.size_alloc] at this; omega)
    have kN4 := (kN3.alloc _).on hb4
    have kW04 := (Blk.new _ 71 #[.int .i64 R.o, .int .i64 R.l, .int .i64 R.m, .slice AW0 R.ps.length cW0, .int .i64 R.base, .int .i64 R.last, .string ByteArray.empty, .int .i64 0, .int .i64 0, .int .i64 E]).on hb4
    have oW04 := own_on (oW03.alloc _) hb4
    have hB4 : Below w.heap.size w w4 := by (repeat (first | with_reducible (first | assumption | exact Below.refl _ _ | refine bel_alloc ?_ _ | refine bel_drew ?_ | refine bel_drewN ?_ _ | refine bel_set ?_ (by first | omega | (simp; done) | (simp; omega)) _ | refine bel_trans ?_ (by assumption)) | assumption | refine bel_trans ?_ (by assumption)))
    clear kN3 oW03 q0_0 q0_1 q0_2 q0_3 q0_4 q0_5 l0 hb4 hB3
    obtain ⟨q0_0, q0_1, q0_2, q0_3, q0_4, q0_5⟩ := kN4.cells6
    have l0 := kN4.lt
    obtain ⟨q1_0, q1_1, q1_2, q1_3, q1_4, q1_5, q1_6, q1_7, q1_8, q1_9⟩ := kW04.cells10
    have l1 := kW04.lt
    have ox04 := own_mono (B' := w3.heap.size) hown4 (by first | exact Nat.le_refl _ | (simp only [World.size_alloc]; omega) | omega)
    have uox0 := hid (own_upto ox04)
    clear hown4
    go_wp2_with fail
    refine (HI.out _ _ _ _ (own_ps_at (ox04.alloc _)) (Nat.le_refl _)).mono ?_
    rintro e w5 ⟨AG0, cG0, rfl, hrG0, hb5⟩
    have hz5 : w4.heap.size ≤ w5.heap.size := by have := hb5.size; first | exact this | (simp only [World.size_alloc] at this; omega)
    have kN5 := (kN4.alloc _).on hb5
    have kW05 := (kW04.alloc _).on hb5
    have kX5 := (Blk.new _ 27 #[.int .i64 k.o, .int .i64 k.l, .int .i64 k.m, .slice (some ⟨gx0, 0, none⟩) k.ps.length k.ps.length, .int .i64 k.base, .int .i64 k.last]).on hb5
    have oW05 := own_on (oW04.alloc _) hb5
    have ox05 := own_on (ox04.alloc _) hb5
    have hB5 : Below w.heap.size w w5 := by (repeat (first | with_reducible (first | assumption | exact Below.refl _ _ | refine bel_alloc ?_ _ | refine bel_drew ?_ | refine bel_drewN ?_ _ | refine bel_set ?_ (by first | omega | (simp; done) | (simp; omega)) _ | refine bel_trans ?_ (by assumption)) | assumption | refine bel_trans ?_ (by assumption)))
    clear kN4 kW04 oW04 ox04 q0_0 q0_1 q0_2 q0_3 q0_4 q0_5 l0 q1_0 q1_1 q1_2 q1_3 q1_4 q1_5 q1_6 q1_7 q1_8 q1_9 l1 hb5 hB4
    obtain ⟨q0_0, q0_1, q0_2, q0_3, q0_4, q0_5⟩ := kN5.cells6
    have l0 := kN5.lt
    obtain ⟨q1_0, q1_1, q1_2, q1_3, q1_4, q1_5, q1_6, q1_7, q1_8, q1_9⟩ := kW05.cells10
    have l1 := kW05.lt
    obtain ⟨q2_0, q2_1, q2_2, q2_3, q2_4, q2_5⟩ := kX5.cells6
    have l2 := kX5.lt
    have oG05 := own_mono (B' := w4.heap.size) hrG0 (by first | exact Nat.le_refl _ | (simp only [World.size_alloc]; omega) | omega)
    have uoG0 := hid (own_upto oG05)
    clear hrG0
    go_wp2_with fail
    refine (c_eqReader R _ _ _ _ _ _ _ (own_ps_at (oG05.alloc _)) (own_ps_at (oW05.alloc _)) (Nat.le_refl _) (Nat.le_refl _) hl0).mono ?_
    rintro e w6 ⟨rfl, hb6⟩
    have hz6 : w5.heap.size ≤ w6.heap.size := by have := hb6.size; first | exact this | (simp only [World.size_alloc] at this; omega)
    have kN6 := (kN5.alloc _).on hb6
    have kW06 := (kW05.alloc _).on hb6
    have kX6 := (kX5.alloc _).on hb6
    have kG06 := (Blk.new _ 71 #[.int .i64 R.o, .int .i64 R.l, .int .i64 R.m, .slice AG0 R.ps.length cG0, .int .i64 R.base, .int .i64 R.last, .string ByteArray.empty, .int .i64 0, .int .i64 0, .int .i64 E]).on hb6
    have oW06 := own_on (oW05.alloc _) hb6
    have ox06 := own_on (ox05.alloc _) hb6
    have oG06 := own_on (oG05.alloc _) hb6
    have hB6 : Below w.heap.size w w6 := by (repeat (first | with_reducible (first | assumption | exact Below.refl _ _ | refine bel_alloc ?_ _ | refine bel_drew ?_ | refine bel_drewN ?_ _ | refine bel_set ?_ (by first | omega | (simp; done) | (simp; omega)) _ | refine bel_trans ?_ (by assumption)) | assumption | refine bel_trans ?_ (by assumption)))
    clear kN5 kW05 kX5 oW05 ox05 oG05 q0_0 q0_1 q0_2 q0_3 q0_4 q0_5 l0 q1_0 q1_1 q1_2 q1_3 q1_4 q1_5 q1_6 q1_7 q1_8 q1_9 l1 q2_0 q2_1 q2_2 q2_3 q2_4 q2_5 l2 hb6 hB5
    obtain ⟨q0_0, q0_1, q0_2, q0_3, q0_4, q0_5⟩ := kN6.cells6
    have l0 := kN6.lt
    obtain ⟨q1_0, q1_1, q1_2, q1_3, q1_4, q1_5, q1_6, q1_7, q1_8, q1_9⟩ := kW06.cells10
    have l1 := kW06.lt
    obtain ⟨q2_0, q2_1, q2_2, q2_3, q2_4, q2_5⟩ := kX6.cells6
    have l2 := kX6.lt
    obtain ⟨q3_0, q3_1, q3_2, q3_3, q3_4, q3_5, q3_6, q3_7, q3_8, q3_9⟩ := kG06.cells10
    have l3 := kG06.lt
    go_wp2_with fail
    have hS := held12 kN6.cells6 kX6.cells6 (Below.refl w6.heap.size w6)
    refine wp_region_noPanic ?_
    refine wp_region_held_drew (S := (fun v => v.cell? ⟨w.heap.size, 0, none⟩ = some (.int .i64 k.o) ∧ v.cell? ⟨w.heap.size, 1, none⟩ = some (.int .i64 k.l) ∧ v.cell? ⟨w.heap.size, 2, none⟩ = some (.int .i64 k.m) ∧ v.cell? ⟨w.heap.size, 3, none⟩ = some (.slice Ak k.ps.length capk) ∧ v.cell? ⟨w.heap.size, 4, none⟩ = some (.int .i64 k.base) ∧ v.cell? ⟨w.heap.size, 5, none⟩ = some (.int .i64 k.last) ∧ v.cell? ⟨w4.heap.size, 0, none⟩ = some (.int .i64 k.o) ∧ v.cell? ⟨w4.heap.size, 1, none⟩ = some (.int .i64 k.l) ∧ v.cell? ⟨w4.heap.size, 2, none⟩ = some (.int .i64 k.m) ∧ v.cell? ⟨w4.heap.size, 3, none⟩ = some (.slice (some ⟨gx0, 0, none⟩) k.ps.length k.ps.length) ∧ v.cell? ⟨w4.heap.size, 4, none⟩ = some (.int .i64 k.base) ∧ v.cell? ⟨w4.heap.size, 5, none⟩ = some (.int .i64 k.last) ∧ Below w6.heap.size w6 v)) (by kernel_rfl) (s12_drew hS) (fun hHeld => ?_)
    refine tk 0 ?_
    refine tk 1 ?_
    refine wpAnyH_ready (rs := [2]) (by kernel_rfl) (by simp) ?_
    refine AllReadyH.cons (o := ?or1_2) ?ir1_2 (fun K hK => ?sr1_2) AllReadyH.nil
    case ir1_2 => (simp only [List.getElem?_toArray, List.getElem?_cons_succ, List.getElem?_cons_zero]; rfl)
    (first | (go_simp; (first | (go_at_call 34; refine (c_toKnown k Ak capk w.heap.size _ (HP.out.below (bel_trans hB6 hHeld.2.2.2.2.2.2.2.2.2.2.2.2) (Nat.le_refl _)) (bel_trans hB6 hHeld.2.2.2.2.2.2.2.2.2.2.2.2).size hn).mono ?_; rintro e wt7 ⟨gt7, rfl, hownt7, hbt7⟩) | (go_at_call 36; refine (c_eqKnown k _ _ _ _ w6.heap.size _ _ ((own_ps_at ox06).below hHeld.2.2.2.2.2.2.2.2.2.2.2.2 (Nat.le_refl _)) (own_ps_at hownt7) (hHeld.2.2.2.2.2.2.2.2.2.2.2.2).size (Nat.le_refl _) hn).mono ?_; rintro e w7 ⟨rfl, hbq7⟩) | skip)))
    refine hK.out _ _ ?kr1_2 (fun hHeld => ?_)
    case kr1_2 => (try dsimp only); (first | with_reducible assumption | exact s12_bel (by assumption) (by assumption) | assumption | exact s12_alloc (by assumption) _)
    clear hK K
    try simp only [Act.put, List.setIfInBounds_toArray, List.set_cons_zero, List.set_cons_succ]
    refine wpAnyH_ready (rs := [3]) (by kernel_rfl) (by simp) ?_
    refine AllReadyH.cons (o := ?or1_3) ?ir1_3 (fun K hK => ?sr1_3) AllReadyH.nil
    case ir1_3 => (simp only [List.getElem?_toArray, List.getElem?_cons_succ, List.getElem?_cons_zero]; rfl)
    (first | (go_simp; (first | (go_at_call 34; refine (c_toKnown k Ak capk w.heap.size _ (HP.out.below (bel_trans hB6 hHeld.2.2.2.2.2.2.2.2.2.2.2.2) (Nat.le_refl _)) (bel_trans hB6 hHeld.2.2.2.2.2.2.2.2.2.2.2.2).size hn).mono ?_; rintro e wt7 ⟨gt7, rfl, hownt7, hbt7⟩) | (go_at_call 36; refine (c_eqKnown k _ _ _ _ w6.heap.size _ _ ((own_ps_at ox06).below hHeld.2.2.2.2.2.2.2.2.2.2.2.2 (Nat.le_refl _)) (own_ps_at hownt7) (hHeld.2.2.2.2.2.2.2.2.2.2.2.2).size (Nat.le_refl _) hn).mono ?_; rintro e w7 ⟨rfl, hbq7⟩) | skip)))
    refine hK.out _ _ ?kr1_3 (fun hHeld => ?_)
    case kr1_3 => (try dsimp only); (first | with_reducible assumption | exact s12_bel (by assumption) (by assumption) | assumption | exact s12_alloc (by assumption) _)
    clear hK K
    try simp only [Act.put, List.setIfInBounds_toArray, List.set_cons_zero, List.set_cons_succ]
    refine tk 4 ?_
    refine wpAnyH_done (by kernel_rfl) ?_ _
    refine NoPanic.normal ?_
    have hb7 := hHeld.2.2.2.2.2.2.2.2.2.2.2.2
    clear hHeld hS hbq7 hbt7 hownt7
    have hz7 : w6.heap.size ≤ w7.heap.size := by have := hb7.size; first | exact this | (simp only [World.size_alloc] at this; omega)
    have kN7 := kN6.on hb7
    have kW07 := kW06.on hb7
    have kX7 := kX6.on hb7
    have kG07 := kG06.on hb7
    have oW07 := own_on oW06 hb7
    have ox07 := own_on ox06 hb7
    have oG07 := own_on oG06 hb7
    have hB7 : Below w.heap.size w w7 := by (repeat (first | with_reducible (first | assumption | exact Below.refl _ _ | refine bel_alloc ?_ _ | refine bel_drew ?_ | refine bel_drewN ?_ _ | refine bel_set ?_ (by first | omega | (simp; done) | (simp; omega)) _ | refine bel_trans ?_ (by assumption)) | assumption | refine bel_trans ?_ (by assumption)))
    clear kN6 kW06 kX6 kG06 oW06 ox06 oG06 q0_0 q0_1 q0_2 q0_3 q0_4 q0_5 l0 q1_0 q1_1 q1_2 q1_3 q1_4 q1_5 q1_6 q1_7 q1_8 q1_9 l1 q2_0 q2_1 q2_2 q2_3 q2_4 q2_5 l2 q3_0 q3_1 q3_2 q3_3 q3_4 q3_5 q3_6 q3_7 q3_8 q3_9 l3 hb7 hB6
    obtain ⟨q0_0, q0_1, q0_2, q0_3, q0_4, q0_5⟩ := kN7.cells6
    have l0 := kN7.lt
    obtain ⟨q1_0, q1_1, q1_2, q1_3, q1_4, q1_5, q1_6, q1_7, q1_8, q1_9⟩ := kW07.cells10
    have l1 := kW07.lt
    obtain ⟨q2_0, q2_1, q2_2, q2_3, q2_4, q2_5⟩ := kX7.cells6
    have l2 := kX7.lt
    obtain ⟨q3_0, q3_1, q3_2, q3_3, q3_4, q3_5, q3_6, q3_7, q3_8, q3_9⟩ := kG07.cells10
    have l3 := kG07.lt
    go_wp2_with fail
    refine (c_markKnown_any k _ _ _ _ (ox07) (by first | omega | (simp only [World.size_alloc]; omega)) hn).mono ?_
    rintro e w8 ⟨rfl, hown8, hg8⟩
    have hz8 : w7.heap.size ≤ w8.heap.size := by have := hg8.size; first | exact this | (simp only [World.size_alloc] at this; omega)
    have kN8 := box_apart kN7 ox07 (by decide) hg8
    have kW08 := box_apart kW07 ox07 (by decide) hg8
    have kX8 := box_apart kX7 ox07 (by decide) hg8
    have kG08 := box_apart kG07 ox07 (by decide) hg8
    have oW08 := oW07.kept hg8 (sep_old uoW0.out ox07 (by omega))
    have ox08 := hown8
    have oG08 := oG07.kept hg8 (sep_turn (sep_old uox0.out oG07 (by omega)))
    have hB8 : Below w.heap.size w w8 := bel_grow (by (repeat (first | with_reducible (first | assumption | exact Below.refl _ _ | refine bel_alloc ?_ _ | refine bel_drew ?_ | refine bel_drewN ?_ _ | refine bel_set ?_ (by first | omega | (simp; done) | (simp; omega)) _ | refine bel_trans ?_ (by assumption)) | assumption | refine bel_trans ?_ (by assumption)))) ox07 (by omega) hg8
    clear kN7 kW07 kX7 kG07 oW07 ox07 oG07 q0_0 q0_1 q0_2 q0_3 q0_4 q0_5 l0 q1_0 q1_1 q1_2 q1_3 q1_4 q1_5 q1_6 q1_7 q1_8 q1_9 l1 q2_0 q2_1 q2_2 q2_3 q2_4 q2_5 l2 q3_0 q3_1 q3_2 q3_3 q3_4 q3_5 q3_6 q3_7 q3_8 q3_9 l3 hown8 hg8 hB7
    obtain ⟨q0_0, q0_1, q0_2, q0_3, q0_4, q0_5⟩ := kN8.cells6
    have l0 := kN8.lt
    obtain ⟨q1_0, q1_1, q1_2, q1_3, q1_4, q1_5, q1_6, q1_7, q1_8, q1_9⟩ := kW08.cells10
    have l1 := kW08.lt
    obtain ⟨q2_0, q2_1, q2_2, q2_3, q2_4, q2_5⟩ := kX8.cells6
    have l2 := kX8.lt
    obtain ⟨q3_0, q3_1, q3_2, q3_3, q3_4, q3_5, q3_6, q3_7, q3_8, q3_9⟩ := kG08.cells10
    have l3 := kG08.lt
    go_wp2_with fail
    refine (c_eqReader R _ _ _ _ _ _ _ (own_ps_at oG08) (own_ps_at oW08) (Nat.le_refl _) (Nat.le_refl _) hl0).mono ?_
    rintro e w9 ⟨rfl, hb9⟩
    have hz9 : w8.heap.size ≤ w9.heap.size := by have := hb9.size; first | exact this | (simp only [World.size_alloc] at this; omega)
    have kN9 := kN8.on hb9
    have kW09 := kW08.on hb9
    have kX9 := kX8.on hb9
    have kG09 := kG08.on hb9
    have oW09 := own_on oW08 hb9
    have ox09 := own_on ox08 hb9
    have oG09 := own_on oG08 hb9
    have hB9 : Below w.heap.size w w9 := by (repeat (first | with_reducible (first | assumption | exact Below.refl _ _ | refine bel_alloc ?_ _ | refine bel_drew ?_ | refine bel_drewN ?_ _ | refine bel_set ?_ (by first | omega | (simp; done) | (simp; omega)) _ | refine bel_trans ?_ (by assumption)) | assumption | refine bel_trans ?_ (by assumption)))
    clear kN8 kW08 kX8 kG08 oW08 ox08 oG08 q0_0 q0_1 q0_2 q0_3 q0_4 q0_5 l0 q1_0 q1_1 q1_2 q1_3 q1_4 q1_5 q1_6 q1_7 q1_8 q1_9 l1 q2_0 q2_1 q2_2 q2_3 q2_4 q2_5 l2 q3_0 q3_1 q3_2 q3_3 q3_4 q3_5 q3_6 q3_7 q3_8 q3_9 l3 hb9 hB8
    obtain ⟨q0_0, q0_1, q0_2, q0_3, q0_4, q0_5⟩ := kN9.cells6
    have l0 := kN9.lt
    obtain ⟨q1_0, q1_1, q1_2, q1_3, q1_4, q1_5, q1_6, q1_7, q1_8, q1_9⟩ := kW09.cells10
    have l1 := kW09.lt
    obtain ⟨q2_0, q2_1, q2_2, q2_3, q2_4, q2_5⟩ := kX9.cells6
    have l2 := kX9.lt
    obtain ⟨q3_0, q3_1, q3_2, q3_3, q3_4, q3_5, q3_6, q3_7, q3_8, q3_9⟩ := kG09.cells10
    have l3 := kG09.lt
    go_wp2_with fail
    refine (c_markReader_any R _ _ _ _ (oG09) (by first | omega | (simp only [World.size_alloc]; omega)) hl0).mono ?_
    rintro e w10 ⟨rfl, hown10, hg10⟩
    have hz10 : w9.heap.size ≤ w10.heap.size := by have := hg10.size; first | exact this | (simp only [World.size_alloc] at this; omega)
    have kN10 := box_apart kN9 oG09 (by decide) hg10
    have kW010 := box_apart kW09 oG09 (by decide) hg10
    have kX10 := box_apart kX9 oG09 (by decide) hg10
    have kG010 := box_apart kG09 oG09 (by decide) hg10
    have oW010 := oW09.kept hg10 (sep_old uoW0.out oG09 (by omega))
    have ox010 := ox09.kept hg10 (sep_old uox0.out oG09 (by omega))
    have oG010 := hown10
    have hB10 : Below w.heap.size w w10 := bel_grow (by (repeat (first | with_reducible (first | assumption | exact Below.refl _ _ | refine bel_alloc ?_ _ | refine bel_drew ?_ | refine bel_drewN ?_ _ | refine bel_set ?_ (by first | omega | (simp; done) | (simp; omega)) _ | refine bel_trans ?_ (by assumption)) | assumption | refine bel_trans ?_ (by assumption)))) oG09 (by omega) hg10
    clear kN9 kW09 kX9 kG09 oW09 ox09 oG09 q0_0 q0_1 q0_2 q0_3 q0_4 q0_5 l0 q1_0 q1_1 q1_2 q1_3 q1_4 q1_5 q1_6 q1_7 q1_8 q1_9 l1 q2_0 q2_1 q2_2 q2_3 q2_4 q2_5 l2 q3_0 q3_1 q3_2 q3_3 q3_4 q3_5 q3_6 q3_7 q3_8 q3_9 l3 hown10 hg10 hB9
    obtain ⟨q0_0, q0_1, q0_2, q0_3, q0_4, q0_5⟩ := kN10.cells6
    have l0 := kN10.lt
    obtain ⟨q1_0, q1_1, q1_2, q1_3, q1_4, q1_5, q1_6, q1_7, q1_8, q1_9⟩ := kW010.cells10
    have l1 := kW010.lt
    obtain ⟨q2_0, q2_1, q2_2, q2_3, q2_4, q2_5⟩ := kX10.cells6
    have l2 := kX10.lt
    obtain ⟨q3_0, q3_1, q3_2, q3_3, q3_4, q3_5, q3_6, q3_7, q3_8, q3_9⟩ := kG010.cells10
    have l3 := kG010.lt
    go_wp2_with fail
    refine (c_heldReader _ _ _ _ _ _ _ _ _ _ (own_ps_at oG010) (Nat.le_refl _) hl0).mono ?_
    rintro e w11 ⟨rfl, hb11⟩
    have hz11 : w10.heap.size ≤ w11.heap.size := by have := hb11.size; first | exact this | (simp only [World.size_alloc] at this; omega)
    have kN11 := kN10.on hb11
    have kW011 := kW010.on hb11
    have kX11 := kX10.on hb11
    have kG011 := kG010.on hb11
    have oW011 := own_on oW010 hb11
    have ox011 := own_on ox010 hb11
    have oG011 := own_on oG010 hb11
    have hB11 : Below w.heap.size w w11 := by (repeat (first | with_reducible (first | assumption | exact Below.refl _ _ | refine bel_alloc ?_ _ | refine bel_drew ?_ | refine bel_drewN ?_ _ | refine bel_set ?_ (by first | omega | (simp; done) | (simp; omega)) _ | refine bel_trans ?_ (by assumption)) | assumption | refine bel_trans ?_ (by assumption)))
    clear kN10 kW010 kX10 kG010 oW010 ox010 oG010 q0_0 q0_1 q0_2 q0_3 q0_4 q0_5 l0 q1_0 q1_1 q1_2 q1_3 q1_4 q1_5 q1_6 q1_7 q1_8 q1_9 l1 q2_0 q2_1 q2_2 q2_3 q2_4 q2_5 l2 q3_0 q3_1 q3_2 q3_3 q3_4 q3_5 q3_6 q3_7 q3_8 q3_9 l3 hb11 hB10
    obtain ⟨q0_0, q0_1, q0_2, q0_3, q0_4, q0_5⟩ := kN11.cells6
    have l0 := kN11.lt
    obtain ⟨q1_0, q1_1, q1_2, q1_3, q1_4, q1_5, q1_6, q1_7, q1_8, q1_9⟩ := kW011.cells10
    have l1 := kW011.lt
    obtain ⟨q2_0, q2_1, q2_2, q2_3, q2_4, q2_5⟩ := kX11.cells6
    have l2 := kX11.lt
    obtain ⟨q3_0, q3_1, q3_2, q3_3, q3_4, q3_5, q3_6, q3_7, q3_8, q3_9⟩ := kG011.cells10
    have l3 := kG011.lt
    go_wp2_with fail
    refine (c_toKnown k Ak capk w.heap.size _ (HP.out.below (by (repeat (first | with_reducible (first | assumption | exact Below.refl _ _ | refine bel_alloc ?_ _ | refine bel_drew ?_ | refine bel_drewN ?_ _ | refine bel_set ?_ (by first | omega | (simp; done) | (simp; omega)) _ | refine bel_trans ?_ (by assumption)) | assumption | refine bel_trans ?_ (by assumption)))) (Nat.le_refl _)) (by first | omega | (simp only [World.size_alloc]; omega)) hn).mono ?_
    rintro e w12 ⟨gt0, rfl, hown12, hb12⟩
    have hz12 : w11.heap.size ≤ w12.heap.size := by have := hb12.size; first | exact this | (simp only [World.size_alloc] at this; omega)
    have kN12 := kN11.on hb12
    have kW012 := kW011.on hb12
    have kX12 := kX11.on hb12
    have kG012 := kG011.on hb12
    have oW012 := own_on oW011 hb12
    have ox012 := own_on ox011 hb12
    have oG012 := own_on oG011 hb12
    have hB12 : Below w.heap.size w w12 := by (repeat (first | with_reducible (first | assumption | exact Below.refl _ _ | refine bel_alloc ?_ _ | refine bel_drew ?_ | refine bel_drewN ?_ _ | refine bel_set ?_ (by first | omega | (simp; done) | (simp; omega)) _ | refine bel_trans ?_ (by assumption)) | assumption | refine bel_trans ?_ (by assumption)))
    clear kN11 kW011 kX11 kG011 oW011 ox011 oG011 q0_0 q0_1 q0_2 q0_3 q0_4 q0_5 l0 q1_0 q1_1 q1_2 q1_3 q1_4 q1_5 q1_6 q1_7 q1_8 q1_9 l1 q2_0 q2_1 q2_2 q2_3 q2_4 q2_5 l2 q3_0 q3_1 q3_2 q3_3 q3_4 q3_5 q3_6 q3_7 q3_8 q3_9 l3 hb12 hB11
    obtain ⟨q0_0, q0_1, q0_2, q0_3, q0_4, q0_5⟩ := kN12.cells6
    have l0 := kN12.lt
    obtain ⟨q1_0, q1_1, q1_2, q1_3, q1_4, q1_5, q1_6, q1_7, q1_8, q1_9⟩ := kW012.cells10
    have l1 := kW012.lt
    obtain ⟨q2_0, q2_1, q2_2, q2_3, q2_4, q2_5⟩ := kX12.cells6
    have l2 := kX12.lt
    obtain ⟨q3_0, q3_1, q3_2, q3_3, q3_4, q3_5, q3_6, q3_7, q3_8, q3_9⟩ := kG012.cells10
    have l3 := kG012.lt
    have ot012 := own_mono (B' := w11.heap.size) hown12 (by first | exact Nat.le_refl _ | (simp only [World.size_alloc]; omega) | omega)
    have uot0 := hid (own_upto ot012)
    clear hown12
    go_wp2_with fail
    refine (HI.out _ _ _ _ (own_ps_at ot012) (Nat.le_refl _)).mono ?_
    rintro e w13 ⟨AH0, cH0, rfl, hrH0, hb13⟩
    have hz13 : w12.heap.size ≤ w13.heap.size := by have := hb13.size; first | exact this | (simp only [World.size_alloc] at this; omega)
    have kN13 := kN12.on hb13
    have kW013 := kW012.on hb13
    have kX13 := kX12.on hb13
    have kG013 := kG012.on hb13
    have oW013 := own_on oW012 hb13
    have ox013 := own_on ox012 hb13
    have oG013 := own_on oG012 hb13
    have ot013 := own_on ot012 hb13
    have hB13 : Below w.heap.size w w13 := by (repeat (first | with_reducible (first | assumption | exact Below.refl _ _ | refine bel_alloc ?_ _ | refine bel_drew ?_ | refine bel_drewN ?_ _ | refine bel_set ?_ (by first | omega | (simp; done) | (simp; omega)) _ | refine bel_trans ?_ (by assumption)) | assumption | refine bel_trans ?_ (by assumption)))
    clear kN12 kW012 kX12 kG012 oW012 ox012 oG012 ot012 q0_0 q0_1 q0_2 q0_3 q0_4 q0_5 l0 q1_0 q1_1 q1_2 q1_3 q1_4 q1_5 q1_6 q1_7 q1_8 q1_9 l1 q2_0 q2_1 q2_2 q2_3 q2_4 q2_5 l2 q3_0 q3_1 q3_2 q3_3 q3_4 q3_5 q3_6 q3_7 q3_8 q3_9 l3 hb13 hB12
    obtain ⟨q0_0, q0_1, q0_2, q0_3, q0_4, q0_5⟩ := kN13.cells6
    have l0 := kN13.lt
    obtain ⟨q1_0, q1_1, q1_2, q1_3, q1_4, q1_5, q1_6, q1_7, q1_8, q1_9⟩ := kW013.cells10
    have l1 := kW013.lt
    obtain ⟨q2_0, q2_1, q2_2, q2_3, q2_4, q2_5⟩ := kX13.cells6
    have l2 := kX13.lt
    obtain ⟨q3_0, q3_1, q3_2, q3_3, q3_4, q3_5, q3_6, q3_7, q3_8, q3_9⟩ := kG013.cells10
    have l3 := kG013.lt
    have oH013 := own_mono (B' := w12.heap.size) hrH0 (by first | exact Nat.le_refl _ | (simp only [World.size_alloc]; omega) | omega)
    have uoH0 := hid (own_upto oH013)
    clear hrH0
    clear ot013
    go_wp2_with fail
    refine (c_eqReader R _ _ _ _ _ _ _ (own_ps_at (oH013.alloc _)) (own_ps_at (oW013.alloc _)) (Nat.le_refl _) (Nat.le_refl _) hl0).mono ?_
    rintro e w14 ⟨rfl, hb14⟩
    have hz14 : w13.heap.size ≤ w14.heap.size := by have := hb14.size; first | exact this | (simp only [World.size_alloc] at this; omega)
    have kN14 := (kN13.alloc _).on hb14
    have kW014 := (kW013.alloc _).on hb14
    have kX14 := (kX13.alloc _).on hb14
    have kG014 := (kG013.alloc _).on hb14
    have kH014 := (Blk.new _ 71 #[.int .i64 R.o, .int .i64 R.l, .int .i64 R.m, .slice AH0 R.ps.length cH0, .int .i64 R.base, .int .i64 R.last, .string ByteArray.empty, .int .i64 0, .int .i64 0, .int .i64 E]).on hb14
    have oW014 := own_on (oW013.alloc _) hb14
    have ox014 := own_on (ox013.alloc _) hb14
    have oG014 := own_on (oG013.alloc _) hb14
    have oH014 := own_on (oH013.alloc _) hb14
    have hB14 : Below w.heap.size w w14 := by (repeat (first | with_reducible (first | assumption | exact Below.refl _ _ | refine bel_alloc ?_ _ | refine bel_drew ?_ | refine bel_drewN ?_ _ | refine bel_set ?_ (by first | omega | (simp; done) | (simp; omega)) _ | refine bel_trans ?_ (by assumption)) | assumption | refine bel_trans ?_ (by assumption)))
    clear kN13 kW013 kX13 kG013 oW013 ox013 oG013 oH013 q0_0 q0_1 q0_2 q0_3 q0_4 q0_5 l0 q1_0 q1_1 q1_2 q1_3 q1_4 q1_5 q1_6 q1_7 q1_8 q1_9 l1 q2_0 q2_1 q2_2 q2_3 q2_4 q2_5 l2 q3_0 q3_1 q3_2 q3_3 q3_4 q3_5 q3_6 q3_7 q3_8 q3_9 l3 hb14 hB13
    obtain ⟨q0_0, q0_1, q0_2, q0_3, q0_4, q0_5⟩ := kN14.cells6
    have l0 := kN14.lt
    obtain ⟨q1_0, q1_1, q1_2, q1_3, q1_4, q1_5, q1_6, q1_7, q1_8, q1_9⟩ := kW014.cells10
    have l1 := kW014.lt
    obtain ⟨q2_0, q2_1, q2_2, q2_3, q2_4, q2_5⟩ := kX14.cells6
    have l2 := kX14.lt
    obtain ⟨q3_0, q3_1, q3_2, q3_3, q3_4, q3_5, q3_6, q3_7, q3_8, q3_9⟩ := kG014.cells10
    have l3 := kG014.lt
    obtain ⟨q4_0, q4_1, q4_2, q4_3, q4_4, q4_5, q4_6, q4_7, q4_8, q4_9⟩ := kH014.cells10
    have l4 := kH014.lt
    go_wp2_with fail
    refine (c_heldReader _ _ _ _ _ _ _ _ _ _ (own_ps_at oG014) (Nat.le_refl _) hl0).mono ?_
    rintro e w15 ⟨rfl, hb15⟩
    have hz15 : w14.heap.size ≤ w15.heap.size := by have := hb15.size; first | exact this | (simp only [World.size_alloc] at this; omega)
    have kN15 := kN14.on hb15
    have kW015 := kW014.on hb15
    have kX15 := kX14.on hb15
    have kG015 := kG014.on hb15
    have kH015 := kH014.on hb15
    have oW015 := own_on oW014 hb15
    have ox015 := own_on ox014 hb15
    have oG015 := own_on oG014 hb15
    have oH015 := own_on oH014 hb15
    have hB15 : Below w.heap.size w w15 := by (repeat (first | with_reducible (first | assumption | exact Below.refl _ _ | refine bel_alloc ?_ _ | refine bel_drew ?_ | refine bel_drewN ?_ _ | refine bel_set ?_ (by first | omega | (simp; done) | (simp; omega)) _ | refine bel_trans ?_ (by assumption)) | assumption | refine bel_trans ?_ (by assumption)))
    clear kN14 kW014 kX14 kG014 kH014 oW014 ox014 oG014 oH014 q0_0 q0_1 q0_2 q0_3 q0_4 q0_5 l0 q1_0 q1_1 q1_2 q1_3 q1_4 q1_5 q1_6 q1_7 q1_8 q1_9 l1 q2_0 q2_1 q2_2 q2_3 q2_4 q2_5 l2 q3_0 q3_1 q3_2 q3_3 q3_4 q3_5 q3_6 q3_7 q3_8 q3_9 l3 q4_0 q4_1 q4_2 q4_3 q4_4 q4_5 q4_6 q4_7 q4_8 q4_9 l4 hb15 hB14
    obtain ⟨q0_0, q0_1, q0_2, q0_3, q0_4, q0_5⟩ := kN15.cells6
    have l0 := kN15.lt
    obtain ⟨q1_0, q1_1, q1_2, q1_3, q1_4, q1_5, q1_6, q1_7, q1_8, q1_9⟩ := kW015.cells10
    have l1 := kW015.lt
    obtain ⟨q2_0, q2_1, q2_2, q2_3, q2_4, q2_5⟩ := kX15.cells6
    have l2 := kX15.lt
    obtain ⟨q3_0, q3_1, q3_2, q3_3, q3_4, q3_5, q3_6, q3_7, q3_8, q3_9⟩ := kG015.cells10
    have l3 := kG015.lt
    obtain ⟨q4_0, q4_1, q4_2, q4_3, q4_4, q4_5, q4_6, q4_7, q4_8, q4_9⟩ := kH015.cells10
    have l4 := kH015.lt
    go_wp2
    go_ret
    exact ⟨rfl, by (repeat (first | with_reducible (first | assumption | exact Below.refl _ _ | refine bel_alloc ?_ _ | refine bel_drew ?_ | refine bel_drewN ?_ _ | refine bel_set ?_ (by first | omega | (simp; done) | (simp; omega)) _ | refine bel_trans ?_ (by assumption)) | assumption | refine bel_trans ?_ (by assumption)))⟩
  · have hb := hp.1
    have hcm := hp.2.1
    go_enter Try.func13, Try.ntmps13
    go_wp2_with fail
    refine (c_szKnown_big k Ak capk _ (by omega) (by omega)).mono ?_
    rintro e w1 ⟨rfl, hb1⟩
    have hc1 := bcell hb1
    have hz1_0 : w.heap.size < w1.heap.size := (by have := hb1.size; first | omega | (simp at this; omega))
    go_wp2
    go_ret
    exact ⟨rfl, by (repeat (first | with_reducible (first | assumption | exact Below.refl _ _ | refine bel_alloc ?_ _ | refine bel_drew ?_ | refine bel_drewN ?_ _ | refine bel_set ?_ (by first | omega | (simp; done) | (simp; omega)) _ | refine bel_trans ?_ (by assumption)) | assumption | refine bel_trans ?_ (by assumption)))⟩

set_option maxHeartbeats 4000000 in
set_option maxRecDepth 100000 in
theorem walk_FnExactNewWriter (k : Kn) (Ak : Option Addr) (capk : Nat) (w : World) (hp : PsAt w w.heap.size Ak capk k.ps) (hin : k.In) :
    Calls Try.prog 12 #[.agg #[.int .i64 k.o, .int .i64 k.l, .int .i64 k.m, .slice Ak k.ps.length capk, .int .i64 k.base, .int .i64 k.last]] w fun e w' => e = .returned (.bool true) ∧ Below w.heap.size w w' := by
  by_cases hn : k.ps.length ≤ 1048576
  · have hw := hin.wf hn
    obtain ⟨R, b, hl0, HS, HI⟩ : ∃ (R : Kn) (b : Bool), R.ps.length ≤ 1048576 ∧ (∀ (A : Option Addr) (cap L : Nat) (w : World), PsAt w L A cap k.ps → L ≤ w.heap.size → Calls Try.prog 58 #[.agg #[.int .i64 k.o, .int .i64 k.l, .int .i64 k.m, .slice A k.ps.length cap, .int .i64 k.base, .int .i64 k.last]] w (fun e w' => ∃ A0_ cap0_, e = .returned (.tuple #[.agg #[.int .i64 R.o, .int .i64 R.l, .int .i64 R.m, .slice A0_ R.ps.length cap0_, .int .i64 R.base, .int .i64 R.last, .string ByteArray.empty, .string ByteArray.empty, .bool false], .bool b]) ∧ w'.ownsRow w.heap.size 182 2 (.slice A0_ R.ps.length cap0_) R.ps.length (prs R.ps) ∧ Below w.heap.size w w')) ∧ (∀ (A : Option Addr) (cap L : Nat) (w : World), PsAt w L A cap k.ps → L ≤ w.heap.size → Calls Try.prog 59 #[.agg #[.int .i64 k.o, .int .i64 k.l, .int .i64 k.m, .slice A k.ps.length cap, .int .i64 k.base, .int .i64 k.last]] w (fun e w' => ∃ A0_ cap0_, e = .returned (.tuple #[.agg #[.int .i64 R.o, .int .i64 R.l, .int .i64 R.m, .slice A0_ R.ps.length cap0_, .int .i64 R.base, .int .i64 R.last, .string ByteArray.empty, .string ByteArray.empty, .bool false], .bool b]) ∧ w'.ownsRow w.heap.size 182 2 (.slice A0_ R.ps.length cap0_) R.ps.length (prs R.ps) ∧ Below w.heap.size w w')) := by
      by_cases hk : k.Ok
      · exact ⟨k, true, by have := hk.len; omega, fun A cap L w h hL => c_sNewWriter_yes k A cap L w h hL hk hw, fun A cap L w h hL => c_NewWriter_yes k A cap L w h hL hk hw⟩
      · exact ⟨⟨0, 0, 0, [], 0, 0⟩, false, by simp, fun A cap L w h hL => (c_sNewWriter_no k A cap L w h hL hk hw).mono fun e w' ⟨q1, q2⟩ => ⟨none, 0, q1, own_ps_nil _ _ _, q2⟩, fun A cap L w h hL => (c_NewWriter_no k A cap L w h hL hk hw).mono fun e w' ⟨q1, q2⟩ => ⟨none, 0, q1, own_ps_nil _ _ _, q2⟩⟩
    have HP := hid hp
    have HS := hid HS
    have HI := hid HI
    clear hp hin hw
    go_enter Try.func12, Try.ntmps12
    go_wp2_with fail
    refine (c_szKnown k Ak capk _ hn).mono ?_
    rintro e w1 ⟨rfl, hb1⟩
    have hz1 : w.heap.size ≤ w1.heap.size := by have := hb1.size; first | exact this | (simp only [World.size_alloc] at this; omega)
    have kN1 := (Blk.new _ 45 #[.int .i64 k.o, .int .i64 k.l, .int .i64 k.m, .slice Ak k.ps.length capk, .int .i64 k.base, .int .i64 k.last]).on hb1
    have hB1 : Below w.heap.size w w1 := by (repeat (first | with_reducible (first | assumption | exact Below.refl _ _ | refine bel_alloc ?_ _ | refine bel_drew ?_ | refine bel_drewN ?_ _ | refine bel_set ?_ (by first | omega | (simp; done) | (simp; omega)) _ | refine bel_trans ?_ (by assumption)) | assumption | refine bel_trans ?_ (by assumption)))
    clear hb1
    obtain ⟨q0_0, q0_1, q0_2, q0_3, q0_4, q0_5⟩ := kN1.cells6
    have l0 := kN1.lt
    go_wp2_with fail
    refine (c_toKnown k Ak capk w.heap.size _ (HP.out.below (by (repeat (first | with_reducible (first | assumption | exact Below.refl _ _ | refine bel_alloc ?_ _ | refine bel_drew ?_ | refine bel_drewN ?_ _ | refine bel_set ?_ (by first | omega | (simp; done) | (simp; omega)) _ | refine bel_trans ?_ (by assumption)) | assumption | refine bel_trans ?_ (by assumption)))) (Nat.le_refl _)) (by first | omega | (simp only [World.size_alloc]; omega)) hn).mono ?_
    rintro e w2 ⟨gs0, rfl, hown2, hb2⟩
    have hz2 : w1.heap.size ≤ w2.heap.size := by have := hb2.size; first | exact this | (simp only [World.size_alloc] at this; omega)
    have kN2 := kN1.on hb2
    have hB2 : Below w.heap.size w w2 := by (repeat (first | with_reducible (first | assumption | exact Below.refl _ _ | refine bel_alloc ?_ _ | refine bel_drew ?_ | refine bel_drewN ?_ _ | refine bel_set ?_ (by first | omega | (simp; done) | (simp; omega)) _ | refine bel_trans ?_ (by assumption)) | assumption | refine bel_trans ?_ (by assumption)))
    clear kN1 q0_0 q0_1 q0_2 q0_3 q0_4 q0_5 l0 hb2 hB1
    obtain ⟨q0_0, q0_1, q0_2, q0_3, q0_4, q0_5⟩ := kN2.cells6
    have l0 := kN2.lt
    have os02 := own_mono (B' := w1.heap.size) hown2 (by first | exact Nat.le_refl _ | (simp only [World.size_alloc]; omega) | omega)
    have uos0 := hid (own_upto os02)
    clear hown2
    go_wp2_with fail
    refine (HS.out _ _ _ _ (own_ps_at os02) (Nat.le_refl _)).mono ?_
    rintro e w3 ⟨AW0, cW0, rfl, hrW0, hb3⟩
    have hz3 : w2.heap.size ≤ w3.heap.size := by have := hb3.size; first | exact this | (simp only [World.size_alloc] at this; omega)
    have kN3 := kN2.on hb3
    have os03 := own_on os02 hb3
    have hB3 : Below w.heap.size w w3 := by (repeat (first | with_reducible (first | assumption | exact Below.refl _ _ | refine bel_alloc ?_ _ | refine bel_drew ?_ | refine bel_drewN ?_ _ | refine bel_set ?_ (by first | omega | (simp; done) | (simp; omega)) _ | refine bel_trans ?_ (by assumption)) | assumption | refine bel_trans ?_ (by assumption)))
    clear kN2 os02 q0_0 q0_1 q0_2 q0_3 q0_4 q0_5 l0 hb3 hB2
    obtain ⟨q0_0, q0_1, q0_2, q0_3, q0_4, q0_5⟩ := kN3.cells6
    have l0 := kN3.lt
    have oW03 := own_mono (B' := w2.heap.size) hrW0 (by first | exact Nat.le_refl _ | (simp only [World.size_alloc]; omega) | omega)
    have uoW0 := hid (own_upto oW03)
    clear hrW0
    clear os03
    go_wp2_with fail
    refine (c_toKnown k Ak capk w.heap.size _ (HP.out.below (by (repeat (first | with_reducible (first | assumption | exact Below.refl _ _ | refine bel_alloc ?_ _ | refine bel_drew ?_ | refine bel_drewN ?_ _ | refine bel_set ?_ (by first | omega | (simp; done) | (simp; omega)) _ | refine bel_trans ?_ (by assumption)) | assumption | refine bel_trans ?_ (by assumption)))) (Nat.le_refl _)) (by first | omega | (simp only [World.size_alloc]; omega)) hn).mono ?_
    rintro e w4 ⟨gx0, rfl, hown4, hb4⟩
    have hz4 : w3.heap.size ≤ w4.heap.size := by have := hb4.size; first | exact this | (simp only [World.size_alloc] at this; omega)
    have kN4 := (kN3.alloc _).on hb4
    have kW04 := (Blk.new _ 64 #[.int .i64 R.o, .int .i64 R.l, .int .i64 R.m, .slice AW0 R.ps.length cW0, .int .i64 R.base, .int .i64 R.last, .string ByteArray.empty, .string ByteArray.empty, .bool false]).on hb4
    have oW04 := own_on (oW03.alloc _) hb4
    have hB4 : Below w.heap.size w w4 := by (repeat (first | with_reducible (first | assumption | exact Below.refl _ _ | refine bel_alloc ?_ _ | refine bel_drew ?_ | refine bel_drewN ?_ _ | refine bel_set ?_ (by first | omega | (simp; done) | (simp; omega)) _ | refine bel_trans ?_ (by assumption)) | assumption | refine bel_trans ?_ (by assumption)))
    clear kN3 oW03 q0_0 q0_1 q0_2 q0_3 q0_4 q0_5 l0 hb4 hB3
    obtain ⟨q0_0, q0_1, q0_2, q0_3, q0_4, q0_5⟩ := kN4.cells6
    have l0 := kN4.lt
    obtain ⟨q1_0, q1_1, q1_2, q1_3, q1_4, q1_5, q1_6, q1_7, q1_8⟩ := kW04.cells9
    have l1 := kW04.lt
    have ox04 := own_mono (B' := w3.heap.size) hown4 (by first | exact Nat.le_refl _ | (simp only [World.size_alloc]; omega) | omega)
    have uox0 := hid (own_upto ox04)
    clear hown4
    go_wp2_with fail
    refine (HI.out _ _ _ _ (own_ps_at (ox04.alloc _)) (Nat.le_refl _)).mono ?_
    rintro e w5 ⟨AG0, cG0, rfl, hrG0, hb5⟩
    have hz5 : w4.heap.size ≤ w5.heap.size := by have := hb5.size; first | exact this | (simp only [World.size_alloc] at this; omega)
    have kN5 := (kN4.alloc _).on hb5
    have kW05 := (kW04.alloc _).on hb5
    have kX5 := (Blk.new _ 27 #[.int .i64 k.o, .int .i64 k.l, .int .i64 k.m, .slice (some ⟨gx0, 0, none⟩) k.ps.length k.ps.length, .int .i64 k.base, .int .i64 k.last]).on hb5
    have oW05 := own_on (oW04.alloc _) hb5
    have ox05 := own_on (ox04.alloc _) hb5
    have hB5 : Below w.heap.size w w5 := by (repeat (first | with_reducible (first | assumption | exact Below.refl _ _ | refine bel_alloc ?_ _ | refine bel_drew ?_ | refine bel_drewN ?_ _ | refine bel_set ?_ (by first | omega | (simp; done) | (simp; omega)) _ | refine bel_trans ?_ (by assumption)) | assumption | refine bel_trans ?_ (by assumption)))
    clear kN4 kW04 oW04 ox04 q0_0 q0_1 q0_2 q0_3 q0_4 q0_5 l0 q1_0 q1_1 q1_2 q1_3 q1_4 q1_5 q1_6 q1_7 q1_8 l1 hb5 hB4
    obtain ⟨q0_0, q0_1, q0_2, q0_3, q0_4, q0_5⟩ := kN5.cells6
    have l0 := kN5.lt
    obtain ⟨q1_0, q1_1, q1_2, q1_3, q1_4, q1_5, q1_6, q1_7, q1_8⟩ := kW05.cells9
    have l1 := kW05.lt
    obtain ⟨q2_0, q2_1, q2_2, q2_3, q2_4, q2_5⟩ := kX5.cells6
    have l2 := kX5.lt
    have oG05 := own_mono (B' := w4.heap.size) hrG0 (by first | exact Nat.le_refl _ | (simp only [World.size_alloc]; omega) | omega)
    have uoG0 := hid (own_upto oG05)
    clear hrG0
    go_wp2_with fail
    refine (c_eqWriter R _ _ _ _ _ _ _ (own_ps_at (oG05.alloc _)) (own_ps_at (oW05.alloc _)) (Nat.le_refl _) (Nat.le_refl _) hl0).mono ?_
    rintro e w6 ⟨rfl, hb6⟩
    have hz6 : w5.heap.size ≤ w6.heap.size := by have := hb6.size; first | exact this | (simp only [World.size_alloc] at this; omega)
    have kN6 := (kN5.alloc _).on hb6
    have kW06 := (kW05.alloc _).on hb6
    have kX6 := (kX5.alloc _).on hb6
    have kG06 := (Blk.new _ 64 #[.int .i64 R.o, .int .i64 R.l, .int .i64 R.m, .slice AG0 R.ps.length cG0, .int .i64 R.base, .int .i64 R.last, .string ByteArray.empty, .string ByteArray.empty, .bool false]).on hb6
    have oW06 := own_on (oW05.alloc _) hb6
    have ox06 := own_on (ox05.alloc _) hb6
    have oG06 := own_on (oG05.alloc _) hb6
    have hB6 : Below w.heap.size w w6 := by (repeat (first | with_reducible (first | assumption | exact Below.refl _ _ | refine bel_alloc ?_ _ | refine bel_drew ?_ | refine bel_drewN ?_ _ | refine bel_set ?_ (by first | omega | (simp; done) | (simp; omega)) _ | refine bel_trans ?_ (by assumption)) | assumption | refine bel_trans ?_ (by assumption)))
    clear kN5 kW05 kX5 oW05 ox05 oG05 q0_0 q0_1 q0_2 q0_3 q0_4 q0_5 l0 q1_0 q1_1 q1_2 q1_3 q1_4 q1_5 q1_6 q1_7 q1_8 l1 q2_0 q2_1 q2_2 q2_3 q2_4 q2_5 l2 hb6 hB5
    obtain ⟨q0_0, q0_1, q0_2, q0_3, q0_4, q0_5⟩ := kN6.cells6
    have l0 := kN6.lt
    obtain ⟨q1_0, q1_1, q1_2, q1_3, q1_4, q1_5, q1_6, q1_7, q1_8⟩ := kW06.cells9
    have l1 := kW06.lt
    obtain ⟨q2_0, q2_1, q2_2, q2_3, q2_4, q2_5⟩ := kX6.cells6
    have l2 := kX6.lt
    obtain ⟨q3_0, q3_1, q3_2, q3_3, q3_4, q3_5, q3_6, q3_7, q3_8⟩ := kG06.cells9
    have l3 := kG06.lt
    go_wp2_with fail
    have hS := held12 kN6.cells6 kX6.cells6 (Below.refl w6.heap.size w6)
    refine wp_region_noPanic ?_
    refine wp_region_held_drew (S := (fun v => v.cell? ⟨w.heap.size, 0, none⟩ = some (.int .i64 k.o) ∧ v.cell? ⟨w.heap.size, 1, none⟩ = some (.int .i64 k.l) ∧ v.cell? ⟨w.heap.size, 2, none⟩ = some (.int .i64 k.m) ∧ v.cell? ⟨w.heap.size, 3, none⟩ = some (.slice Ak k.ps.length capk) ∧ v.cell? ⟨w.heap.size, 4, none⟩ = some (.int .i64 k.base) ∧ v.cell? ⟨w.heap.size, 5, none⟩ = some (.int .i64 k.last) ∧ v.cell? ⟨w4.heap.size, 0, none⟩ = some (.int .i64 k.o) ∧ v.cell? ⟨w4.heap.size, 1, none⟩ = some (.int .i64 k.l) ∧ v.cell? ⟨w4.heap.size, 2, none⟩ = some (.int .i64 k.m) ∧ v.cell? ⟨w4.heap.size, 3, none⟩ = some (.slice (some ⟨gx0, 0, none⟩) k.ps.length k.ps.length) ∧ v.cell? ⟨w4.heap.size, 4, none⟩ = some (.int .i64 k.base) ∧ v.cell? ⟨w4.heap.size, 5, none⟩ = some (.int .i64 k.last) ∧ Below w6.heap.size w6 v)) (by kernel_rfl) (s12_drew hS) (fun hHeld => ?_)
    refine tk 0 ?_
    refine tk 1 ?_
    refine wpAnyH_ready (rs := [2]) (by kernel_rfl) (by simp) ?_
    refine AllReadyH.cons (o := ?or2_2) ?ir2_2 (fun K hK => ?sr2_2) AllReadyH.nil
    case ir2_2 => (simp only [List.getElem?_toArray, List.getElem?_cons_succ, List.getElem?_cons_zero]; rfl)
    (first | (go_simp; (first | (go_at_call 34; refine (c_toKnown k Ak capk w.heap.size _ (HP.out.below (bel_trans hB6 hHeld.2.2.2.2.2.2.2.2.2.2.2.2) (Nat.le_refl _)) (bel_trans hB6 hHeld.2.2.2.2.2.2.2.2.2.2.2.2).size hn).mono ?_; rintro e wt7 ⟨gt7, rfl, hownt7, hbt7⟩) | (go_at_call 36; refine (c_eqKnown k _ _ _ _ w6.heap.size _ _ ((own_ps_at ox06).below hHeld.2.2.2.2.2.2.2.2.2.2.2.2 (Nat.le_refl _)) (own_ps_at hownt7) (hHeld.2.2.2.2.2.2.2.2.2.2.2.2).size (Nat.le_refl _) hn).mono ?_; rintro e w7 ⟨rfl, hbq7⟩) | skip)))
    refine hK.out _ _ ?kr2_2 (fun hHeld => ?_)
    case kr2_2 => (try dsimp only); (first | with_reducible assumption | exact s12_bel (by assumption) (by assumption) | assumption | exact s12_alloc (by assumption) _)
    clear hK K
    try simp only [Act.put, List.setIfInBounds_toArray, List.set_cons_zero, List.set_cons_succ]
    refine wpAnyH_ready (rs := [3]) (by kernel_rfl) (by simp) ?_
    refine AllReadyH.cons (o := ?or2_3) ?ir2_3 (fun K hK => ?sr2_3) AllReadyH.nil
    case ir2_3 => (simp only [List.getElem?_toArray, List.getElem?_cons_succ, List.getElem?_cons_zero]; rfl)
    (first | (go_simp; (first | (go_at_call 34; refine (c_toKnown k Ak capk w.heap.size _ (HP.out.below (bel_trans hB6 hHeld.2.2.2.2.2.2.2.2.2.2.2.2) (Nat.le_refl _)) (bel_trans hB6 hHeld.2.2.2.2.2.2.2.2.2.2.2.2).size hn).mono ?_; rintro e wt7 ⟨gt7, rfl, hownt7, hbt7⟩) | (go_at_call 36; refine (c_eqKnown k _ _ _ _ w6.heap.size _ _ ((own_ps_at ox06).below hHeld.2.2.2.2.2.2.2.2.2.2.2.2 (Nat.le_refl _)) (own_ps_at hownt7) (hHeld.2.2.2.2.2.2.2.2.2.2.2.2).size (Nat.le_refl _) hn).mono ?_; rintro e w7 ⟨rfl, hbq7⟩) | skip)))
    refine hK.out _ _ ?kr2_3 (fun hHeld => ?_)
    case kr2_3 => (try dsimp only); (first | with_reducible assumption | exact s12_bel (by assumption) (by assumption) | assumption | exact s12_alloc (by assumption) _)
    clear hK K
    try simp only [Act.put, List.setIfInBounds_toArray, List.set_cons_zero, List.set_cons_succ]
    refine tk 4 ?_
    refine wpAnyH_done (by kernel_rfl) ?_ _
    refine NoPanic.normal ?_
    have hb7 := hHeld.2.2.2.2.2.2.2.2.2.2.2.2
    clear hHeld hS hbq7 hbt7 hownt7
    have hz7 : w6.heap.size ≤ w7.heap.size := by have := hb7.size; first | exact this | (simp only [World.size_alloc] at this; omega)
    have kN7 := kN6.on hb7
    have kW07 := kW06.on hb7
    have kX7 := kX6.on hb7
    have kG07 := kG06.on hb7
    have oW07 := own_on oW06 hb7
    have ox07 := own_on ox06 hb7
    have oG07 := own_on oG06 hb7
    have hB7 : Below w.heap.size w w7 := by (repeat (first | with_reducible (first | assumption | exact Below.refl _ _ | refine bel_alloc ?_ _ | refine bel_drew ?_ | refine bel_drewN ?_ _ | refine bel_set ?_ (by first | omega | (simp; done) | (simp; omega)) _ | refine bel_trans ?_ (by assumption)) | assumption | refine bel_trans ?_ (by assumption)))
    clear kN6 kW06 kX6 kG06 oW06 ox06 oG06 q0_0 q0_1 q0_2 q0_3 q0_4 q0_5 l0 q1_0 q1_1 q1_2 q1_3 q1_4 q1_5 q1_6 q1_7 q1_8 l1 q2_0 q2_1 q2_2 q2_3 q2_4 q2_5 l2 q3_0 q3_1 q3_2 q3_3 q3_4 q3_5 q3_6 q3_7 q3_8 l3 hb7 hB6
    obtain ⟨q0_0, q0_1, q0_2, q0_3, q0_4, q0_5⟩ := kN7.cells6
    have l0 := kN7.lt
    obtain ⟨q1_0, q1_1, q1_2, q1_3, q1_4, q1_5, q1_6, q1_7, q1_8⟩ := kW07.cells9
    have l1 := kW07.lt
    obtain ⟨q2_0, q2_1, q2_2, q2_3, q2_4, q2_5⟩ := kX7.cells6
    have l2 := kX7.lt
    obtain ⟨q3_0, q3_1, q3_2, q3_3, q3_4, q3_5, q3_6, q3_7, q3_8⟩ := kG07.cells9
    have l3 := kG07.lt
    go_wp2_with fail
    refine (c_markKnown_any k _ _ _ _ (ox07) (by first | omega | (simp only [World.size_alloc]; omega)) hn).mono ?_
    rintro e w8 ⟨rfl, hown8, hg8⟩
    have hz8 : w7.heap.size ≤ w8.heap.size := by have := hg8.size; first | exact this | (simp only [World.size_alloc] at this; omega)
    have kN8 := box_apart kN7 ox07 (by decide) hg8
    have kW08 := box_apart kW07 ox07 (by decide) hg8
    have kX8 := box_apart kX7 ox07 (by decide) hg8
    have kG08 := box_apart kG07 ox07 (by decide) hg8
    have oW08 := oW07.kept hg8 (sep_old uoW0.out ox07 (by omega))
    have ox08 := hown8
    have oG08 := oG07.kept hg8 (sep_turn (sep_old uox0.out oG07 (by omega)))
    have hB8 : Below w.heap.size w w8 := bel_grow (by (repeat (first | with_reducible (first | assumption | exact Below.refl _ _ | refine bel_alloc ?_ _ | refine bel_drew ?_ | refine bel_drewN ?_ _ | refine bel_set ?_ (by first | omega | (simp; done) | (simp; omega)) _ | refine bel_trans ?_ (by assumption)) | assumption | refine bel_trans ?_ (by assumption)))) ox07 (by omega) hg8
    clear kN7 kW07 kX7 kG07 oW07 ox07 oG07 q0_0 q0_1 q0_2 q0_3 q0_4 q0_5 l0 q1_0 q1_1 q1_2 q1_3 q1_4 q1_5 q1_6 q1_7 q1_8 l1 q2_0 q2_1 q2_2 q2_3 q2_4 q2_5 l2 q3_0 q3_1 q3_2 q3_3 q3_4 q3_5 q3_6 q3_7 q3_8 l3 hown8 hg8 hB7
    obtain ⟨q0_0, q0_1, q0_2, q0_3, q0_4, q0_5⟩ := kN8.cells6
    have l0 := kN8.lt
    obtain ⟨q1_0, q1_1, q1_2, q1_3, q1_4, q1_5, q1_6, q1_7, q1_8⟩ := kW08.cells9
    have l1 := kW08.lt
    obtain ⟨q2_0, q2_1, q2_2, q2_3, q2_4, q2_5⟩ := kX8.cells6
    have l2 := kX8.lt
    obtain ⟨q3_0, q3_1, q3_2, q3_3, q3_4, q3_5, q3_6, q3_7, q3_8⟩ := kG08.cells9
    have l3 := kG08.lt
    go_wp2_with fail
    refine (c_eqWriter R _ _ _ _ _ _ _ (own_ps_at oG08) (own_ps_at oW08) (Nat.le_refl _) (Nat.le_refl _) hl0).mono ?_
    rintro e w9 ⟨rfl, hb9⟩
    have hz9 : w8.heap.size ≤ w9.heap.size := by have := hb9.size; first | exact this | (simp only [World.size_alloc] at this; omega)
    have kN9 := kN8.on hb9
    have kW09 := kW08.on hb9
    have kX9 := kX8.on hb9
    have kG09 := kG08.on hb9
    have oW09 := own_on oW08 hb9
    have ox09 := own_on ox08 hb9
    have oG09 := own_on oG08 hb9
    have hB9 : Below w.heap.size w w9 := by (repeat (first | with_reducible (first | assumption | exact Below.refl _ _ | refine bel_alloc ?_ _ | refine bel_drew ?_ | refine bel_drewN ?_ _ | refine bel_set ?_ (by first | omega | (simp; done) | (simp; omega)) _ | refine bel_trans ?_ (by assumption)) | assumption | refine bel_trans ?_ (by assumption)))
    clear kN8 kW08 kX8 kG08 oW08 ox08 oG08 q0_0 q0_1 q0_2 q0_3 q0_4 q0_5 l0 q1_0 q1_1 q1_2 q1_3 q1_4 q1_5 q1_6 q1_7 q1_8 l1 q2_0 q2_1 q2_2 q2_3 q2_4 q2_5 l2 q3_0 q3_1 q3_2 q3_3 q3_4 q3_5 q3_6 q3_7 q3_8 l3 hb9 hB8
    obtain ⟨q0_0, q0_1, q0_2, q0_3, q0_4, q0_5⟩ := kN9.cells6
    have l0 := kN9.lt
    obtain ⟨q1_0, q1_1, q1_2, q1_3, q1_4, q1_5, q1_6, q1_7, q1_8⟩ := kW09.cells9
    have l1 := kW09.lt
    obtain ⟨q2_0, q2_1, q2_2, q2_3, q2_4, q2_5⟩ := kX9.cells6
    have l2 := kX9.lt
    obtain ⟨q3_0, q3_1, q3_2, q3_3, q3_4, q3_5, q3_6, q3_7, q3_8⟩ := kG09.cells9
    have l3 := kG09.lt
    go_wp2_with fail
    refine (c_markWriter_any R _ _ _ _ (oG09) (by first | omega | (simp only [World.size_alloc]; omega)) hl0).mono ?_
    rintro e w10 ⟨rfl, hown10, hg10⟩
    have hz10 : w9.heap.size ≤ w10.heap.size := by have := hg10.size; first | exact this | (simp only [World.size_alloc] at this; omega)
    have kN10 := box_apart kN9 oG09 (by decide) hg10
    have kW010 := box_apart kW09 oG09 (by decide) hg10
    have kX10 := box_apart kX9 oG09 (by decide) hg10
    have kG010 := box_apart kG09 oG09 (by decide) hg10
    have oW010 := oW09.kept hg10 (sep_old uoW0.out oG09 (by omega))
    have ox010 := ox09.kept hg10 (sep_old uox0.out oG09 (by omega))
    have oG010 := hown10
    have hB10 : Below w.heap.size w w10 := bel_grow (by (repeat (first | with_reducible (first | assumption | exact Below.refl _ _ | refine bel_alloc ?_ _ | refine bel_drew ?_ | refine bel_drewN ?_ _ | refine bel_set ?_ (by first | omega | (simp; done) | (simp; omega)) _ | refine bel_trans ?_ (by assumption)) | assumption | refine bel_trans ?_ (by assumption)))) oG09 (by omega) hg10
    clear kN9 kW09 kX9 kG09 oW09 ox09 oG09 q0_0 q0_1 q0_2 q0_3 q0_4 q0_5 l0 q1_0 q1_1 q1_2 q1_3 q1_4 q1_5 q1_6 q1_7 q1_8 l1 q2_0 q2_1 q2_2 q2_3 q2_4 q2_5 l2 q3_0 q3_1 q3_2 q3_3 q3_4 q3_5 q3_6 q3_7 q3_8 l3 hown10 hg10 hB9
    obtain ⟨q0_0, q0_1, q0_2, q0_3, q0_4, q0_5⟩ := kN10.cells6
    have l0 := kN10.lt
    obtain ⟨q1_0, q1_1, q1_2, q1_3, q1_4, q1_5, q1_6, q1_7, q1_8⟩ := kW010.cells9
    have l1 := kW010.lt
    obtain ⟨q2_0, q2_1, q2_2, q2_3, q2_4, q2_5⟩ := kX10.cells6
    have l2 := kX10.lt
    obtain ⟨q3_0, q3_1, q3_2, q3_3, q3_4, q3_5, q3_6, q3_7, q3_8⟩ := kG010.cells9
    have l3 := kG010.lt
    go_wp2_with fail
    refine (c_heldWriter _ _ _ _ _ _ _ _ _ _ (own_ps_at oG010) (Nat.le_refl _) hl0).mono ?_
    rintro e w11 ⟨rfl, hb11⟩
    have hz11 : w10.heap.size ≤ w11.heap.size := by have := hb11.size; first | exact this | (simp only [World.size_alloc] at this; omega)
    have kN11 := kN10.on hb11
    have kW011 := kW010.on hb11
    have kX11 := kX10.on hb11
    have kG011 := kG010.on hb11
    have oW011 := own_on oW010 hb11
    have ox011 := own_on ox010 hb11
    have oG011 := own_on oG010 hb11
    have hB11 : Below w.heap.size w w11 := by (repeat (first | with_reducible (first | assumption | exact Below.refl _ _ | refine bel_alloc ?_ _ | refine bel_drew ?_ | refine bel_drewN ?_ _ | refine bel_set ?_ (by first | omega | (simp; done) | (simp; omega)) _ | refine bel_trans ?_ (by assumption)) | assumption | refine bel_trans ?_ (by assumption)))
    clear kN10 kW010 kX10 kG010 oW010 ox010 oG010 q0_0 q0_1 q0_2 q0_3 q0_4 q0_5 l0 q1_0 q1_1 q1_2 q1_3 q1_4 q1_5 q1_6 q1_7 q1_8 l1 q2_0 q2_1 q2_2 q2_3 q2_4 q2_5 l2 q3_0 q3_1 q3_2 q3_3 q3_4 q3_5 q3_6 q3_7 q3_8 l3 hb11 hB10
    obtain ⟨q0_0, q0_1, q0_2, q0_3, q0_4, q0_5⟩ := kN11.cells6
    have l0 := kN11.lt
    obtain ⟨q1_0, q1_1, q1_2, q1_3, q1_4, q1_5, q1_6, q1_7, q1_8⟩ := kW011.cells9
    have l1 := kW011.lt
    obtain ⟨q2_0, q2_1, q2_2, q2_3, q2_4, q2_5⟩ := kX11.cells6
    have l2 := kX11.lt
    obtain ⟨q3_0, q3_1, q3_2, q3_3, q3_4, q3_5, q3_6, q3_7, q3_8⟩ := kG011.cells9
    have l3 := kG011.lt
    go_wp2_with fail
    refine (c_toKnown k Ak capk w.heap.size _ (HP.out.below (by (repeat (first | with_reducible (first | assumption | exact Below.refl _ _ | refine bel_alloc ?_ _ | refine bel_drew ?_ | refine bel_drewN ?_ _ | refine bel_set ?_ (by first | omega | (simp; done) | (simp; omega)) _ | refine bel_trans ?_ (by assumption)) | assumption | refine bel_trans ?_ (by assumption)))) (Nat.le_refl _)) (by first | omega | (simp only [World.size_alloc]; omega)) hn).mono ?_
    rintro e w12 ⟨gt0, rfl, hown12, hb12⟩
    have hz12 : w11.heap.size ≤ w12.heap.size := by have := hb12.size; first | exact this | (simp only [World.size_alloc] at this; omega)
    have kN12 := kN11.on hb12
    have kW012 := kW011.on hb12
    have kX12 := kX11.on hb12
    have kG012 := kG011.on hb12
    have oW012 := own_on oW011 hb12
    have ox012 := own_on ox011 hb12
    have oG012 := own_on oG011 hb12
    have hB12 : Below w.heap.size w w12 := by (repeat (first | with_reducible (first | assumption | exact Below.refl _ _ | refine bel_alloc ?_ _ | refine bel_drew ?_ | refine bel_drewN ?_ _ | refine bel_set ?_ (by first | omega | (simp; done) | (simp; omega)) _ | refine bel_trans ?_ (by assumption)) | assumption | refine bel_trans ?_ (by assumption)))
    clear kN11 kW011 kX11 kG011 oW011 ox011 oG011 q0_0 q0_1 q0_2 q0_3 q0_4 q0_5 l0 q1_0 q1_1 q1_2 q1_3 q1_4 q1_5 q1_6 q1_7 q1_8 l1 q2_0 q2_1 q2_2 q2_3 q2_4 q2_5 l2 q3_0 q3_1 q3_2 q3_3 q3_4 q3_5 q3_6 q3_7 q3_8 l3 hb12 hB11
    obtain ⟨q0_0, q0_1, q0_2, q0_3, q0_4, q0_5⟩ := kN12.cells6
    have l0 := kN12.lt
    obtain ⟨q1_0, q1_1, q1_2, q1_3, q1_4, q1_5, q1_6, q1_7, q1_8⟩ := kW012.cells9
    have l1 := kW012.lt
    obtain ⟨q2_0, q2_1, q2_2, q2_3, q2_4, q2_5⟩ := kX12.cells6
    have l2 := kX12.lt
    obtain ⟨q3_0, q3_1, q3_2, q3_3, q3_4, q3_5, q3_6, q3_7, q3_8⟩ := kG012.cells9
    have l3 := kG012.lt
    have ot012 := own_mono (B' := w11.heap.size) hown12 (by first | exact Nat.le_refl _ | (simp only [World.size_alloc]; omega) | omega)
    have uot0 := hid (own_upto ot012)
    clear hown12
    go_wp2_with fail
    refine (HI.out _ _ _ _ (own_ps_at ot012) (Nat.le_refl _)).mono ?_
    rintro e w13 ⟨AH0, cH0, rfl, hrH0, hb13⟩
    have hz13 : w12.heap.size ≤ w13.heap.size := by have := hb13.size; first | exact this | (simp only [World.size_alloc] at this; omega)
    have kN13 := kN12.on hb13
    have kW013 := kW012.on hb13
    have kX13 := kX12.on hb13
    have kG013 := kG012.on hb13
    have oW013 := own_on oW012 hb13
    have ox013 := own_on ox012 hb13
    have oG013 := own_on oG012 hb13
    have ot013 := own_on ot012 hb13
    have hB13 : Below w.heap.size w w13 := by (repeat (first | with_reducible (first | assumption | exact Below.refl _ _ | refine bel_alloc ?_ _ | refine bel_drew ?_ | refine bel_drewN ?_ _ | refine bel_set ?_ (by first | omega | (simp; done) | (simp; omega)) _ | refine bel_trans ?_ (by assumption)) | assumption | refine bel_trans ?_ (by assumption)))
    clear kN12 kW012 kX12 kG012 oW012 ox012 oG012 ot012 q0_0 q0_1 q0_2 q0_3 q0_4 q0_5 l0 q1_0 q1_1 q1_2 q1_3 q1_4 q1_5 q1_6 q1_7 q1_8 l1 q2_0 q2_1 q2_2 q2_3 q2_4 q2_5 l2 q3_0 q3_1 q3_2 q3_3 q3_4 q3_5 q3_6 q3_7 q3_8 l3 hb13 hB12
    obtain ⟨q0_0, q0_1, q0_2, q0_3, q0_4, q0_5⟩ := kN13.cells6
    have l0 := kN13.lt
    obtain ⟨q1_0, q1_1, q1_2, q1_3, q1_4, q1_5, q1_6, q1_7, q1_8⟩ := kW013.cells9
    have l1 := kW013.lt
    obtain ⟨q2_0, q2_1, q2_2, q2_3, q2_4, q2_5⟩ := kX13.cells6
    have l2 := kX13.lt
    obtain ⟨q3_0, q3_1, q3_2, q3_3, q3_4, q3_5, q3_6, q3_7, q3_8⟩ := kG013.cells9
    have l3 := kG013.lt
    have oH013 := own_mono (B' := w12.heap.size) hrH0 (by first | exact Nat.le_refl _ | (simp only [World.size_alloc]; omega) | omega)
    have uoH0 := hid (own_upto oH013)
    clear hrH0
    clear ot013
    go_wp2_with fail
    refine (c_eqWriter R _ _ _ _ _ _ _ (own_ps_at (oH013.alloc _)) (own_ps_at (oW013.alloc _)) (Nat.le_refl _) (Nat.le_refl _) hl0).mono ?_
    rintro e w14 ⟨rfl, hb14⟩
    have hz14 : w13.heap.size ≤ w14.heap.size := by have := hb14.size; first | exact this | (simp only [World.size_alloc] at this; omega)
    have kN14 := (kN13.alloc _).on hb14
    have kW014 := (kW013.alloc _).on hb14
    have kX14 := (kX13.alloc _).on hb14
    have kG014 := (kG013.alloc _).on hb14
    have kH014 := (Blk.new _ 64 #[.int .i64 R.o, .int .i64 R.l, .int .i64 R.m, .slice AH0 R.ps.length cH0, .int .i64 R.base, .int .i64 R.last, .string ByteArray.empty, .string ByteArray.empty, .bool false]).on hb14
    have oW014 := own_on (oW013.alloc _) hb14
    have ox014 := own_on (ox013.alloc _) hb14
    have oG014 := own_on (oG013.alloc _) hb14
    have oH014 := own_on (oH013.alloc _) hb14
    have hB14 : Below w.heap.size w w14 := by (repeat (first | with_reducible (first | assumption | exact Below.refl _ _ | refine bel_alloc ?_ _ | refine bel_drew ?_ | refine bel_drewN ?_ _ | refine bel_set ?_ (by first | omega | (simp; done) | (simp; omega)) _ | refine bel_trans ?_ (by assumption)) | assumption | refine bel_trans ?_ (by assumption)))
    clear kN13 kW013 kX13 kG013 oW013 ox013 oG013 oH013 q0_0 q0_1 q0_2 q0_3 q0_4 q0_5 l0 q1_0 q1_1 q1_2 q1_3 q1_4 q1_5 q1_6 q1_7 q1_8 l1 q2_0 q2_1 q2_2 q2_3 q2_4 q2_5 l2 q3_0 q3_1 q3_2 q3_3 q3_4 q3_5 q3_6 q3_7 q3_8 l3 hb14 hB13
    obtain ⟨q0_0, q0_1, q0_2, q0_3, q0_4, q0_5⟩ := kN14.cells6
    have l0 := kN14.lt
    obtain ⟨q1_0, q1_1, q1_2, q1_3, q1_4, q1_5, q1_6, q1_7, q1_8⟩ := kW014.cells9
    have l1 := kW014.lt
    obtain ⟨q2_0, q2_1, q2_2, q2_3, q2_4, q2_5⟩ := kX14.cells6
    have l2 := kX14.lt
    obtain ⟨q3_0, q3_1, q3_2, q3_3, q3_4, q3_5, q3_6, q3_7, q3_8⟩ := kG014.cells9
    have l3 := kG014.lt
    obtain ⟨q4_0, q4_1, q4_2, q4_3, q4_4, q4_5, q4_6, q4_7, q4_8⟩ := kH014.cells9
    have l4 := kH014.lt
    go_wp2_with fail
    refine (c_heldWriter _ _ _ _ _ _ _ _ _ _ (own_ps_at oG014) (Nat.le_refl _) hl0).mono ?_
    rintro e w15 ⟨rfl, hb15⟩
    have hz15 : w14.heap.size ≤ w15.heap.size := by have := hb15.size; first | exact this | (simp only [World.size_alloc] at this; omega)
    have kN15 := kN14.on hb15
    have kW015 := kW014.on hb15
    have kX15 := kX14.on hb15
    have kG015 := kG014.on hb15
    have kH015 := kH014.on hb15
    have oW015 := own_on oW014 hb15
    have ox015 := own_on ox014 hb15
    have oG015 := own_on oG014 hb15
    have oH015 := own_on oH014 hb15
    have hB15 : Below w.heap.size w w15 := by (repeat (first | with_reducible (first | assumption | exact Below.refl _ _ | refine bel_alloc ?_ _ | refine bel_drew ?_ | refine bel_drewN ?_ _ | refine bel_set ?_ (by first | omega | (simp; done) | (simp; omega)) _ | refine bel_trans ?_ (by assumption)) | assumption | refine bel_trans ?_ (by assumption)))
    clear kN14 kW014 kX14 kG014 kH014 oW014 ox014 oG014 oH014 q0_0 q0_1 q0_2 q0_3 q0_4 q0_5 l0 q1_0 q1_1 q1_2 q1_3 q1_4 q1_5 q1_6 q1_7 q1_8 l1 q2_0 q2_1 q2_2 q2_3 q2_4 q2_5 l2 q3_0 q3_1 q3_2 q3_3 q3_4 q3_5 q3_6 q3_7 q3_8 l3 q4_0 q4_1 q4_2 q4_3 q4_4 q4_5 q4_6 q4_7 q4_8 l4 hb15 hB14
    obtain ⟨q0_0, q0_1, q0_2, q0_3, q0_4, q0_5⟩ := kN15.cells6
    have l0 := kN15.lt
    obtain ⟨q1_0, q1_1, q1_2, q1_3, q1_4, q1_5, q1_6, q1_7, q1_8⟩ := kW015.cells9
    have l1 := kW015.lt
    obtain ⟨q2_0, q2_1, q2_2, q2_3, q2_4, q2_5⟩ := kX15.cells6
    have l2 := kX15.lt
    obtain ⟨q3_0, q3_1, q3_2, q3_3, q3_4, q3_5, q3_6, q3_7, q3_8⟩ := kG015.cells9
    have l3 := kG015.lt
    obtain ⟨q4_0, q4_1, q4_2, q4_3, q4_4, q4_5, q4_6, q4_7, q4_8⟩ := kH015.cells9
    have l4 := kH015.lt
    go_wp2
    go_ret
    exact ⟨rfl, by (repeat (first | with_reducible (first | assumption | exact Below.refl _ _ | refine bel_alloc ?_ _ | refine bel_drew ?_ | refine bel_drewN ?_ _ | refine bel_set ?_ (by first | omega | (simp; done) | (simp; omega)) _ | refine bel_trans ?_ (by assumption)) | assumption | refine bel_trans ?_ (by assumption)))⟩
  · have hb := hp.1
    have hcm := hp.2.1
    go_enter Try.func12, Try.ntmps12
    go_wp2_with fail
    refine (c_szKnown_big k Ak capk _ (by omega) (by omega)).mono ?_
    rintro e w1 ⟨rfl, hb1⟩
    have hc1 := bcell hb1
    have hz1_0 : w.heap.size < w1.heap.size := (by have := hb1.size; first | omega | (simp at this; omega))
    go_wp2
    go_ret
    exact ⟨rfl, by (repeat (first | with_reducible (first | assumption | exact Below.refl _ _ | refine bel_alloc ?_ _ | refine bel_drew ?_ | refine bel_drewN ?_ _ | refine bel_set ?_ (by first | omega | (simp; done) | (simp; omega)) _ | refine bel_trans ?_ (by assumption)) | assumption | refine bel_trans ?_ (by assumption)))⟩
end Go.Proofs.Ytblmifbpoopbdaa
