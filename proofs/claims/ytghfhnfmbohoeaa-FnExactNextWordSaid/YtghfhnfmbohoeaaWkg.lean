/- Walks of exact laws on what is known: each law's Go text returns true, and writes nothing that was there. -/
import Derived.Test.YtghfhnfmbohoeaaWkv
import Derived.Test.YtghfhnfmbohoeaaKg
namespace Go.Proofs.Ytghfhnfmbohoeaa
open Go.ChangeShapes Go.WideShapes Go.ChangeAt Go.RowKit Go.Joins
set_option linter.unusedVariables false

theorem walk_FnExactNextWord (k : Kn) (A : Option Addr) (cap : Nat) (w : World) (hp : PsAt w w.heap.size A cap k.ps) (hin : k.In) :
    Calls Try.prog 5 #[.agg #[.int .i64 k.o, .int .i64 k.l, .int .i64 k.m, .slice A k.ps.length cap, .int .i64 k.base, .int .i64 k.last]] w fun e w' => e = .returned (.bool true) ∧ Below w.heap.size w w' := by
  by_cases hn : k.ps.length ≤ 1048576
  · have hw := hin.wf hn
    obtain ⟨n, HS, HI⟩ : ∃ (n : Int), (∀ (A : Option Addr) (cap L : Nat) (w : World), PsAt w L A cap k.ps → L ≤ w.heap.size → Calls Try.prog 32 #[.agg #[.int .i64 k.o, .int .i64 k.l, .int .i64 k.m, .slice A k.ps.length cap, .int .i64 k.base, .int .i64 k.last]] w fun e w' => e = .returned (.int .i64 n) ∧ Below w.heap.size w w') ∧ (∀ (A : Option Addr) (cap L : Nat) (w : World), PsAt w L A cap k.ps → L ≤ w.heap.size → Calls Try.prog 33 #[.agg #[.int .i64 k.o, .int .i64 k.l, .int .i64 k.m, .slice A k.ps.length cap, .int .i64 k.base, .int .i64 k.last]] w fun e w' => e = .returned (.int .i64 n) ∧ Below w.heap.size w w') := by
      by_cases hk : k.Ok
      · exact ⟨k.next, fun A cap L w h hL => c_sNextWord_yes k A cap L w h hL hk hw, fun A cap L w h hL => c_NextWord_yes k A cap L w h hL hk hw⟩
      · exact ⟨-1, fun A cap L w h hL => c_sNextWord_no k A cap L w h hL hk hw, fun A cap L w h hL => c_NextWord_no k A cap L w h hL hk hw⟩
    have HP := hid hp
    have HS := hid HS
    have HI := hid HI
    clear hp hin hw
    have kN0 := Blk.new w 26 #[.int .i64 k.o, .int .i64 k.l, .int .i64 k.m, .slice A k.ps.length cap, .int .i64 k.base, .int .i64 k.last]
    go_enter Try.func5, Try.ntmps5
    go_wp2_with fail
    refine (c_szKnown k A cap _ hn).mono ?_
    rintro e w1 ⟨rfl, hb1⟩
    have hc1 := bcell hb1
    have hz1_0 : w.heap.size < w1.heap.size := (by have := hb1.size; first | omega | (simp at this; omega))
    have kN1 := kN0.on hb1
    have hB1 : Below w.heap.size w w1 := by (repeat (first | with_reducible assumption | with_reducible exact Below.refl _ _ | with_reducible refine bel_alloc ?_ _ | with_reducible refine bel_drew ?_ | with_reducible refine bel_drewN ?_ _ | with_reducible refine bel_set ?_ (by first | omega | (simp; done) | (simp; omega)) _ | with_reducible refine bel_trans ?_ (by with_reducible assumption) | exact Below.refl _ _ | assumption | refine bel_alloc ?_ _ | refine bel_drew ?_ | refine bel_drewN ?_ _ | refine bel_set ?_ (by first | omega | (simp; done) | (simp; omega)) _ | refine bel_trans ?_ (by assumption)))
    clear hb1 hc1
    obtain ⟨p0, p1, p2, p3, p4, p5⟩ := kN1.cells6
    go_wp2_with fail
    refine (c_toKnown k A cap w.heap.size _ (HP.out.below hB1 (Nat.le_refl _)) (by omega) hn).mono ?_
    rintro e w2 ⟨g2, rfl, hown2, hb2⟩
    go_wp2_with fail
    refine (HS.out _ _ _ _ (own_at hown2) (Nat.le_refl _)).mono ?_
    rintro e w3 ⟨rfl, hb3⟩
    have kN3 := (kN1.on hb2).on hb3
    have hB3 : Below w.heap.size w w3 := by (repeat (first | with_reducible assumption | with_reducible exact Below.refl _ _ | with_reducible refine bel_alloc ?_ _ | with_reducible refine bel_drew ?_ | with_reducible refine bel_drewN ?_ _ | with_reducible refine bel_set ?_ (by first | omega | (simp; done) | (simp; omega)) _ | with_reducible refine bel_trans ?_ (by with_reducible assumption) | exact Below.refl _ _ | assumption | refine bel_alloc ?_ _ | refine bel_drew ?_ | refine bel_drewN ?_ _ | refine bel_set ?_ (by first | omega | (simp; done) | (simp; omega)) _ | refine bel_trans ?_ (by assumption)))
    have hz3 : w.heap.size < w3.heap.size := kN3.lt
    clear hb2 hb3 hown2 p0 p1 p2 p3 p4 p5
    obtain ⟨p0, p1, p2, p3, p4, p5⟩ := kN3.cells6
    go_wp2_with fail
    refine (c_toKnown k A cap w.heap.size _ (HP.out.below hB3 (Nat.le_refl _)) (by omega) hn).mono ?_
    rintro e w4 ⟨g4, rfl, hown4, hb4⟩
    have kN4 := kN3.on hb4
    have hB4 : Below w.heap.size w w4 := by (repeat (first | with_reducible assumption | with_reducible exact Below.refl _ _ | with_reducible refine bel_alloc ?_ _ | with_reducible refine bel_drew ?_ | with_reducible refine bel_drewN ?_ _ | with_reducible refine bel_set ?_ (by first | omega | (simp; done) | (simp; omega)) _ | with_reducible refine bel_trans ?_ (by with_reducible assumption) | exact Below.refl _ _ | assumption | refine bel_alloc ?_ _ | refine bel_drew ?_ | refine bel_drewN ?_ _ | refine bel_set ?_ (by first | omega | (simp; done) | (simp; omega)) _ | refine bel_trans ?_ (by assumption)))
    have hz4 : w.heap.size < w4.heap.size := kN4.lt
    have kX4 := Blk.new w4 32 #[.int .i64 k.o, .int .i64 k.l, .int .i64 k.m, .slice (some ⟨g4, 0, none⟩) k.ps.length k.ps.length, .int .i64 k.base, .int .i64 k.last]
    clear hb4 p0 p1 p2 p3 p4 p5
    go_wp2_with fail
    refine (HI.out _ _ _ _ ((own_at hown4).alloc (Nat.le_refl _) _) (by simp)).mono ?_
    rintro e w5 ⟨rfl, hb5⟩
    have kN5 := (kN4.alloc (.cells #[.int .i64 k.o, .int .i64 k.l, .int .i64 k.m, .slice (some ⟨g4, 0, none⟩) k.ps.length k.ps.length, .int .i64 k.base, .int .i64 k.last] 32)).on hb5
    have kX5 := kX4.on hb5
    have hB5 : Below w4.heap.size w4 w5 := by (repeat (first | with_reducible assumption | with_reducible exact Below.refl _ _ | with_reducible refine bel_alloc ?_ _ | with_reducible refine bel_drew ?_ | with_reducible refine bel_drewN ?_ _ | with_reducible refine bel_set ?_ (by first | omega | (simp; done) | (simp; omega)) _ | with_reducible refine bel_trans ?_ (by with_reducible assumption) | exact Below.refl _ _ | assumption | refine bel_alloc ?_ _ | refine bel_drew ?_ | refine bel_drewN ?_ _ | refine bel_set ?_ (by first | omega | (simp; done) | (simp; omega)) _ | refine bel_trans ?_ (by assumption)))
    clear hb5
    go_wp2_with fail
    have hS := held12 kN5.cells6 kX5.cells6 hB5
    clear kN0 kN1 kN3 kN4 kX4 kN5 kX5
    refine wp_region_noPanic ?_
    refine wp_region_held_drew (S := (fun v => v.cell? ⟨w.heap.size, 0, none⟩ = some (.int .i64 k.o) ∧ v.cell? ⟨w.heap.size, 1, none⟩ = some (.int .i64 k.l) ∧ v.cell? ⟨w.heap.size, 2, none⟩ = some (.int .i64 k.m) ∧ v.cell? ⟨w.heap.size, 3, none⟩ = some (.slice A k.ps.length cap) ∧ v.cell? ⟨w.heap.size, 4, none⟩ = some (.int .i64 k.base) ∧ v.cell? ⟨w.heap.size, 5, none⟩ = some (.int .i64 k.last) ∧ v.cell? ⟨w4.heap.size, 0, none⟩ = some (.int .i64 k.o) ∧ v.cell? ⟨w4.heap.size, 1, none⟩ = some (.int .i64 k.l) ∧ v.cell? ⟨w4.heap.size, 2, none⟩ = some (.int .i64 k.m) ∧ v.cell? ⟨w4.heap.size, 3, none⟩ = some (.slice (some ⟨g4, 0, none⟩) k.ps.length k.ps.length) ∧ v.cell? ⟨w4.heap.size, 4, none⟩ = some (.int .i64 k.base) ∧ v.cell? ⟨w4.heap.size, 5, none⟩ = some (.int .i64 k.last) ∧ Below w4.heap.size w4 v)) (by kernel_rfl) (s12_drew hS) (fun hHeld => ?_)
    refine wpAnyH_take (i := 0) (oi := ?or1_0) (v := ?vr1_0) ?ir1_0 (by kernel_rfl) (by kernel_rfl) (by kernel_rfl) (fun _ _ _ h => h) ?yr1_0 (by assumption) ?wr1_0
    case ir1_0 => (simp only [List.getElem?_toArray, List.getElem?_cons_zero]; rfl)
    case yr1_0 => exact Or.inl ⟨by rfl, by intro v hSw; (try dsimp only at hSw); go_simp; try with_reducible rfl⟩
    try simp only [Act.put, List.setIfInBounds_toArray, List.set_cons_zero, List.set_cons_succ]
    refine wpAnyH_take (i := 1) (oi := ?or1_1) (v := ?vr1_1) ?ir1_1 (by kernel_rfl) (by kernel_rfl) (by kernel_rfl) (fun _ _ _ h => h) ?yr1_1 (by assumption) ?wr1_1
    case ir1_1 => (simp only [List.getElem?_toArray, List.getElem?_cons_succ, List.getElem?_cons_zero]; rfl)
    case yr1_1 => exact Or.inl ⟨by rfl, by intro v hSw; (try dsimp only at hSw); go_simp; try with_reducible rfl⟩
    try simp only [Act.put, List.setIfInBounds_toArray, List.set_cons_zero, List.set_cons_succ]
    refine wpAnyH_ready (rs := [2]) (by kernel_rfl) (by simp) ?_
    refine AllReadyH.cons (o := ?or1_2) ?ir1_2 (fun K hK => ?sr1_2) AllReadyH.nil
    case ir1_2 => (simp only [List.getElem?_toArray, List.getElem?_cons_succ, List.getElem?_cons_zero]; rfl)
    go_simp
    (first | (go_at_call 24; refine (c_toKnown k A cap w.heap.size _ (HP.out.below (bel_trans hB4 hHeld.2.2.2.2.2.2.2.2.2.2.2.2) (Nat.le_refl _)) (bel_trans hB4 hHeld.2.2.2.2.2.2.2.2.2.2.2.2).size hn).mono ?_; rintro e w6 ⟨g6, rfl, hown6, hb6⟩) | (go_at_call 26; refine (c_eqKnown k _ _ _ _ w4.heap.size _ _ ((own_at hown4).below hHeld.2.2.2.2.2.2.2.2.2.2.2.2 (Nat.le_refl _)) (own_at hown6) (hHeld.2.2.2.2.2.2.2.2.2.2.2.2).size (Nat.le_refl _) hn).mono ?_; rintro e w7 ⟨rfl, hb7⟩) | skip)
    refine hK.out _ _ ?kr1_2 (fun hHeld => ?_)
    case kr1_2 => (try dsimp only); (first | with_reducible assumption | exact s12_bel (by assumption) (by assumption) | assumption | exact s12_alloc (by assumption) _)
    clear hK K
    try simp only [Act.put, List.setIfInBounds_toArray, List.set_cons_zero, List.set_cons_succ]
    refine wpAnyH_ready (rs := [3]) (by kernel_rfl) (by simp) ?_
    refine AllReadyH.cons (o := ?or1_3) ?ir1_3 (fun K hK => ?sr1_3) AllReadyH.nil
    case ir1_3 => (simp only [List.getElem?_toArray, List.getElem?_cons_succ, List.getElem?_cons_zero]; rfl)
    go_simp
    (first | (go_at_call 24; refine (c_toKnown k A cap w.heap.size _ (HP.out.below (bel_trans hB4 hHeld.2.2.2.2.2.2.2.2.2.2.2.2) (Nat.le_refl _)) (bel_trans hB4 hHeld.2.2.2.2.2.2.2.2.2.2.2.2).size hn).mono ?_; rintro e w6 ⟨g6, rfl, hown6, hb6⟩) | (go_at_call 26; refine (c_eqKnown k _ _ _ _ w4.heap.size _ _ ((own_at hown4).below hHeld.2.2.2.2.2.2.2.2.2.2.2.2 (Nat.le_refl _)) (own_at hown6) (hHeld.2.2.2.2.2.2.2.2.2.2.2.2).size (Nat.le_refl _) hn).mono ?_; rintro e w7 ⟨rfl, hb7⟩) | skip)
    refine hK.out _ _ ?kr1_3 (fun hHeld => ?_)
    case kr1_3 => (try dsimp only); (first | with_reducible assumption | exact s12_bel (by assumption) (by assumption) | assumption | exact s12_alloc (by assumption) _)
    clear hK K
    try simp only [Act.put, List.setIfInBounds_toArray, List.set_cons_zero, List.set_cons_succ]
    refine wpAnyH_take (i := 4) (oi := ?or1_4) (v := ?vr1_4) ?ir1_4 (by kernel_rfl) (by kernel_rfl) (by kernel_rfl) (fun _ _ _ h => h) ?yr1_4 (by assumption) ?wr1_4
    case ir1_4 => (simp only [List.getElem?_toArray, List.getElem?_cons_succ, List.getElem?_cons_zero]; rfl)
    case yr1_4 => exact Or.inl ⟨by rfl, by intro v hSw; (try dsimp only at hSw); go_simp; try with_reducible rfl⟩
    try simp only [Act.put, List.setIfInBounds_toArray, List.set_cons_zero, List.set_cons_succ]
    refine wpAnyH_done (by kernel_rfl) ?_ _
    refine NoPanic.normal ?_
    go_wp2
    go_ret
    exact ⟨rfl, by (repeat (first | with_reducible assumption | with_reducible exact Below.refl _ _ | with_reducible refine bel_alloc ?_ _ | with_reducible refine bel_drew ?_ | with_reducible refine bel_drewN ?_ _ | with_reducible refine bel_set ?_ (by first | omega | (simp; done) | (simp; omega)) _ | with_reducible refine bel_trans ?_ (by with_reducible assumption) | exact Below.refl _ _ | assumption | refine bel_alloc ?_ _ | refine bel_drew ?_ | refine bel_drewN ?_ _ | refine bel_set ?_ (by first | omega | (simp; done) | (simp; omega)) _ | refine bel_trans ?_ (by assumption)))⟩
  · have hb := hp.1
    have hcm := hp.2.1
    go_enter Try.func5, Try.ntmps5
    go_wp2_with fail
    refine (c_szKnown_big k A cap _ (by omega) (by omega)).mono ?_
    rintro e w1 ⟨rfl, hb1⟩
    have hc1 := bcell hb1
    have hz1_0 : w.heap.size < w1.heap.size := (by have := hb1.size; first | omega | (simp at this; omega))
    go_wp2
    go_ret
    exact ⟨rfl, by (repeat (first | with_reducible assumption | with_reducible exact Below.refl _ _ | with_reducible refine bel_alloc ?_ _ | with_reducible refine bel_drew ?_ | with_reducible refine bel_drewN ?_ _ | with_reducible refine bel_set ?_ (by first | omega | (simp; done) | (simp; omega)) _ | with_reducible refine bel_trans ?_ (by with_reducible assumption) | exact Below.refl _ _ | assumption | refine bel_alloc ?_ _ | refine bel_drew ?_ | refine bel_drewN ?_ _ | refine bel_set ?_ (by first | omega | (simp; done) | (simp; omega)) _ | refine bel_trans ?_ (by assumption)))⟩

theorem walk_FnExactGrows (k : Kn) (A : Option Addr) (cap : Nat) (w : World) (hp : PsAt w w.heap.size A cap k.ps) (hin : k.In) :
    Calls Try.prog 6 #[.agg #[.int .i64 k.o, .int .i64 k.l, .int .i64 k.m, .slice A k.ps.length cap, .int .i64 k.base, .int .i64 k.last]] w fun e w' => e = .returned (.bool true) ∧ Below w.heap.size w w' := by
  by_cases hn : k.ps.length ≤ 1048576
  · have hw := hin.wf hn
    obtain ⟨n, HS, HI⟩ : ∃ (n : Bool), (∀ (A : Option Addr) (cap L : Nat) (w : World), PsAt w L A cap k.ps → L ≤ w.heap.size → Calls Try.prog 34 #[.agg #[.int .i64 k.o, .int .i64 k.l, .int .i64 k.m, .slice A k.ps.length cap, .int .i64 k.base, .int .i64 k.last]] w fun e w' => e = .returned (.bool n) ∧ Below w.heap.size w w') ∧ (∀ (A : Option Addr) (cap L : Nat) (w : World), PsAt w L A cap k.ps → L ≤ w.heap.size → Calls Try.prog 35 #[.agg #[.int .i64 k.o, .int .i64 k.l, .int .i64 k.m, .slice A k.ps.length cap, .int .i64 k.base, .int .i64 k.last]] w fun e w' => e = .returned (.bool n) ∧ Below w.heap.size w w') := by
      by_cases hk : k.Ok
      · exact ⟨k.grows, fun A cap L w h hL => c_sGrows_yes k A cap L w h hL hk hw, fun A cap L w h hL => c_Grows_yes k A cap L w h hL hk hw⟩
      · exact ⟨false, fun A cap L w h hL => c_sGrows_no k A cap L w h hL hk hw, fun A cap L w h hL => c_Grows_no k A cap L w h hL hk hw⟩
    have HP := hid hp
    have HS := hid HS
    have HI := hid HI
    clear hp hin hw
    have kN0 := Blk.new w 26 #[.int .i64 k.o, .int .i64 k.l, .int .i64 k.m, .slice A k.ps.length cap, .int .i64 k.base, .int .i64 k.last]
    go_enter Try.func6, Try.ntmps6
    go_wp2_with fail
    refine (c_szKnown k A cap _ hn).mono ?_
    rintro e w1 ⟨rfl, hb1⟩
    have hc1 := bcell hb1
    have hz1_0 : w.heap.size < w1.heap.size := (by have := hb1.size; first | omega | (simp at this; omega))
    have kN1 := kN0.on hb1
    have hB1 : Below w.heap.size w w1 := by (repeat (first | with_reducible assumption | with_reducible exact Below.refl _ _ | with_reducible refine bel_alloc ?_ _ | with_reducible refine bel_drew ?_ | with_reducible refine bel_drewN ?_ _ | with_reducible refine bel_set ?_ (by first | omega | (simp; done) | (simp; omega)) _ | with_reducible refine bel_trans ?_ (by with_reducible assumption) | exact Below.refl _ _ | assumption | refine bel_alloc ?_ _ | refine bel_drew ?_ | refine bel_drewN ?_ _ | refine bel_set ?_ (by first | omega | (simp; done) | (simp; omega)) _ | refine bel_trans ?_ (by assumption)))
    clear hb1 hc1
    obtain ⟨p0, p1, p2, p3, p4, p5⟩ := kN1.cells6
    go_wp2_with fail
    refine (c_toKnown k A cap w.heap.size _ (HP.out.below hB1 (Nat.le_refl _)) (by omega) hn).mono ?_
    rintro e w2 ⟨g2, rfl, hown2, hb2⟩
    go_wp2_with fail
    refine (HS.out _ _ _ _ (own_at hown2) (Nat.le_refl _)).mono ?_
    rintro e w3 ⟨rfl, hb3⟩
    have kN3 := (kN1.on hb2).on hb3
    have hB3 : Below w.heap.size w w3 := by (repeat (first | with_reducible assumption | with_reducible exact Below.refl _ _ | with_reducible refine bel_alloc ?_ _ | with_reducible refine bel_drew ?_ | with_reducible refine bel_drewN ?_ _ | with_reducible refine bel_set ?_ (by first | omega | (simp; done) | (simp; omega)) _ | with_reducible refine bel_trans ?_ (by with_reducible assumption) | exact Below.refl _ _ | assumption | refine bel_alloc ?_ _ | refine bel_drew ?_ | refine bel_drewN ?_ _ | refine bel_set ?_ (by first | omega | (simp; done) | (simp; omega)) _ | refine bel_trans ?_ (by assumption)))
    have hz3 : w.heap.size < w3.heap.size := kN3.lt
    clear hb2 hb3 hown2 p0 p1 p2 p3 p4 p5
    obtain ⟨p0, p1, p2, p3, p4, p5⟩ := kN3.cells6
    go_wp2_with fail
    refine (c_toKnown k A cap w.heap.size _ (HP.out.below hB3 (Nat.le_refl _)) (by omega) hn).mono ?_
    rintro e w4 ⟨g4, rfl, hown4, hb4⟩
    have kN4 := kN3.on hb4
    have hB4 : Below w.heap.size w w4 := by (repeat (first | with_reducible assumption | with_reducible exact Below.refl _ _ | with_reducible refine bel_alloc ?_ _ | with_reducible refine bel_drew ?_ | with_reducible refine bel_drewN ?_ _ | with_reducible refine bel_set ?_ (by first | omega | (simp; done) | (simp; omega)) _ | with_reducible refine bel_trans ?_ (by with_reducible assumption) | exact Below.refl _ _ | assumption | refine bel_alloc ?_ _ | refine bel_drew ?_ | refine bel_drewN ?_ _ | refine bel_set ?_ (by first | omega | (simp; done) | (simp; omega)) _ | refine bel_trans ?_ (by assumption)))
    have hz4 : w.heap.size < w4.heap.size := kN4.lt
    have kX4 := Blk.new w4 32 #[.int .i64 k.o, .int .i64 k.l, .int .i64 k.m, .slice (some ⟨g4, 0, none⟩) k.ps.length k.ps.length, .int .i64 k.base, .int .i64 k.last]
    clear hb4 p0 p1 p2 p3 p4 p5
    go_wp2_with fail
    refine (HI.out _ _ _ _ ((own_at hown4).alloc (Nat.le_refl _) _) (by simp)).mono ?_
    rintro e w5 ⟨rfl, hb5⟩
    have kN5 := (kN4.alloc (.cells #[.int .i64 k.o, .int .i64 k.l, .int .i64 k.m, .slice (some ⟨g4, 0, none⟩) k.ps.length k.ps.length, .int .i64 k.base, .int .i64 k.last] 32)).on hb5
    have kX5 := kX4.on hb5
    have hB5 : Below w4.heap.size w4 w5 := by (repeat (first | with_reducible assumption | with_reducible exact Below.refl _ _ | with_reducible refine bel_alloc ?_ _ | with_reducible refine bel_drew ?_ | with_reducible refine bel_drewN ?_ _ | with_reducible refine bel_set ?_ (by first | omega | (simp; done) | (simp; omega)) _ | with_reducible refine bel_trans ?_ (by with_reducible assumption) | exact Below.refl _ _ | assumption | refine bel_alloc ?_ _ | refine bel_drew ?_ | refine bel_drewN ?_ _ | refine bel_set ?_ (by first | omega | (simp; done) | (simp; omega)) _ | refine bel_trans ?_ (by assumption)))
    clear hb5
    go_wp2_with fail
    have hS := held12 kN5.cells6 kX5.cells6 hB5
    clear kN0 kN1 kN3 kN4 kX4 kN5 kX5
    refine wp_region_noPanic ?_
    refine wp_region_held_drew (S := (fun v => v.cell? ⟨w.heap.size, 0, none⟩ = some (.int .i64 k.o) ∧ v.cell? ⟨w.heap.size, 1, none⟩ = some (.int .i64 k.l) ∧ v.cell? ⟨w.heap.size, 2, none⟩ = some (.int .i64 k.m) ∧ v.cell? ⟨w.heap.size, 3, none⟩ = some (.slice A k.ps.length cap) ∧ v.cell? ⟨w.heap.size, 4, none⟩ = some (.int .i64 k.base) ∧ v.cell? ⟨w.heap.size, 5, none⟩ = some (.int .i64 k.last) ∧ v.cell? ⟨w4.heap.size, 0, none⟩ = some (.int .i64 k.o) ∧ v.cell? ⟨w4.heap.size, 1, none⟩ = some (.int .i64 k.l) ∧ v.cell? ⟨w4.heap.size, 2, none⟩ = some (.int .i64 k.m) ∧ v.cell? ⟨w4.heap.size, 3, none⟩ = some (.slice (some ⟨g4, 0, none⟩) k.ps.length k.ps.length) ∧ v.cell? ⟨w4.heap.size, 4, none⟩ = some (.int .i64 k.base) ∧ v.cell? ⟨w4.heap.size, 5, none⟩ = some (.int .i64 k.last) ∧ Below w4.heap.size w4 v)) (by kernel_rfl) (s12_drew hS) (fun hHeld => ?_)
    refine wpAnyH_take (i := 0) (oi := ?or2_0) (v := ?vr2_0) ?ir2_0 (by kernel_rfl) (by kernel_rfl) (by kernel_rfl) (fun _ _ _ h => h) ?yr2_0 (by assumption) ?wr2_0
    case ir2_0 => (simp only [List.getElem?_toArray, List.getElem?_cons_zero]; rfl)
    case yr2_0 => exact Or.inl ⟨by rfl, by intro v hSw; (try dsimp only at hSw); go_simp; try with_reducible rfl⟩
    try simp only [Act.put, List.setIfInBounds_toArray, List.set_cons_zero, List.set_cons_succ]
    refine wpAnyH_take (i := 1) (oi := ?or2_1) (v := ?vr2_1) ?ir2_1 (by kernel_rfl) (by kernel_rfl) (by kernel_rfl) (fun _ _ _ h => h) ?yr2_1 (by assumption) ?wr2_1
    case ir2_1 => (simp only [List.getElem?_toArray, List.getElem?_cons_succ, List.getElem?_cons_zero]; rfl)
    case yr2_1 => exact Or.inl ⟨by rfl, by intro v hSw; (try dsimp only at hSw); go_simp; try with_reducible rfl⟩
    try simp only [Act.put, List.setIfInBounds_toArray, List.set_cons_zero, List.set_cons_succ]
    refine wpAnyH_ready (rs := [2]) (by kernel_rfl) (by simp) ?_
    refine AllReadyH.cons (o := ?or2_2) ?ir2_2 (fun K hK => ?sr2_2) AllReadyH.nil
    case ir2_2 => (simp only [List.getElem?_toArray, List.getElem?_cons_succ, List.getElem?_cons_zero]; rfl)
    go_simp
    (first | (go_at_call 24; refine (c_toKnown k A cap w.heap.size _ (HP.out.below (bel_trans hB4 hHeld.2.2.2.2.2.2.2.2.2.2.2.2) (Nat.le_refl _)) (bel_trans hB4 hHeld.2.2.2.2.2.2.2.2.2.2.2.2).size hn).mono ?_; rintro e w6 ⟨g6, rfl, hown6, hb6⟩) | (go_at_call 26; refine (c_eqKnown k _ _ _ _ w4.heap.size _ _ ((own_at hown4).below hHeld.2.2.2.2.2.2.2.2.2.2.2.2 (Nat.le_refl _)) (own_at hown6) (hHeld.2.2.2.2.2.2.2.2.2.2.2.2).size (Nat.le_refl _) hn).mono ?_; rintro e w7 ⟨rfl, hb7⟩) | skip)
    refine hK.out _ _ ?kr2_2 (fun hHeld => ?_)
    case kr2_2 => (try dsimp only); (first | with_reducible assumption | exact s12_bel (by assumption) (by assumption) | assumption | exact s12_alloc (by assumption) _)
    clear hK K
    try simp only [Act.put, List.setIfInBounds_toArray, List.set_cons_zero, List.set_cons_succ]
    refine wpAnyH_ready (rs := [3]) (by kernel_rfl) (by simp) ?_
    refine AllReadyH.cons (o := ?or2_3) ?ir2_3 (fun K hK => ?sr2_3) AllReadyH.nil
    case ir2_3 => (simp only [List.getElem?_toArray, List.getElem?_cons_succ, List.getElem?_cons_zero]; rfl)
    go_simp
    (first | (go_at_call 24; refine (c_toKnown k A cap w.heap.size _ (HP.out.below (bel_trans hB4 hHeld.2.2.2.2.2.2.2.2.2.2.2.2) (Nat.le_refl _)) (bel_trans hB4 hHeld.2.2.2.2.2.2.2.2.2.2.2.2).size hn).mono ?_; rintro e w6 ⟨g6, rfl, hown6, hb6⟩) | (go_at_call 26; refine (c_eqKnown k _ _ _ _ w4.heap.size _ _ ((own_at hown4).below hHeld.2.2.2.2.2.2.2.2.2.2.2.2 (Nat.le_refl _)) (own_at hown6) (hHeld.2.2.2.2.2.2.2.2.2.2.2.2).size (Nat.le_refl _) hn).mono ?_; rintro e w7 ⟨rfl, hb7⟩) | skip)
    refine hK.out _ _ ?kr2_3 (fun hHeld => ?_)
    case kr2_3 => (try dsimp only); (first | with_reducible assumption | exact s12_bel (by assumption) (by assumption) | assumption | exact s12_alloc (by assumption) _)
    clear hK K
    try simp only [Act.put, List.setIfInBounds_toArray, List.set_cons_zero, List.set_cons_succ]
    refine wpAnyH_take (i := 4) (oi := ?or2_4) (v := ?vr2_4) ?ir2_4 (by kernel_rfl) (by kernel_rfl) (by kernel_rfl) (fun _ _ _ h => h) ?yr2_4 (by assumption) ?wr2_4
    case ir2_4 => (simp only [List.getElem?_toArray, List.getElem?_cons_succ, List.getElem?_cons_zero]; rfl)
    case yr2_4 => exact Or.inl ⟨by rfl, by intro v hSw; (try dsimp only at hSw); go_simp; try with_reducible rfl⟩
    try simp only [Act.put, List.setIfInBounds_toArray, List.set_cons_zero, List.set_cons_succ]
    refine wpAnyH_done (by kernel_rfl) ?_ _
    refine NoPanic.normal ?_
    go_wp2
    go_ret
    exact ⟨rfl, by (repeat (first | with_reducible assumption | with_reducible exact Below.refl _ _ | with_reducible refine bel_alloc ?_ _ | with_reducible refine bel_drew ?_ | with_reducible refine bel_drewN ?_ _ | with_reducible refine bel_set ?_ (by first | omega | (simp; done) | (simp; omega)) _ | with_reducible refine bel_trans ?_ (by with_reducible assumption) | exact Below.refl _ _ | assumption | refine bel_alloc ?_ _ | refine bel_drew ?_ | refine bel_drewN ?_ _ | refine bel_set ?_ (by first | omega | (simp; done) | (simp; omega)) _ | refine bel_trans ?_ (by assumption)))⟩
  · have hb := hp.1
    have hcm := hp.2.1
    go_enter Try.func6, Try.ntmps6
    go_wp2_with fail
    refine (c_szKnown_big k A cap _ (by omega) (by omega)).mono ?_
    rintro e w1 ⟨rfl, hb1⟩
    have hc1 := bcell hb1
    have hz1_0 : w.heap.size < w1.heap.size := (by have := hb1.size; first | omega | (simp at this; omega))
    go_wp2
    go_ret
    exact ⟨rfl, by (repeat (first | with_reducible assumption | with_reducible exact Below.refl _ _ | with_reducible refine bel_alloc ?_ _ | with_reducible refine bel_drew ?_ | with_reducible refine bel_drewN ?_ _ | with_reducible refine bel_set ?_ (by first | omega | (simp; done) | (simp; omega)) _ | with_reducible refine bel_trans ?_ (by with_reducible assumption) | exact Below.refl _ _ | assumption | refine bel_alloc ?_ _ | refine bel_drew ?_ | refine bel_drewN ?_ _ | refine bel_set ?_ (by first | omega | (simp; done) | (simp; omega)) _ | refine bel_trans ?_ (by assumption)))⟩

theorem walk_FnExactGreatest (k : Kn) (A : Option Addr) (cap : Nat) (w : World) (hp : PsAt w w.heap.size A cap k.ps) (hin : k.In) :
    Calls Try.prog 7 #[.agg #[.int .i64 k.o, .int .i64 k.l, .int .i64 k.m, .slice A k.ps.length cap, .int .i64 k.base, .int .i64 k.last]] w fun e w' => e = .returned (.bool true) ∧ Below w.heap.size w w' := by
  by_cases hn : k.ps.length ≤ 1048576
  · have hw := hin.wf hn
    obtain ⟨n, HS, HI⟩ : ∃ (n : Int), (∀ (A : Option Addr) (cap L : Nat) (w : World), PsAt w L A cap k.ps → L ≤ w.heap.size → Calls Try.prog 36 #[.agg #[.int .i64 k.o, .int .i64 k.l, .int .i64 k.m, .slice A k.ps.length cap, .int .i64 k.base, .int .i64 k.last]] w fun e w' => e = .returned (.int .i64 n) ∧ Below w.heap.size w w') ∧ (∀ (A : Option Addr) (cap L : Nat) (w : World), PsAt w L A cap k.ps → L ≤ w.heap.size → Calls Try.prog 37 #[.agg #[.int .i64 k.o, .int .i64 k.l, .int .i64 k.m, .slice A k.ps.length cap, .int .i64 k.base, .int .i64 k.last]] w fun e w' => e = .returned (.int .i64 n) ∧ Below w.heap.size w w') := by
      by_cases hk : k.Ok
      · exact ⟨k.great, fun A cap L w h hL => c_sGreatest_yes k A cap L w h hL hk hw, fun A cap L w h hL => c_Greatest_yes k A cap L w h hL hk hw⟩
      · exact ⟨-1, fun A cap L w h hL => c_sGreatest_no k A cap L w h hL hk hw, fun A cap L w h hL => c_Greatest_no k A cap L w h hL hk hw⟩
    have HP := hid hp
    have HS := hid HS
    have HI := hid HI
    clear hp hin hw
    have kN0 := Blk.new w 26 #[.int .i64 k.o, .int .i64 k.l, .int .i64 k.m, .slice A k.ps.length cap, .int .i64 k.base, .int .i64 k.last]
    go_enter Try.func7, Try.ntmps7
    go_wp2_with fail
    refine (c_szKnown k A cap _ hn).mono ?_
    rintro e w1 ⟨rfl, hb1⟩
    have hc1 := bcell hb1
    have hz1_0 : w.heap.size < w1.heap.size := (by have := hb1.size; first | omega | (simp at this; omega))
    have kN1 := kN0.on hb1
    have hB1 : Below w.heap.size w w1 := by (repeat (first | with_reducible assumption | with_reducible exact Below.refl _ _ | with_reducible refine bel_alloc ?_ _ | with_reducible refine bel_drew ?_ | with_reducible refine bel_drewN ?_ _ | with_reducible refine bel_set ?_ (by first | omega | (simp; done) | (simp; omega)) _ | with_reducible refine bel_trans ?_ (by with_reducible assumption) | exact Below.refl _ _ | assumption | refine bel_alloc ?_ _ | refine bel_drew ?_ | refine bel_drewN ?_ _ | refine bel_set ?_ (by first | omega | (simp; done) | (simp; omega)) _ | refine bel_trans ?_ (by assumption)))
    clear hb1 hc1
    obtain ⟨p0, p1, p2, p3, p4, p5⟩ := kN1.cells6
    go_wp2_with fail
    refine (c_toKnown k A cap w.heap.size _ (HP.out.below hB1 (Nat.le_refl _)) (by omega) hn).mono ?_
    rintro e w2 ⟨g2, rfl, hown2, hb2⟩
    go_wp2_with fail
    refine (HS.out _ _ _ _ (own_at hown2) (Nat.le_refl _)).mono ?_
    rintro e w3 ⟨rfl, hb3⟩
    have kN3 := (kN1.on hb2).on hb3
    have hB3 : Below w.heap.size w w3 := by (repeat (first | with_reducible assumption | with_reducible exact Below.refl _ _ | with_reducible refine bel_alloc ?_ _ | with_reducible refine bel_drew ?_ | with_reducible refine bel_drewN ?_ _ | with_reducible refine bel_set ?_ (by first | omega | (simp; done) | (simp; omega)) _ | with_reducible refine bel_trans ?_ (by with_reducible assumption) | exact Below.refl _ _ | assumption | refine bel_alloc ?_ _ | refine bel_drew ?_ | refine bel_drewN ?_ _ | refine bel_set ?_ (by first | omega | (simp; done) | (simp; omega)) _ | refine bel_trans ?_ (by assumption)))
    have hz3 : w.heap.size < w3.heap.size := kN3.lt
    clear hb2 hb3 hown2 p0 p1 p2 p3 p4 p5
    obtain ⟨p0, p1, p2, p3, p4, p5⟩ := kN3.cells6
    go_wp2_with fail
    refine (c_toKnown k A cap w.heap.size _ (HP.out.below hB3 (Nat.le_refl _)) (by omega) hn).mono ?_
    rintro e w4 ⟨g4, rfl, hown4, hb4⟩
    have kN4 := kN3.on hb4
    have hB4 : Below w.heap.size w w4 := by (repeat (first | with_reducible assumption | with_reducible exact Below.refl _ _ | with_reducible refine bel_alloc ?_ _ | with_reducible refine bel_drew ?_ | with_reducible refine bel_drewN ?_ _ | with_reducible refine bel_set ?_ (by first | omega | (simp; done) | (simp; omega)) _ | with_reducible refine bel_trans ?_ (by with_reducible assumption) | exact Below.refl _ _ | assumption | refine bel_alloc ?_ _ | refine bel_drew ?_ | refine bel_drewN ?_ _ | refine bel_set ?_ (by first | omega | (simp; done) | (simp; omega)) _ | refine bel_trans ?_ (by assumption)))
    have hz4 : w.heap.size < w4.heap.size := kN4.lt
    have kX4 := Blk.new w4 32 #[.int .i64 k.o, .int .i64 k.l, .int .i64 k.m, .slice (some ⟨g4, 0, none⟩) k.ps.length k.ps.length, .int .i64 k.base, .int .i64 k.last]
    clear hb4 p0 p1 p2 p3 p4 p5
    go_wp2_with fail
    refine (HI.out _ _ _ _ ((own_at hown4).alloc (Nat.le_refl _) _) (by simp)).mono ?_
    rintro e w5 ⟨rfl, hb5⟩
    have kN5 := (kN4.alloc (.cells #[.int .i64 k.o, .int .i64 k.l, .int .i64 k.m, .slice (some ⟨g4, 0, none⟩) k.ps.length k.ps.length, .int .i64 k.base, .int .i64 k.last] 32)).on hb5
    have kX5 := kX4.on hb5
    have hB5 : Below w4.heap.size w4 w5 := by (repeat (first | with_reducible assumption | with_reducible exact Below.refl _ _ | with_reducible refine bel_alloc ?_ _ | with_reducible refine bel_drew ?_ | with_reducible refine bel_drewN ?_ _ | with_reducible refine bel_set ?_ (by first | omega | (simp; done) | (simp; omega)) _ | with_reducible refine bel_trans ?_ (by with_reducible assumption) | exact Below.refl _ _ | assumption | refine bel_alloc ?_ _ | refine bel_drew ?_ | refine bel_drewN ?_ _ | refine bel_set ?_ (by first | omega | (simp; done) | (simp; omega)) _ | refine bel_trans ?_ (by assumption)))
    clear hb5
    go_wp2_with fail
    have hS := held12 kN5.cells6 kX5.cells6 hB5
    clear kN0 kN1 kN3 kN4 kX4 kN5 kX5
    refine wp_region_noPanic ?_
    refine wp_region_held_drew (S := (fun v => v.cell? ⟨w.heap.size, 0, none⟩ = some (.int .i64 k.o) ∧ v.cell? ⟨w.heap.size, 1, none⟩ = some (.int .i64 k.l) ∧ v.cell? ⟨w.heap.size, 2, none⟩ = some (.int .i64 k.m) ∧ v.cell? ⟨w.heap.size, 3, none⟩ = some (.slice A k.ps.length cap) ∧ v.cell? ⟨w.heap.size, 4, none⟩ = some (.int .i64 k.base) ∧ v.cell? ⟨w.heap.size, 5, none⟩ = some (.int .i64 k.last) ∧ v.cell? ⟨w4.heap.size, 0, none⟩ = some (.int .i64 k.o) ∧ v.cell? ⟨w4.heap.size, 1, none⟩ = some (.int .i64 k.l) ∧ v.cell? ⟨w4.heap.size, 2, none⟩ = some (.int .i64 k.m) ∧ v.cell? ⟨w4.heap.size, 3, none⟩ = some (.slice (some ⟨g4, 0, none⟩) k.ps.length k.ps.length) ∧ v.cell? ⟨w4.heap.size, 4, none⟩ = some (.int .i64 k.base) ∧ v.cell? ⟨w4.heap.size, 5, none⟩ = some (.int .i64 k.last) ∧ Below w4.heap.size w4 v)) (by kernel_rfl) (s12_drew hS) (fun hHeld => ?_)
    refine wpAnyH_take (i := 0) (oi := ?or3_0) (v := ?vr3_0) ?ir3_0 (by kernel_rfl) (by kernel_rfl) (by kernel_rfl) (fun _ _ _ h => h) ?yr3_0 (by assumption) ?wr3_0
    case ir3_0 => (simp only [List.getElem?_toArray, List.getElem?_cons_zero]; rfl)
    case yr3_0 => exact Or.inl ⟨by rfl, by intro v hSw; (try dsimp only at hSw); go_simp; try with_reducible rfl⟩
    try simp only [Act.put, List.setIfInBounds_toArray, List.set_cons_zero, List.set_cons_succ]
    refine wpAnyH_take (i := 1) (oi := ?or3_1) (v := ?vr3_1) ?ir3_1 (by kernel_rfl) (by kernel_rfl) (by kernel_rfl) (fun _ _ _ h => h) ?yr3_1 (by assumption) ?wr3_1
    case ir3_1 => (simp only [List.getElem?_toArray, List.getElem?_cons_succ, List.getElem?_cons_zero]; rfl)
    case yr3_1 => exact Or.inl ⟨by rfl, by intro v hSw; (try dsimp only at hSw); go_simp; try with_reducible rfl⟩
    try simp only [Act.put, List.setIfInBounds_toArray, List.set_cons_zero, List.set_cons_succ]
    refine wpAnyH_ready (rs := [2]) (by kernel_rfl) (by simp) ?_
    refine AllReadyH.cons (o := ?or3_2) ?ir3_2 (fun K hK => ?sr3_2) AllReadyH.nil
    case ir3_2 => (simp only [List.getElem?_toArray, List.getElem?_cons_succ, List.getElem?_cons_zero]; rfl)
    go_simp
    (first | (go_at_call 24; refine (c_toKnown k A cap w.heap.size _ (HP.out.below (bel_trans hB4 hHeld.2.2.2.2.2.2.2.2.2.2.2.2) (Nat.le_refl _)) (bel_trans hB4 hHeld.2.2.2.2.2.2.2.2.2.2.2.2).size hn).mono ?_; rintro e w6 ⟨g6, rfl, hown6, hb6⟩) | (go_at_call 26; refine (c_eqKnown k _ _ _ _ w4.heap.size _ _ ((own_at hown4).below hHeld.2.2.2.2.2.2.2.2.2.2.2.2 (Nat.le_refl _)) (own_at hown6) (hHeld.2.2.2.2.2.2.2.2.2.2.2.2).size (Nat.le_refl _) hn).mono ?_; rintro e w7 ⟨rfl, hb7⟩) | skip)
    refine hK.out _ _ ?kr3_2 (fun hHeld => ?_)
    case kr3_2 => (try dsimp only); (first | with_reducible assumption | exact s12_bel (by assumption) (by assumption) | assumption | exact s12_alloc (by assumption) _)
    clear hK K
    try simp only [Act.put, List.setIfInBounds_toArray, List.set_cons_zero, List.set_cons_succ]
    refine wpAnyH_ready (rs := [3]) (by kernel_rfl) (by simp) ?_
    refine AllReadyH.cons (o := ?or3_3) ?ir3_3 (fun K hK => ?sr3_3) AllReadyH.nil
    case ir3_3 => (simp only [List.getElem?_toArray, List.getElem?_cons_succ, List.getElem?_cons_zero]; rfl)
    go_simp
    (first | (go_at_call 24; refine (c_toKnown k A cap w.heap.size _ (HP.out.below (bel_trans hB4 hHeld.2.2.2.2.2.2.2.2.2.2.2.2) (Nat.le_refl _)) (bel_trans hB4 hHeld.2.2.2.2.2.2.2.2.2.2.2.2).size hn).mono ?_; rintro e w6 ⟨g6, rfl, hown6, hb6⟩) | (go_at_call 26; refine (c_eqKnown k _ _ _ _ w4.heap.size _ _ ((own_at hown4).below hHeld.2.2.2.2.2.2.2.2.2.2.2.2 (Nat.le_refl _)) (own_at hown6) (hHeld.2.2.2.2.2.2.2.2.2.2.2.2).size (Nat.le_refl _) hn).mono ?_; rintro e w7 ⟨rfl, hb7⟩) | skip)
    refine hK.out _ _ ?kr3_3 (fun hHeld => ?_)
    case kr3_3 => (try dsimp only); (first | with_reducible assumption | exact s12_bel (by assumption) (by assumption) | assumption | exact s12_alloc (by assumption) _)
    clear hK K
    try simp only [Act.put, List.setIfInBounds_toArray, List.set_cons_zero, List.set_cons_succ]
    refine wpAnyH_take (i := 4) (oi := ?or3_4) (v := ?vr3_4) ?ir3_4 (by kernel_rfl) (by kernel_rfl) (by kernel_rfl) (fun _ _ _ h => h) ?yr3_4 (by assumption) ?wr3_4
    case ir3_4 => (simp only [List.getElem?_toArray, List.getElem?_cons_succ, List.getElem?_cons_zero]; rfl)
    case yr3_4 => exact Or.inl ⟨by rfl, by intro v hSw; (try dsimp only at hSw); go_simp; try with_reducible rfl⟩
    try simp only [Act.put, List.setIfInBounds_toArray, List.set_cons_zero, List.set_cons_succ]
    refine wpAnyH_done (by kernel_rfl) ?_ _
    refine NoPanic.normal ?_
    go_wp2
    go_ret
    exact ⟨rfl, by (repeat (first | with_reducible assumption | with_reducible exact Below.refl _ _ | with_reducible refine bel_alloc ?_ _ | with_reducible refine bel_drew ?_ | with_reducible refine bel_drewN ?_ _ | with_reducible refine bel_set ?_ (by first | omega | (simp; done) | (simp; omega)) _ | with_reducible refine bel_trans ?_ (by with_reducible assumption) | exact Below.refl _ _ | assumption | refine bel_alloc ?_ _ | refine bel_drew ?_ | refine bel_drewN ?_ _ | refine bel_set ?_ (by first | omega | (simp; done) | (simp; omega)) _ | refine bel_trans ?_ (by assumption)))⟩
  · have hb := hp.1
    have hcm := hp.2.1
    go_enter Try.func7, Try.ntmps7
    go_wp2_with fail
    refine (c_szKnown_big k A cap _ (by omega) (by omega)).mono ?_
    rintro e w1 ⟨rfl, hb1⟩
    have hc1 := bcell hb1
    have hz1_0 : w.heap.size < w1.heap.size := (by have := hb1.size; first | omega | (simp at this; omega))
    go_wp2
    go_ret
    exact ⟨rfl, by (repeat (first | with_reducible assumption | with_reducible exact Below.refl _ _ | with_reducible refine bel_alloc ?_ _ | with_reducible refine bel_drew ?_ | with_reducible refine bel_drewN ?_ _ | with_reducible refine bel_set ?_ (by first | omega | (simp; done) | (simp; omega)) _ | with_reducible refine bel_trans ?_ (by with_reducible assumption) | exact Below.refl _ _ | assumption | refine bel_alloc ?_ _ | refine bel_drew ?_ | refine bel_drewN ?_ _ | refine bel_set ?_ (by first | omega | (simp; done) | (simp; omega)) _ | refine bel_trans ?_ (by assumption)))⟩

theorem walk_FnExactWidth (k : Kn) (A : Option Addr) (cap : Nat) (w : World) (hp : PsAt w w.heap.size A cap k.ps) (hin : k.In) :
    Calls Try.prog 8 #[.agg #[.int .i64 k.o, .int .i64 k.l, .int .i64 k.m, .slice A k.ps.length cap, .int .i64 k.base, .int .i64 k.last]] w fun e w' => e = .returned (.bool true) ∧ Below w.heap.size w w' := by
  by_cases hn : k.ps.length ≤ 1048576
  · have hw := hin.wf hn
    obtain ⟨n, HS, HI⟩ : ∃ (n : Int), (∀ (A : Option Addr) (cap L : Nat) (w : World), PsAt w L A cap k.ps → L ≤ w.heap.size → Calls Try.prog 38 #[.agg #[.int .i64 k.o, .int .i64 k.l, .int .i64 k.m, .slice A k.ps.length cap, .int .i64 k.base, .int .i64 k.last]] w fun e w' => e = .returned (.int .i64 n) ∧ Below w.heap.size w w') ∧ (∀ (A : Option Addr) (cap L : Nat) (w : World), PsAt w L A cap k.ps → L ≤ w.heap.size → Calls Try.prog 39 #[.agg #[.int .i64 k.o, .int .i64 k.l, .int .i64 k.m, .slice A k.ps.length cap, .int .i64 k.base, .int .i64 k.last]] w fun e w' => e = .returned (.int .i64 n) ∧ Below w.heap.size w w') := by
      by_cases hk : k.Ok
      · exact ⟨k.width, fun A cap L w h hL => c_sWidth_yes k A cap L w h hL hk hw, fun A cap L w h hL => c_Width_yes k A cap L w h hL hk hw⟩
      · exact ⟨-1, fun A cap L w h hL => c_sWidth_no k A cap L w h hL hk hw, fun A cap L w h hL => c_Width_no k A cap L w h hL hk hw⟩
    have HP := hid hp
    have HS := hid HS
    have HI := hid HI
    clear hp hin hw
    have kN0 := Blk.new w 26 #[.int .i64 k.o, .int .i64 k.l, .int .i64 k.m, .slice A k.ps.length cap, .int .i64 k.base, .int .i64 k.last]
    go_enter Try.func8, Try.ntmps8
    go_wp2_with fail
    refine (c_szKnown k A cap _ hn).mono ?_
    rintro e w1 ⟨rfl, hb1⟩
    have hc1 := bcell hb1
    have hz1_0 : w.heap.size < w1.heap.size := (by have := hb1.size; first | omega | (simp at this; omega))
    have kN1 := kN0.on hb1
    have hB1 : Below w.heap.size w w1 := by (repeat (first | with_reducible assumption | with_reducible exact Below.refl _ _ | with_reducible refine bel_alloc ?_ _ | with_reducible refine bel_drew ?_ | with_reducible refine bel_drewN ?_ _ | with_reducible refine bel_set ?_ (by first | omega | (simp; done) | (simp; omega)) _ | with_reducible refine bel_trans ?_ (by with_reducible assumption) | exact Below.refl _ _ | assumption | refine bel_alloc ?_ _ | refine bel_drew ?_ | refine bel_drewN ?_ _ | refine bel_set ?_ (by first | omega | (simp; done) | (simp; omega)) _ | refine bel_trans ?_ (by assumption)))
    clear hb1 hc1
    obtain ⟨p0, p1, p2, p3, p4, p5⟩ := kN1.cells6
    go_wp2_with fail
    refine (c_toKnown k A cap w.heap.size _ (HP.out.below hB1 (Nat.le_refl _)) (by omega) hn).mono ?_
    rintro e w2 ⟨g2, rfl, hown2, hb2⟩
    go_wp2_with fail
    refine (HS.out _ _ _ _ (own_at hown2) (Nat.le_refl _)).mono ?_
    rintro e w3 ⟨rfl, hb3⟩
    have kN3 := (kN1.on hb2).on hb3
    have hB3 : Below w.heap.size w w3 := by (repeat (first | with_reducible assumption | with_reducible exact Below.refl _ _ | with_reducible refine bel_alloc ?_ _ | with_reducible refine bel_drew ?_ | with_reducible refine bel_drewN ?_ _ | with_reducible refine bel_set ?_ (by first | omega | (simp; done) | (simp; omega)) _ | with_reducible refine bel_trans ?_ (by with_reducible assumption) | exact Below.refl _ _ | assumption | refine bel_alloc ?_ _ | refine bel_drew ?_ | refine bel_drewN ?_ _ | refine bel_set ?_ (by first | omega | (simp; done) | (simp; omega)) _ | refine bel_trans ?_ (by assumption)))
    have hz3 : w.heap.size < w3.heap.size := kN3.lt
    clear hb2 hb3 hown2 p0 p1 p2 p3 p4 p5
    obtain ⟨p0, p1, p2, p3, p4, p5⟩ := kN3.cells6
    go_wp2_with fail
    refine (c_toKnown k A cap w.heap.size _ (HP.out.below hB3 (Nat.le_refl _)) (by omega) hn).mono ?_
    rintro e w4 ⟨g4, rfl, hown4, hb4⟩
    have kN4 := kN3.on hb4
    have hB4 : Below w.heap.size w w4 := by (repeat (first | with_reducible assumption | with_reducible exact Below.refl _ _ | with_reducible refine bel_alloc ?_ _ | with_reducible refine bel_drew ?_ | with_reducible refine bel_drewN ?_ _ | with_reducible refine bel_set ?_ (by first | omega | (simp; done) | (simp; omega)) _ | with_reducible refine bel_trans ?_ (by with_reducible assumption) | exact Below.refl _ _ | assumption | refine bel_alloc ?_ _ | refine bel_drew ?_ | refine bel_drewN ?_ _ | refine bel_set ?_ (by first | omega | (simp; done) | (simp; omega)) _ | refine bel_trans ?_ (by assumption)))
    have hz4 : w.heap.size < w4.heap.size := kN4.lt
    have kX4 := Blk.new w4 32 #[.int .i64 k.o, .int .i64 k.l, .int .i64 k.m, .slice (some ⟨g4, 0, none⟩) k.ps.length k.ps.length, .int .i64 k.base, .int .i64 k.last]
    clear hb4 p0 p1 p2 p3 p4 p5
    go_wp2_with fail
    refine (HI.out _ _ _ _ ((own_at hown4).alloc (Nat.le_refl _) _) (by simp)).mono ?_
    rintro e w5 ⟨rfl, hb5⟩
    have kN5 := (kN4.alloc (.cells #[.int .i64 k.o, .int .i64 k.l, .int .i64 k.m, .slice (some ⟨g4, 0, none⟩) k.ps.length k.ps.length, .int .i64 k.base, .int .i64 k.last] 32)).on hb5
    have kX5 := kX4.on hb5
    have hB5 : Below w4.heap.size w4 w5 := by (repeat (first | with_reducible assumption | with_reducible exact Below.refl _ _ | with_reducible refine bel_alloc ?_ _ | with_reducible refine bel_drew ?_ | with_reducible refine bel_drewN ?_ _ | with_reducible refine bel_set ?_ (by first | omega | (simp; done) | (simp; omega)) _ | with_reducible refine bel_trans ?_ (by with_reducible assumption) | exact Below.refl _ _ | assumption | refine bel_alloc ?_ _ | refine bel_drew ?_ | refine bel_drewN ?_ _ | refine bel_set ?_ (by first | omega | (simp; done) | (simp; omega)) _ | refine bel_trans ?_ (by assumption)))
    clear hb5
    go_wp2_with fail
    have hS := held12 kN5.cells6 kX5.cells6 hB5
    clear kN0 kN1 kN3 kN4 kX4 kN5 kX5
    refine wp_region_noPanic ?_
    refine wp_region_held_drew (S := (fun v => v.cell? ⟨w.heap.size, 0, none⟩ = some (.int .i64 k.o) ∧ v.cell? ⟨w.heap.size, 1, none⟩ = some (.int .i64 k.l) ∧ v.cell? ⟨w.heap.size, 2, none⟩ = some (.int .i64 k.m) ∧ v.cell? ⟨w.heap.size, 3, none⟩ = some (.slice A k.ps.length cap) ∧ v.cell? ⟨w.heap.size, 4, none⟩ = some (.int .i64 k.base) ∧ v.cell? ⟨w.heap.size, 5, none⟩ = some (.int .i64 k.last) ∧ v.cell? ⟨w4.heap.size, 0, none⟩ = some (.int .i64 k.o) ∧ v.cell? ⟨w4.heap.size, 1, none⟩ = some (.int .i64 k.l) ∧ v.cell? ⟨w4.heap.size, 2, none⟩ = some (.int .i64 k.m) ∧ v.cell? ⟨w4.heap.size, 3, none⟩ = some (.slice (some ⟨g4, 0, none⟩) k.ps.length k.ps.length) ∧ v.cell? ⟨w4.heap.size, 4, none⟩ = some (.int .i64 k.base) ∧ v.cell? ⟨w4.heap.size, 5, none⟩ = some (.int .i64 k.last) ∧ Below w4.heap.size w4 v)) (by kernel_rfl) (s12_drew hS) (fun hHeld => ?_)
    refine wpAnyH_take (i := 0) (oi := ?or4_0) (v := ?vr4_0) ?ir4_0 (by kernel_rfl) (by kernel_rfl) (by kernel_rfl) (fun _ _ _ h => h) ?yr4_0 (by assumption) ?wr4_0
    case ir4_0 => (simp only [List.getElem?_toArray, List.getElem?_cons_zero]; rfl)
    case yr4_0 => exact Or.inl ⟨by rfl, by intro v hSw; (try dsimp only at hSw); go_simp; try with_reducible rfl⟩
    try simp only [Act.put, List.setIfInBounds_toArray, List.set_cons_zero, List.set_cons_succ]
    refine wpAnyH_take (i := 1) (oi := ?or4_1) (v := ?vr4_1) ?ir4_1 (by kernel_rfl) (by kernel_rfl) (by kernel_rfl) (fun _ _ _ h => h) ?yr4_1 (by assumption) ?wr4_1
    case ir4_1 => (simp only [List.getElem?_toArray, List.getElem?_cons_succ, List.getElem?_cons_zero]; rfl)
    case yr4_1 => exact Or.inl ⟨by rfl, by intro v hSw; (try dsimp only at hSw); go_simp; try with_reducible rfl⟩
    try simp only [Act.put, List.setIfInBounds_toArray, List.set_cons_zero, List.set_cons_succ]
    refine wpAnyH_ready (rs := [2]) (by kernel_rfl) (by simp) ?_
    refine AllReadyH.cons (o := ?or4_2) ?ir4_2 (fun K hK => ?sr4_2) AllReadyH.nil
    case ir4_2 => (simp only [List.getElem?_toArray, List.getElem?_cons_succ, List.getElem?_cons_zero]; rfl)
    go_simp
    (first | (go_at_call 24; refine (c_toKnown k A cap w.heap.size _ (HP.out.below (bel_trans hB4 hHeld.2.2.2.2.2.2.2.2.2.2.2.2) (Nat.le_refl _)) (bel_trans hB4 hHeld.2.2.2.2.2.2.2.2.2.2.2.2).size hn).mono ?_; rintro e w6 ⟨g6, rfl, hown6, hb6⟩) | (go_at_call 26; refine (c_eqKnown k _ _ _ _ w4.heap.size _ _ ((own_at hown4).below hHeld.2.2.2.2.2.2.2.2.2.2.2.2 (Nat.le_refl _)) (own_at hown6) (hHeld.2.2.2.2.2.2.2.2.2.2.2.2).size (Nat.le_refl _) hn).mono ?_; rintro e w7 ⟨rfl, hb7⟩) | skip)
    refine hK.out _ _ ?kr4_2 (fun hHeld => ?_)
    case kr4_2 => (try dsimp only); (first | with_reducible assumption | exact s12_bel (by assumption) (by assumption) | assumption | exact s12_alloc (by assumption) _)
    clear hK K
    try simp only [Act.put, List.setIfInBounds_toArray, List.set_cons_zero, List.set_cons_succ]
    refine wpAnyH_ready (rs := [3]) (by kernel_rfl) (by simp) ?_
    refine AllReadyH.cons (o := ?or4_3) ?ir4_3 (fun K hK => ?sr4_3) AllReadyH.nil
    case ir4_3 => (simp only [List.getElem?_toArray, List.getElem?_cons_succ, List.getElem?_cons_zero]; rfl)
    go_simp
    (first | (go_at_call 24; refine (c_toKnown k A cap w.heap.size _ (HP.out.below (bel_trans hB4 hHeld.2.2.2.2.2.2.2.2.2.2.2.2) (Nat.le_refl _)) (bel_trans hB4 hHeld.2.2.2.2.2.2.2.2.2.2.2.2).size hn).mono ?_; rintro e w6 ⟨g6, rfl, hown6, hb6⟩) | (go_at_call 26; refine (c_eqKnown k _ _ _ _ w4.heap.size _ _ ((own_at hown4).below hHeld.2.2.2.2.2.2.2.2.2.2.2.2 (Nat.le_refl _)) (own_at hown6) (hHeld.2.2.2.2.2.2.2.2.2.2.2.2).size (Nat.le_refl _) hn).mono ?_; rintro e w7 ⟨rfl, hb7⟩) | skip)
    refine hK.out _ _ ?kr4_3 (fun hHeld => ?_)
    case kr4_3 => (try dsimp only); (first | with_reducible assumption | exact s12_bel (by assumption) (by assumption) | assumption | exact s12_alloc (by assumption) _)
    clear hK K
    try simp only [Act.put, List.setIfInBounds_toArray, List.set_cons_zero, List.set_cons_succ]
    refine wpAnyH_take (i := 4) (oi := ?or4_4) (v := ?vr4_4) ?ir4_4 (by kernel_rfl) (by kernel_rfl) (by kernel_rfl) (fun _ _ _ h => h) ?yr4_4 (by assumption) ?wr4_4
    case ir4_4 => (simp only [List.getElem?_toArray, List.getElem?_cons_succ, List.getElem?_cons_zero]; rfl)
    case yr4_4 => exact Or.inl ⟨by rfl, by intro v hSw; (try dsimp only at hSw); go_simp; try with_reducible rfl⟩
    try simp only [Act.put, List.setIfInBounds_toArray, List.set_cons_zero, List.set_cons_succ]
    refine wpAnyH_done (by kernel_rfl) ?_ _
    refine NoPanic.normal ?_
    go_wp2
    go_ret
    exact ⟨rfl, by (repeat (first | with_reducible assumption | with_reducible exact Below.refl _ _ | with_reducible refine bel_alloc ?_ _ | with_reducible refine bel_drew ?_ | with_reducible refine bel_drewN ?_ _ | with_reducible refine bel_set ?_ (by first | omega | (simp; done) | (simp; omega)) _ | with_reducible refine bel_trans ?_ (by with_reducible assumption) | exact Below.refl _ _ | assumption | refine bel_alloc ?_ _ | refine bel_drew ?_ | refine bel_drewN ?_ _ | refine bel_set ?_ (by first | omega | (simp; done) | (simp; omega)) _ | refine bel_trans ?_ (by assumption)))⟩
  · have hb := hp.1
    have hcm := hp.2.1
    go_enter Try.func8, Try.ntmps8
    go_wp2_with fail
    refine (c_szKnown_big k A cap _ (by omega) (by omega)).mono ?_
    rintro e w1 ⟨rfl, hb1⟩
    have hc1 := bcell hb1
    have hz1_0 : w.heap.size < w1.heap.size := (by have := hb1.size; first | omega | (simp at this; omega))
    go_wp2
    go_ret
    exact ⟨rfl, by (repeat (first | with_reducible assumption | with_reducible exact Below.refl _ _ | with_reducible refine bel_alloc ?_ _ | with_reducible refine bel_drew ?_ | with_reducible refine bel_drewN ?_ _ | with_reducible refine bel_set ?_ (by first | omega | (simp; done) | (simp; omega)) _ | with_reducible refine bel_trans ?_ (by with_reducible assumption) | exact Below.refl _ _ | assumption | refine bel_alloc ?_ _ | refine bel_drew ?_ | refine bel_drewN ?_ _ | refine bel_set ?_ (by first | omega | (simp; done) | (simp; omega)) _ | refine bel_trans ?_ (by assumption)))⟩
end Go.Proofs.Ytghfhnfmbohoeaa
