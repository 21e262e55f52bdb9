/- The walk of FnExactKnownValid: its Go text returns true, and writes nothing that was there. -/
import Derived.Test.YtghfhnfmbohoeaaOp
import Derived.Test.YtghfhnfmbohoeaaKw
namespace Go.Proofs.Ytghfhnfmbohoeaa
open Go.ChangeShapes Go.WideShapes Go.ChangeAt Go.RowKit Go.Joins
set_option linter.unusedVariables false

theorem Kn.In.wf {k : Kn} (h : k.In) (hn : k.ps.length ≤ 1048576) : k.Wf := ⟨h.pairs, h.base, h.last, hn⟩
/-- an own slice of pairs, read -/
theorem own_at {w : World} {B : Nat} {e : TypeId} {g n cap : Nat} {ps : List Pr} (h : w.ownsRow B e 2 (.slice (some ⟨g, 0, none⟩) n cap) n (prs ps)) : PsAt w w.heap.size (some ⟨g, 0, none⟩) cap ps := by
  obtain ⟨A, c, e1, hp, e2, _⟩ := own_ps h
  simp at e1
  obtain ⟨rfl, _, rfl⟩ := e1
  exact hp

theorem held12 {v0 v : World} {a0 a1 a2 a3 a4 a5 b0 b1 b2 b3 b4 b5 : Addr} {x0 x1 x2 x3 x4 x5 y0 y1 y2 y3 y4 y5 : Value} (h : v.cell? a0 = some x0 ∧ v.cell? a1 = some x1 ∧ v.cell? a2 = some x2 ∧ v.cell? a3 = some x3 ∧ v.cell? a4 = some x4 ∧ v.cell? a5 = some x5) (k : v.cell? b0 = some y0 ∧ v.cell? b1 = some y1 ∧ v.cell? b2 = some y2 ∧ v.cell? b3 = some y3 ∧ v.cell? b4 = some y4 ∧ v.cell? b5 = some y5) (hb : Below v0.heap.size v0 v) :
    v.cell? a0 = some x0 ∧ v.cell? a1 = some x1 ∧ v.cell? a2 = some x2 ∧ v.cell? a3 = some x3 ∧ v.cell? a4 = some x4 ∧ v.cell? a5 = some x5 ∧ v.cell? b0 = some y0 ∧ v.cell? b1 = some y1 ∧ v.cell? b2 = some y2 ∧ v.cell? b3 = some y3 ∧ v.cell? b4 = some y4 ∧ v.cell? b5 = some y5 ∧ Below v0.heap.size v0 v := by
  obtain ⟨h0, h1, h2, h3, h4, h5⟩ := h
  obtain ⟨k0, k1, k2, k3, k4, k5⟩ := k
  exact ⟨h0, h1, h2, h3, h4, h5, k0, k1, k2, k3, k4, k5, hb⟩

theorem walk_FnExactKnownValid (k : Kn) (A : Option Addr) (cap : Nat) (w : World) (hp : PsAt w w.heap.size A cap k.ps) (hin : k.In) :
    Calls Try.prog 3 #[.agg #[.int .i64 k.o, .int .i64 k.l, .int .i64 k.m, .slice A k.ps.length cap, .int .i64 k.base, .int .i64 k.last]] w fun e w' => e = .returned (.bool true) ∧ Below w.heap.size w w' := by
  by_cases hn : k.ps.length ≤ 1048576
  · have hw := hin.wf hn
    obtain ⟨b, HS, HI⟩ : ∃ b, (∀ (A : Option Addr) (cap L : Nat) (w : World), PsAt w L A cap k.ps → L ≤ w.heap.size → Calls Try.prog 23 #[.agg #[.int .i64 k.o, .int .i64 k.l, .int .i64 k.m, .slice A k.ps.length cap, .int .i64 k.base, .int .i64 k.last]] w fun e w' => e = .returned (.bool b) ∧ Below w.heap.size w w') ∧ (∀ (A : Option Addr) (cap L : Nat) (w : World), PsAt w L A cap k.ps → L ≤ w.heap.size → Calls Try.prog 25 #[.agg #[.int .i64 k.o, .int .i64 k.l, .int .i64 k.m, .slice A k.ps.length cap, .int .i64 k.base, .int .i64 k.last]] w fun e w' => e = .returned (.bool b) ∧ Below w.heap.size w w') := by
      by_cases hk : k.Ok
      · exact ⟨true, fun A cap L w h hL => c_sKnownValid_yes k A cap L w h hL hk hw, fun A cap L w h hL => c_KnownValid_yes k A cap L w h hL hk hw⟩
      · exact ⟨false, fun A cap L w h hL => c_sKnownValid_no k A cap L w h hL hk hw, fun A cap L w h hL => c_KnownValid_no k A cap L w h hL hk hw⟩
    have HP := hid hp
    have HS := hid HS
    have HI := hid HI
    clear hp hin hw
    have kN0 := Blk.new w 26 #[.int .i64 k.o, .int .i64 k.l, .int .i64 k.m, .slice A k.ps.length cap, .int .i64 k.base, .int .i64 k.last]
    go_enter Try.func3, Try.ntmps3
    go_wp2_with fail
    refine (c_szKnown k A cap _ hn).mono ?_
    rintro e w1 ⟨rfl, hb1⟩
    have hc1 := bcell hb1
    have hz1_0 : w.heap.size < w1.heap.size := (by have := hb1.size; first | omega | (simp at this; omega))
    have kN1 := kN0.on hb1
    have hB1 : Below w.heap.size w w1 := by (repeat (first | with_reducible assumption | with_reducible exact Below.refl _ _ | with_reducible refine bel_alloc ?_ _ | with_reducible refine bel_drew ?_ | with_reducible refine bel_drewN ?_ _ | with_reducible refine bel_set ?_ (by first | omega | (simp; done) | (simp; omega)) _ | with_reducible refine bel_trans ?_ (by with_reducible assumption) | exact Below.refl _ _ | assumption | refine bel_alloc ?_ _ | refine bel_drew ?_ | refine bel_drewN ?_ _ | refine bel_set ?_ (by first | omega | (simp; done) | (simp; omega)) _ | refine bel_trans ?_ (by assumption)))
    clear hb1 hc1
    obtain ⟨p0, p1, p2, p3, p4, p5⟩ := kN1.cells6
    go_wp2_with fail
    refine (c_toKnown k A cap w.heap.size _ (HP.out.below hB1 (Nat.le_refl _)) (by omega) hn).mono ?_
    rintro e w2 ⟨g2, rfl, hown2, hb2⟩
    go_wp2_with fail
    refine (HS.out _ _ _ _ (own_at hown2) (Nat.le_refl _)).mono ?_
    rintro e w3 ⟨rfl, hb3⟩
    have kN3 := (kN1.on hb2).on hb3
    have hB3 : Below w.heap.size w w3 := by (repeat (first | with_reducible assumption | with_reducible exact Below.refl _ _ | with_reducible refine bel_alloc ?_ _ | with_reducible refine bel_drew ?_ | with_reducible refine bel_drewN ?_ _ | with_reducible refine bel_set ?_ (by first | omega | (simp; done) | (simp; omega)) _ | with_reducible refine bel_trans ?_ (by with_reducible assumption) | exact Below.refl _ _ | assumption | refine bel_alloc ?_ _ | refine bel_drew ?_ | refine bel_drewN ?_ _ | refine bel_set ?_ (by first | omega | (simp; done) | (simp; omega)) _ | refine bel_trans ?_ (by assumption)))
    have hz3 : w.heap.size < w3.heap.size := kN3.lt
    clear hb2 hb3 hown2 p0 p1 p2 p3 p4 p5
    obtain ⟨p0, p1, p2, p3, p4, p5⟩ := kN3.cells6
    go_wp2_with fail
    refine (c_toKnown k A cap w.heap.size _ (HP.out.below hB3 (Nat.le_refl _)) (by omega) hn).mono ?_
    rintro e w4 ⟨g4, rfl, hown4, hb4⟩
    have kN4 := kN3.on hb4
    have hB4 : Below w.heap.size w w4 := by (repeat (first | with_reducible assumption | with_reducible exact Below.refl _ _ | with_reducible refine bel_alloc ?_ _ | with_reducible refine bel_drew ?_ | with_reducible refine bel_drewN ?_ _ | with_reducible refine bel_set ?_ (by first | omega | (simp; done) | (simp; omega)) _ | with_reducible refine bel_trans ?_ (by with_reducible assumption) | exact Below.refl _ _ | assumption | refine bel_alloc ?_ _ | refine bel_drew ?_ | refine bel_drewN ?_ _ | refine bel_set ?_ (by first | omega | (simp; done) | (simp; omega)) _ | refine bel_trans ?_ (by assumption)))
    have hz4 : w.heap.size < w4.heap.size := kN4.lt
    have kX4 := Blk.new w4 32 #[.int .i64 k.o, .int .i64 k.l, .int .i64 k.m, .slice (some ⟨g4, 0, none⟩) k.ps.length k.ps.length, .int .i64 k.base, .int .i64 k.last]
    clear hb4 p0 p1 p2 p3 p4 p5
    go_wp2_with fail
    refine (HI.out _ _ _ _ ((own_at hown4).alloc (Nat.le_refl _) _) (by simp)).mono ?_
    rintro e w5 ⟨rfl, hb5⟩
    have kN5 := (kN4.alloc (.cells #[.int .i64 k.o, .int .i64 k.l, .int .i64 k.m, .slice (some ⟨g4, 0, none⟩) k.ps.length k.ps.length, .int .i64 k.base, .int .i64 k.last] 32)).on hb5
    have kX5 := kX4.on hb5
    have hB5 : Below w4.heap.size w4 w5 := by (repeat (first | with_reducible assumption | with_reducible exact Below.refl _ _ | with_reducible refine bel_alloc ?_ _ | with_reducible refine bel_drew ?_ | with_reducible refine bel_drewN ?_ _ | with_reducible refine bel_set ?_ (by first | omega | (simp; done) | (simp; omega)) _ | with_reducible refine bel_trans ?_ (by with_reducible assumption) | exact Below.refl _ _ | assumption | refine bel_alloc ?_ _ | refine bel_drew ?_ | refine bel_drewN ?_ _ | refine bel_set ?_ (by first | omega | (simp; done) | (simp; omega)) _ | refine bel_trans ?_ (by assumption)))
    clear hb5
    go_wp2_with fail
    have hS := held12 kN5.cells6 kX5.cells6 hB5
    clear kN0 kN1 kN3 kN4 kX4 kN5 kX5
    refine wp_region_noPanic ?_
    refine wp_region_held_drew (S := (fun v => v.cell? ⟨w.heap.size, 0, none⟩ = some (.int .i64 k.o) ∧ v.cell? ⟨w.heap.size, 1, none⟩ = some (.int .i64 k.l) ∧ v.cell? ⟨w.heap.size, 2, none⟩ = some (.int .i64 k.m) ∧ v.cell? ⟨w.heap.size, 3, none⟩ = some (.slice A k.ps.length cap) ∧ v.cell? ⟨w.heap.size, 4, none⟩ = some (.int .i64 k.base) ∧ v.cell? ⟨w.heap.size, 5, none⟩ = some (.int .i64 k.last) ∧ v.cell? ⟨w4.heap.size, 0, none⟩ = some (.int .i64 k.o) ∧ v.cell? ⟨w4.heap.size, 1, none⟩ = some (.int .i64 k.l) ∧ v.cell? ⟨w4.heap.size, 2, none⟩ = some (.int .i64 k.m) ∧ v.cell? ⟨w4.heap.size, 3, none⟩ = some (.slice (some ⟨g4, 0, none⟩) k.ps.length k.ps.length) ∧ v.cell? ⟨w4.heap.size, 4, none⟩ = some (.int .i64 k.base) ∧ v.cell? ⟨w4.heap.size, 5, none⟩ = some (.int .i64 k.last) ∧ Below w4.heap.size w4 v)) (by kernel_rfl) (s12_drew hS) (fun hHeld => ?_)
    refine wpAnyH_take (i := 0) (oi := ?or1_0) (v := ?vr1_0) ?ir1_0 (by kernel_rfl) (by kernel_rfl) (by kernel_rfl) (fun _ _ _ h => h) ?yr1_0 (by assumption) ?wr1_0
    case ir1_0 => (simp only [List.getElem?_toArray, List.getElem?_cons_zero]; rfl)
    case yr1_0 => exact Or.inl ⟨by rfl, by intro v hSw; (try dsimp only at hSw); go_simp; try with_reducible rfl⟩
    try simp only [Act.put, List.setIfInBounds_toArray, List.set_cons_zero, List.set_cons_succ]
    refine wpAnyH_take (i := 1) (oi := ?or1_1) (v := ?vr1_1) ?ir1_1 (by kernel_rfl) (by kernel_rfl) (by kernel_rfl) (fun _ _ _ h => h) ?yr1_1 (by assumption) ?wr1_1
    case ir1_1 => (simp only [List.getElem?_toArray, List.getElem?_cons_succ, List.getElem?_cons_zero]; rfl)
    case yr1_1 => exact Or.inl ⟨by rfl, by intro v hSw; (try dsimp only at hSw); go_simp; try with_reducible rfl⟩
    try simp only [Act.put, List.setIfInBounds_toArray, List.set_cons_zero, List.set_cons_succ]
    refine wpAnyH_ready (rs := [2]) (by kernel_rfl) (by simp) ?_
    refine AllReadyH.cons (o := ?or1_2) ?ir1_2 (fun K hK => ?sr1_2) AllReadyH.nil
    case ir1_2 => (simp only [List.getElem?_toArray, List.getElem?_cons_succ, List.getElem?_cons_zero]; rfl)
    go_simp
    (first | (go_at_call 24; refine (c_toKnown k A cap w.heap.size _ (HP.out.below (bel_trans hB4 hHeld.2.2.2.2.2.2.2.2.2.2.2.2) (Nat.le_refl _)) (bel_trans hB4 hHeld.2.2.2.2.2.2.2.2.2.2.2.2).size hn).mono ?_; rintro e w6 ⟨g6, rfl, hown6, hb6⟩) | (go_at_call 26; refine (c_eqKnown k _ _ _ _ w4.heap.size _ _ ((own_at hown4).below hHeld.2.2.2.2.2.2.2.2.2.2.2.2 (Nat.le_refl _)) (own_at hown6) (hHeld.2.2.2.2.2.2.2.2.2.2.2.2).size (Nat.le_refl _) hn).mono ?_; rintro e w7 ⟨rfl, hb7⟩) | skip)
    refine hK.out _ _ ?kr1_2 (fun hHeld => ?_)
    case kr1_2 => (try dsimp only); (first | with_reducible assumption | exact s12_bel (by assumption) (by assumption) | assumption | exact s12_alloc (by assumption) _)
    clear hK K
    try simp only [Act.put, List.setIfInBounds_toArray, List.set_cons_zero, List.set_cons_succ]
    refine wpAnyH_ready (rs := [3]) (by kernel_rfl) (by simp) ?_
    refine AllReadyH.cons (o := ?or1_3) ?ir1_3 (fun K hK => ?sr1_3) AllReadyH.nil
    case ir1_3 => (simp only [List.getElem?_toArray, List.getElem?_cons_succ, List.getElem?_cons_zero]; rfl)
    go_simp
    (first | (go_at_call 24; refine (c_toKnown k A cap w.heap.size _ (HP.out.below (bel_trans hB4 hHeld.2.2.2.2.2.2.2.2.2.2.2.2) (Nat.le_refl _)) (bel_trans hB4 hHeld.2.2.2.2.2.2.2.2.2.2.2.2).size hn).mono ?_; rintro e w6 ⟨g6, rfl, hown6, hb6⟩) | (go_at_call 26; refine (c_eqKnown k _ _ _ _ w4.heap.size _ _ ((own_at hown4).below hHeld.2.2.2.2.2.2.2.2.2.2.2.2 (Nat.le_refl _)) (own_at hown6) (hHeld.2.2.2.2.2.2.2.2.2.2.2.2).size (Nat.le_refl _) hn).mono ?_; rintro e w7 ⟨rfl, hb7⟩) | skip)
    refine hK.out _ _ ?kr1_3 (fun hHeld => ?_)
    case kr1_3 => (try dsimp only); (first | with_reducible assumption | exact s12_bel (by assumption) (by assumption) | assumption | exact s12_alloc (by assumption) _)
    clear hK K
    try simp only [Act.put, List.setIfInBounds_toArray, List.set_cons_zero, List.set_cons_succ]
    refine wpAnyH_take (i := 4) (oi := ?or1_4) (v := ?vr1_4) ?ir1_4 (by kernel_rfl) (by kernel_rfl) (by kernel_rfl) (fun _ _ _ h => h) ?yr1_4 (by assumption) ?wr1_4
    case ir1_4 => (simp only [List.getElem?_toArray, List.getElem?_cons_succ, List.getElem?_cons_zero]; rfl)
    case yr1_4 => exact Or.inl ⟨by rfl, by intro v hSw; (try dsimp only at hSw); go_simp; try with_reducible rfl⟩
    try simp only [Act.put, List.setIfInBounds_toArray, List.set_cons_zero, List.set_cons_succ]
    refine wpAnyH_done (by kernel_rfl) ?_ _
    refine NoPanic.normal ?_
    go_wp2
    go_ret
    exact ⟨rfl, by (repeat (first | with_reducible assumption | with_reducible exact Below.refl _ _ | with_reducible refine bel_alloc ?_ _ | with_reducible refine bel_drew ?_ | with_reducible refine bel_drewN ?_ _ | with_reducible refine bel_set ?_ (by first | omega | (simp; done) | (simp; omega)) _ | with_reducible refine bel_trans ?_ (by with_reducible assumption) | exact Below.refl _ _ | assumption | refine bel_alloc ?_ _ | refine bel_drew ?_ | refine bel_drewN ?_ _ | refine bel_set ?_ (by first | omega | (simp; done) | (simp; omega)) _ | refine bel_trans ?_ (by assumption)))⟩
  · have hb := hp.1
    have hcm := hp.2.1
    go_enter Try.func3, Try.ntmps3
    go_wp2_with fail
    refine (c_szKnown_big k A cap _ (by omega) (by omega)).mono ?_
    rintro e w1 ⟨rfl, hb1⟩
    have hc1 := bcell hb1
    have hz1_0 : w.heap.size < w1.heap.size := (by have := hb1.size; first | omega | (simp at this; omega))
    go_wp2
    go_ret
    exact ⟨rfl, by (repeat (first | with_reducible assumption | with_reducible exact Below.refl _ _ | with_reducible refine bel_alloc ?_ _ | with_reducible refine bel_drew ?_ | with_reducible refine bel_drewN ?_ _ | with_reducible refine bel_set ?_ (by first | omega | (simp; done) | (simp; omega)) _ | with_reducible refine bel_trans ?_ (by with_reducible assumption) | exact Below.refl _ _ | assumption | refine bel_alloc ?_ _ | refine bel_drew ?_ | refine bel_drewN ?_ _ | refine bel_set ?_ (by first | omega | (simp; done) | (simp; omega)) _ | refine bel_trans ?_ (by assumption)))⟩
end Go.Proofs.Ytghfhnfmbohoeaa
