/- Contracts of the model's own drawing of arguments: what is known, and a code. -/
import Derived.Test.YtoiifopjipfjhaaDn
namespace Go.Proofs.Ytoiifopjipfjhaa
open Go.ChangeShapes Go.WideShapes Go.ChangeAt Go.RowKit Go.Joins
set_option linter.unusedVariables false

/-- the drawing of arguments under way: the source in block R, k in box b -/
structure OpAt (w : World) (q b : Nat) (k : Kn) (A : Option Addr) (cap : Nat) (wr : World) : Prop where
  rx : Blk wr w.heap.size 28 #[.int .i64 0, .int .i64 0, .int .i64 0, .slice none 0 0, .int .i64 0, .int .i64 0]
  bx : Blk wr b 28 #[.int .i64 k.o, .int .i64 k.l, .int .i64 k.m, .slice A k.ps.length cap, .int .i64 k.base, .int .i64 k.last]
  row : wr.ownsRow (w.heap.size + 2) 41 2 (.slice A k.ps.length cap) k.ps.length (prs k.ps)
  rd : Rd 141 wr w.heap.size (w.heap.size + 1) q
  bel : Below w.heap.size w wr
  lt : w.heap.size + 1 < b
theorem OpAt.on {w : World} {q b : Nat} {k : Kn} {A : Option Addr} {cap : Nat} {wr w' : World} (h : OpAt w q b k A cap wr) (hb : Below wr.heap.size wr w') : OpAt w q b k A cap w' :=
  ⟨h.rx.on hb, h.bx.on hb, own_on h.row hb, h.rd.near hb, bel_trans h.bel hb, h.lt⟩
theorem OpAt.pick {w : World} {q q' b : Nat} {k : Kn} {A : Option Addr} {cap : Nat} {wr w' : World} (h : OpAt w q b k A cap wr) (hr : Rd 141 w' w.heap.size (w.heap.size + 1) q') (hg : wr.grownBy w' (some (w.heap.size + 1))) : OpAt w q' b k A cap w' :=
  ⟨h.rx.grown hg (by simp), h.bx.grown hg (by have := h.lt; simp; omega), own_grown1 h.row hg (by omega), hr, bel_grown h.bel hg (by omega), h.lt⟩
theorem OpAt.more {w : World} {q q' b : Nat} {k : Kn} {A : Option Addr} {cap : Nat} {wr : World} (h : OpAt w q b k A cap wr) (hq : q ≤ q') : OpAt w q' b k A cap wr := ⟨h.rx, h.bx, h.row, h.rd.more hq, h.bel, h.lt⟩
theorem OpAt.new {w w2 : World} {k : Kn} {A : Option Addr} {cap q : Nat} (hx : Blk w2 w.heap.size 28 #[.int .i64 0, .int .i64 0, .int .i64 0, .slice none 0 0, .int .i64 0, .int .i64 0]) (ho : w2.ownsRow (w.heap.size + 2) 41 2 (.slice A k.ps.length cap) k.ps.length (prs k.ps)) (hr : Rd 141 w2 w.heap.size (w.heap.size + 1) q) (hb : Below w.heap.size w w2) (hz : w.heap.size + 1 < w2.heap.size) :
    OpAt w q w2.heap.size k A cap (w2.alloc (.cells #[.int .i64 k.o, .int .i64 k.l, .int .i64 k.m, .slice A k.ps.length cap, .int .i64 k.base, .int .i64 k.last] 28)) :=
  ⟨hx.alloc _, Blk.new w2 _ _, ho.alloc _, hr.alloc _, bel_alloc hb _, hz⟩

set_option maxHeartbeats 4000000 in
set_option maxRecDepth 100000 in
theorem c_DrawWordOf (A' : Option Addr) (n cap' : Nat) (w : World) (hc : CodeAt w w.heap.size A' n cap') : Calls Try.prog 54 #[.slice A' n cap'] w (AKnownInt w) := by
  have k0 := Blk.new w 28 #[.int .i64 0, .int .i64 0, .int .i64 0, .slice none 0 0, .int .i64 0, .int .i64 0]
  have HCo := hid (hc.keep (fun k hk => Below.heap_alloc w (.cells #[.int .i64 0, .int .i64 0, .int .i64 0, .slice none 0 0, .int .i64 0, .int .i64 0] 28) k (by omega)))
  clear hc
  go_enter Try.func54, Try.ntmps54
  go_wp2_with fail
  refine (c_l9Open _ _ _ _ _ HCo.out (by simp)).mono ?_
  rintro e w1 ⟨rfl, hr1, hb1, hz1⟩
  rw [alloc_size] at hr1 hz1
  have k1 := k0.on hb1
  have b1 : Below w.heap.size w w1 := bel_trans (bel_alloc (Below.refl w.heap.size w) _) hb1
  clear HCo k0 hb1
  go_wp2_with fail
  refine (c_l2Draw _ _ 0 _ hr1 (by omega)).mono ?_
  rintro e w2 ⟨k, A, cap, rfl, hk, hl, ho2, hr2, hg2⟩
  have hz2 := hg2.size
  have HZ := hid (OpAt.new (k1.grown hg2 (by simp)) (own_mono ho2 (by omega)) hr2 (bel_grown b1 hg2 (by omega)) (by omega))
  clear k1 b1 hr1 ho2 hr2 hg2
  have hcb := hk.cbd
  have hnx := hk.next_le
  have hgb := hk.great_bd
  have hnp : 0 ≤ k.next := by unfold Kn.next; omega
  obtain ⟨_, ⟨hl1, hl2⟩, hm1, hm2⟩ := setOk_iff.1 hk.set
  have HN := hid (fun (v : World) => c_l2Next k A cap v hk)
  have HE := hid (fun (v : World) => c_l1End k.o k.l k.m v (by omega) (by omega))
  have HC := hid (fun (v : World) => c_l1Clear k.o k.l k.m v (by omega) (by omega))
  have HP := hid (fun (q : Nat) (v : World) hr hq => c_l2Pick w.heap.size (w.heap.size + 1) q k A cap v hr hq hk)
  have HB := hid (fun (q : Nat) (v : World) hr hq hrow hB0 => c_l2Bad w.heap.size (w.heap.size + 1) q (w.heap.size + 2) k A cap v hr hq hrow (by omega) hB0 hk hl)
  have HF := hid (fun (x : Int) (hx : k.Fol x) => ((hk.fol_iff x).1 hx))
  obtain ⟨C, hC⟩ : ∃ C, C = pow2 k.l := ⟨_, rfl⟩
  obtain ⟨X, hX⟩ : ∃ X, X = k.next := ⟨_, rfl⟩
  simp only [← hX] at HN hnx hnp
  rw [← hC] at HE HC
  have hCb : 2 ≤ C ∧ C ≤ 256 := by unfold Kn.c at hcb; omega
  have hXb : 0 ≤ X ∧ X ≤ 2000 := by omega
  have ew : IntKind.i64.wrap (X + 1) = X + 1 := IntWalk.i64_in _ (by omega)
  obtain ⟨p0, p1, p2, p3, p4, p5⟩ := HZ.out.bx.cells6
  clear hC hX hk
  go_wp2_with fail
  refine (HP.out _ _ HZ.out.rd (by omega)).mono ?_
  rintro e w3 ⟨code, rfl, hf, hr3, hg3⟩
  have hfb := HF.out _ hf
  have hcd : -9223372036854775808 ≤ code ∧ code ≤ 9223372036854775807 := by omega
  replace HZ := hid (HZ.out.pick hr3 hg3)
  clear hr3 hg3 hf hfb HF HP p0 p1 p2 p3 p4 p5
  obtain ⟨p0, p1, p2, p3, p4, p5⟩ := HZ.out.bx.cells6
  go_wp2_with fail
  refine (c_pick _ _ _ 8 _ HZ.out.rd (by omega) (by decide)).mono ?_
  rintro e w4 ⟨x, rfl, hx0, hx1, _, hr4, hg4⟩
  replace HZ := hid ((HZ.out.pick hr4 hg4).more (show _ ≤ 250 by omega))
  clear hx1 hr4 hg4 p0 p1 p2 p3 p4 p5
  obtain ⟨p0, p1, p2, p3, p4, p5⟩ := HZ.out.bx.cells6
  by_cases c0 : x = 0
  · skip
    have e0 : (x == 0) = true := eq_yes (by omega)
    clear c0
    have hS : w4.cell? ⟨w2.heap.size, 0, none⟩ = some (.int .i64 k.o) ∧ w4.cell? ⟨w2.heap.size, 1, none⟩ = some (.int .i64 k.l) ∧ w4.cell? ⟨w2.heap.size, 2, none⟩ = some (.int .i64 k.m) ∧ w4.cell? ⟨w2.heap.size, 3, none⟩ = some (.slice A k.ps.length cap) ∧ w4.cell? ⟨w2.heap.size, 4, none⟩ = some (.int .i64 k.base) ∧ w4.cell? ⟨w2.heap.size, 5, none⟩ = some (.int .i64 k.last) ∧ True := ⟨p0, p1, p2, p3, p4, p5, trivial⟩
    go_wp2_with fail
    replace HZ := hid (HZ.out.on (bel_drew (Below.refl w4.heap.size w4)))
    refine wp_region_noPanic ?_
    refine wp_region_held_drew (S := (fun v => v.cell? ⟨w2.heap.size, 0, none⟩ = some (.int .i64 k.o) ∧ v.cell? ⟨w2.heap.size, 1, none⟩ = some (.int .i64 k.l) ∧ v.cell? ⟨w2.heap.size, 2, none⟩ = some (.int .i64 k.m) ∧ v.cell? ⟨w2.heap.size, 3, none⟩ = some (.slice A k.ps.length cap) ∧ v.cell? ⟨w2.heap.size, 4, none⟩ = some (.int .i64 k.base) ∧ v.cell? ⟨w2.heap.size, 5, none⟩ = some (.int .i64 k.last) ∧ True)) (by kernel_rfl) (t6_drew hS) (fun hHeld => ?_)
    refine tk 0 ?_
    refine tk 1 ?_
    refine tk 2 ?_
    refine tk 4 ?_
    refine tk 5 ?_
    refine tk 7 ?_
    refine tk 9 ?_
    refine wpAnyH_ready (rs := [3]) (by kernel_rfl) (by simp) ?_
    refine AllReadyH.cons (o := ?or1_3) ?ir1_3 (fun K hK => ?sr1_3) AllReadyH.nil
    case ir1_3 => (simp only [List.getElem?_toArray, List.getElem?_cons_succ, List.getElem?_cons_zero]; rfl)
    (first | (go_simp; (first | (go_at_call 108; refine (HC.out _).mono ?_; rintro e wQ ⟨rfl, hbQ⟩; replace HZ := hid (HZ.out.on hbQ); clear hbQ) | (go_at_call 126; refine (HE.out _).mono ?_; rintro e wQ ⟨rfl, hbQ⟩; replace HZ := hid (HZ.out.on hbQ); clear hbQ) | (go_at_call 127; refine (HN.out _).mono ?_; rintro e wQ ⟨rfl, hbQ⟩; replace HZ := hid (HZ.out.on hbQ); clear hbQ) | (go_at_call 125; refine (c_num _ _ _ _ 6 [-1, C, C + 1, X, X + 1, 9223372036854775807] _ (HZ.out.rd.alloc _) (by omega) (by exact intsAt_new _ _ _) rfl (by decide) (by decide) (by have := HZ.out.rd.lt; omega)).mono ?_; rintro e w5 ⟨y, rfl, hy, hr5, hg5⟩; replace HZ := hid ((HZ.out.on (bel_alloc (Below.refl _ _) _)).pick hr5 hg5)) | skip)))
    refine hK.out _ _ ?kr1_3 (fun hHeld => ?_)
    case kr1_3 => (try dsimp only); (first | with_reducible assumption | with_reducible exact HZ.out.bx.cells6t | with_reducible exact (HZ.out.bx.alloc _).cells6t | exact t6_bel (by assumption) (by assumption) | assumption | exact t6_alloc (by assumption) _ | exact HZ.out.bx.cells6t | exact (HZ.out.bx.alloc _).cells6t)
    clear hK K
    try simp only [Act.put, List.setIfInBounds_toArray, List.set_cons_zero, List.set_cons_succ]
    refine wpAnyH_ready (rs := [6]) (by kernel_rfl) (by simp) ?_
    refine AllReadyH.cons (o := ?or1_6) ?ir1_6 (fun K hK => ?sr1_6) AllReadyH.nil
    case ir1_6 => (simp only [List.getElem?_toArray, List.getElem?_cons_succ, List.getElem?_cons_zero]; rfl)
    (first | (go_simp; (first | (go_at_call 108; refine (HC.out _).mono ?_; rintro e wQ ⟨rfl, hbQ⟩; replace HZ := hid (HZ.out.on hbQ); clear hbQ) | (go_at_call 126; refine (HE.out _).mono ?_; rintro e wQ ⟨rfl, hbQ⟩; replace HZ := hid (HZ.out.on hbQ); clear hbQ) | (go_at_call 127; refine (HN.out _).mono ?_; rintro e wQ ⟨rfl, hbQ⟩; replace HZ := hid (HZ.out.on hbQ); clear hbQ) | (go_at_call 125; refine (c_num _ _ _ _ 6 [-1, C, C + 1, X, X + 1, 9223372036854775807] _ (HZ.out.rd.alloc _) (by omega) (by exact intsAt_new _ _ _) rfl (by decide) (by decide) (by have := HZ.out.rd.lt; omega)).mono ?_; rintro e w5 ⟨y, rfl, hy, hr5, hg5⟩; replace HZ := hid ((HZ.out.on (bel_alloc (Below.refl _ _) _)).pick hr5 hg5)) | skip)))
    refine hK.out _ _ ?kr1_6 (fun hHeld => ?_)
    case kr1_6 => (try dsimp only); (first | with_reducible assumption | with_reducible exact HZ.out.bx.cells6t | with_reducible exact (HZ.out.bx.alloc _).cells6t | exact t6_bel (by assumption) (by assumption) | assumption | exact t6_alloc (by assumption) _ | exact HZ.out.bx.cells6t | exact (HZ.out.bx.alloc _).cells6t)
    clear hK K
    try simp only [Act.put, List.setIfInBounds_toArray, List.set_cons_zero, List.set_cons_succ]
    refine wpAnyH_ready (rs := [8]) (by kernel_rfl) (by simp) ?_
    refine AllReadyH.cons (o := ?or1_8) ?ir1_8 (fun K hK => ?sr1_8) AllReadyH.nil
    case ir1_8 => (simp only [List.getElem?_toArray, List.getElem?_cons_succ, List.getElem?_cons_zero]; rfl)
    (first | (go_simp; (first | (go_at_call 108; refine (HC.out _).mono ?_; rintro e wQ ⟨rfl, hbQ⟩; replace HZ := hid (HZ.out.on hbQ); clear hbQ) | (go_at_call 126; refine (HE.out _).mono ?_; rintro e wQ ⟨rfl, hbQ⟩; replace HZ := hid (HZ.out.on hbQ); clear hbQ) | (go_at_call 127; refine (HN.out _).mono ?_; rintro e wQ ⟨rfl, hbQ⟩; replace HZ := hid (HZ.out.on hbQ); clear hbQ) | (go_at_call 125; refine (c_num _ _ _ _ 6 [-1, C, C + 1, X, X + 1, 9223372036854775807] _ (HZ.out.rd.alloc _) (by omega) (by exact intsAt_new _ _ _) rfl (by decide) (by decide) (by have := HZ.out.rd.lt; omega)).mono ?_; rintro e w5 ⟨y, rfl, hy, hr5, hg5⟩; replace HZ := hid ((HZ.out.on (bel_alloc (Below.refl _ _) _)).pick hr5 hg5)) | skip)))
    refine hK.out _ _ ?kr1_8 (fun hHeld => ?_)
    case kr1_8 => (try dsimp only); (first | with_reducible assumption | with_reducible exact HZ.out.bx.cells6t | with_reducible exact (HZ.out.bx.alloc _).cells6t | exact t6_bel (by assumption) (by assumption) | assumption | exact t6_alloc (by assumption) _ | exact HZ.out.bx.cells6t | exact (HZ.out.bx.alloc _).cells6t)
    clear hK K
    try simp only [Act.put, List.setIfInBounds_toArray, List.set_cons_zero, List.set_cons_succ]
    refine wpAnyH_ready (rs := [10]) (by kernel_rfl) (by simp) ?_
    refine AllReadyH.cons (o := ?or1_10) ?ir1_10 (fun K hK => ?sr1_10) AllReadyH.nil
    case ir1_10 => (simp only [List.getElem?_toArray, List.getElem?_cons_succ, List.getElem?_cons_zero]; rfl)
    (first | (go_simp; (first | (go_at_call 108; refine (HC.out _).mono ?_; rintro e wQ ⟨rfl, hbQ⟩; replace HZ := hid (HZ.out.on hbQ); clear hbQ) | (go_at_call 126; refine (HE.out _).mono ?_; rintro e wQ ⟨rfl, hbQ⟩; replace HZ := hid (HZ.out.on hbQ); clear hbQ) | (go_at_call 127; refine (HN.out _).mono ?_; rintro e wQ ⟨rfl, hbQ⟩; replace HZ := hid (HZ.out.on hbQ); clear hbQ) | (go_at_call 125; refine (c_num _ _ _ _ 6 [-1, C, C + 1, X, X + 1, 9223372036854775807] _ (HZ.out.rd.alloc _) (by omega) (by exact intsAt_new _ _ _) rfl (by decide) (by decide) (by have := HZ.out.rd.lt; omega)).mono ?_; rintro e w5 ⟨y, rfl, hy, hr5, hg5⟩; replace HZ := hid ((HZ.out.on (bel_alloc (Below.refl _ _) _)).pick hr5 hg5)) | skip)))
    refine hK.out _ _ ?kr1_10 (fun hHeld => ?_)
    case kr1_10 => (try dsimp only); (first | with_reducible assumption | with_reducible exact HZ.out.bx.cells6t | with_reducible exact (HZ.out.bx.alloc _).cells6t | exact t6_bel (by assumption) (by assumption) | assumption | exact t6_alloc (by assumption) _ | exact HZ.out.bx.cells6t | exact (HZ.out.bx.alloc _).cells6t)
    clear hK K
    try simp only [Act.put, List.setIfInBounds_toArray, List.set_cons_zero, List.set_cons_succ]
    refine tk 11 ?_
    refine wpAnyH_ready (rs := [12]) (by kernel_rfl) (by simp) ?_
    refine AllReadyH.cons (o := ?or1_12) ?ir1_12 (fun K hK => ?sr1_12) AllReadyH.nil
    case ir1_12 => (simp only [List.getElem?_toArray, List.getElem?_cons_succ, List.getElem?_cons_zero]; rfl)
    (first | (go_simp; (first | (go_at_call 108; refine (HC.out _).mono ?_; rintro e wQ ⟨rfl, hbQ⟩; replace HZ := hid (HZ.out.on hbQ); clear hbQ) | (go_at_call 126; refine (HE.out _).mono ?_; rintro e wQ ⟨rfl, hbQ⟩; replace HZ := hid (HZ.out.on hbQ); clear hbQ) | (go_at_call 127; refine (HN.out _).mono ?_; rintro e wQ ⟨rfl, hbQ⟩; replace HZ := hid (HZ.out.on hbQ); clear hbQ) | (go_at_call 125; refine (c_num _ _ _ _ 6 [-1, C, C + 1, X, X + 1, 9223372036854775807] _ (HZ.out.rd.alloc _) (by omega) (by exact intsAt_new _ _ _) rfl (by decide) (by decide) (by have := HZ.out.rd.lt; omega)).mono ?_; rintro e w5 ⟨y, rfl, hy, hr5, hg5⟩; replace HZ := hid ((HZ.out.on (bel_alloc (Below.refl _ _) _)).pick hr5 hg5)) | skip)))
    refine hK.out _ _ ?kr1_12 (fun hHeld => ?_)
    case kr1_12 => (try dsimp only); (first | with_reducible assumption | with_reducible exact HZ.out.bx.cells6t | with_reducible exact (HZ.out.bx.alloc _).cells6t | exact t6_bel (by assumption) (by assumption) | assumption | exact t6_alloc (by assumption) _ | exact HZ.out.bx.cells6t | exact (HZ.out.bx.alloc _).cells6t)
    clear hK K
    try simp only [Act.put, List.setIfInBounds_toArray, List.set_cons_zero, List.set_cons_succ]
    refine wpAnyH_ready (rs := [13]) (by kernel_rfl) (by simp) ?_
    refine AllReadyH.cons (o := ?or1_13) ?ir1_13 (fun K hK => ?sr1_13) AllReadyH.nil
    case ir1_13 => (simp only [List.getElem?_toArray, List.getElem?_cons_succ, List.getElem?_cons_zero]; rfl)
    (first | (go_simp; (first | (go_at_call 108; refine (HC.out _).mono ?_; rintro e wQ ⟨rfl, hbQ⟩; replace HZ := hid (HZ.out.on hbQ); clear hbQ) | (go_at_call 126; refine (HE.out _).mono ?_; rintro e wQ ⟨rfl, hbQ⟩; replace HZ := hid (HZ.out.on hbQ); clear hbQ) | (go_at_call 127; refine (HN.out _).mono ?_; rintro e wQ ⟨rfl, hbQ⟩; replace HZ := hid (HZ.out.on hbQ); clear hbQ) | (go_at_call 125; refine (c_num _ _ _ _ 6 [-1, C, C + 1, X, X + 1, 9223372036854775807] _ (HZ.out.rd.alloc _) (by omega) (by exact intsAt_new _ _ _) rfl (by decide) (by decide) (by have := HZ.out.rd.lt; omega)).mono ?_; rintro e w5 ⟨y, rfl, hy, hr5, hg5⟩; replace HZ := hid ((HZ.out.on (bel_alloc (Below.refl _ _) _)).pick hr5 hg5)) | skip)))
    refine hK.out _ _ ?kr1_13 (fun hHeld => ?_)
    case kr1_13 => (try dsimp only); (first | with_reducible assumption | with_reducible exact HZ.out.bx.cells6t | with_reducible exact (HZ.out.bx.alloc _).cells6t | exact t6_bel (by assumption) (by assumption) | assumption | exact t6_alloc (by assumption) _ | exact HZ.out.bx.cells6t | exact (HZ.out.bx.alloc _).cells6t)
    clear hK K
    try simp only [Act.put, List.setIfInBounds_toArray, List.set_cons_zero, List.set_cons_succ]
    refine tk 14 ?_
    refine wpAnyH_done (by kernel_rfl) ?_ _
    refine NoPanic.normal ?_
    have hyb : -9223372036854775808 ≤ y ∧ y ≤ 9223372036854775807 := by simp at hy; omega
    clear hy hr5 hg5 p0 p1 p2 p3 p4 p5 hS hHeld
    obtain ⟨p0, p1, p2, p3, p4, p5⟩ := HZ.out.bx.cells6
    go_wp2_with fail
    refine (HB.out _ _ HZ.out.rd (by omega) HZ.out.row (by have := HZ.out.lt; have := HZ.out.bx.lt; omega)).mono ?_
    rintro e w6 ⟨k2, A2, cap2, rfl, hw2, hl2, ho6, hr6, hg6⟩
    have HRx := hid (HZ.out.rx.grown hg6 (by simp))
    have b6 := bel_grown HZ.out.bel hg6 (by omega)
    clear HB HN HE HC HZ p0 p1 p2 p3 p4 p5 hr6 hg6
    obtain ⟨r0, r1, r2, r3, r4, r5⟩ := HRx.out.cells6
    obtain ⟨f0, f1, f2, f3, f4, f5⟩ := HRx.out.free6
    obtain ⟨j0, j1, j2, j3, j4, j5⟩ := (HRx.out.put6 (.int .i64 k2.o) (.int .i64 k2.l) (.int .i64 k2.m) (.slice A2 k2.ps.length cap2) (.int .i64 k2.base) (.int .i64 k2.last)).cells6
    have HQ := hid (show AKnownInt w (.returned (.tuple #[.agg #[.int .i64 k2.o, .int .i64 k2.l, .int .i64 k2.m, .slice A2 k2.ps.length cap2, .int .i64 k2.base, .int .i64 k2.last], .int .i64 y])) _ from ⟨k2, A2, cap2, y, rfl, hw2, hl2, hyb, own_mono (own_put6 ho6 HRx.out tykn_tp (.int .i64 k2.o) (.int .i64 k2.l) (.int .i64 k2.m) (.slice A2 k2.ps.length cap2) (.int .i64 k2.base) (.int .i64 k2.last)) (by omega), by (repeat (first | with_reducible (first | assumption | exact Below.refl _ _ | refine bel_alloc ?_ _ | refine bel_drew ?_ | refine bel_drewN ?_ _ | refine bel_set ?_ (by first | omega | (simp; done) | (simp; omega)) _ | refine bel_trans ?_ (by assumption)) | assumption | refine bel_trans ?_ (by assumption)))⟩)
    clear ho6 b6
    go_wp2
    exact bodyPost_ret (v := .tuple #[.agg #[.int .i64 k2.o, .int .i64 k2.l, .int .i64 k2.m, .slice A2 k2.ps.length cap2, .int .i64 k2.base, .int .i64 k2.last], .int .i64 y]) (by simp [results, Try.results54, go_sem, j0, j1, j2, j3, j4, j5]) rfl HQ.out
  · skip
    have e0 : (x == 0) = false := eq_no (by omega)
    go_wp2_with fail
    refine (HB.out _ _ HZ.out.rd (by omega) HZ.out.row (by have := HZ.out.lt; have := HZ.out.bx.lt; omega)).mono ?_
    rintro e w6 ⟨k2, A2, cap2, rfl, hw2, hl2, ho6, hr6, hg6⟩
    have HRx := hid (HZ.out.rx.grown hg6 (by simp))
    have b6 := bel_grown HZ.out.bel hg6 (by omega)
    clear HB HN HE HC HZ p0 p1 p2 p3 p4 p5 hr6 hg6
    obtain ⟨r0, r1, r2, r3, r4, r5⟩ := HRx.out.cells6
    obtain ⟨f0, f1, f2, f3, f4, f5⟩ := HRx.out.free6
    obtain ⟨j0, j1, j2, j3, j4, j5⟩ := (HRx.out.put6 (.int .i64 k2.o) (.int .i64 k2.l) (.int .i64 k2.m) (.slice A2 k2.ps.length cap2) (.int .i64 k2.base) (.int .i64 k2.last)).cells6
    have HQ := hid (show AKnownInt w (.returned (.tuple #[.agg #[.int .i64 k2.o, .int .i64 k2.l, .int .i64 k2.m, .slice A2 k2.ps.length cap2, .int .i64 k2.base, .int .i64 k2.last], .int .i64 code])) _ from ⟨k2, A2, cap2, code, rfl, hw2, hl2, hcd, own_mono (own_put6 ho6 HRx.out tykn_tp (.int .i64 k2.o) (.int .i64 k2.l) (.int .i64 k2.m) (.slice A2 k2.ps.length cap2) (.int .i64 k2.base) (.int .i64 k2.last)) (by omega), by (repeat (first | with_reducible (first | assumption | exact Below.refl _ _ | refine bel_alloc ?_ _ | refine bel_drew ?_ | refine bel_drewN ?_ _ | refine bel_set ?_ (by first | omega | (simp; done) | (simp; omega)) _ | refine bel_trans ?_ (by assumption)) | assumption | refine bel_trans ?_ (by assumption)))⟩)
    clear ho6 b6
    go_wp2
    exact bodyPost_ret (v := .tuple #[.agg #[.int .i64 k2.o, .int .i64 k2.l, .int .i64 k2.m, .slice A2 k2.ps.length cap2, .int .i64 k2.base, .int .i64 k2.last], .int .i64 code]) (by simp [results, Try.results54, go_sem, j0, j1, j2, j3, j4, j5]) rfl HQ.out
end Go.Proofs.Ytoiifopjipfjhaa
