/- The laws' marks on whatever slice is owned; rows that are apart for they were made one after the other. No condition. The contracts of l2Cleared, l2After, l2Step. No condition but that what is known is valid. Contracts of After in the specification, where it says no. No condition but that the numbers are int's. Contracts of After in the program, where it says no. No condition but that the numbers are int's. -/
import Derived.Test.YtmlaaammfnboiaaGreatDoorBe
import Derived.Test.YtmlaaammfnboiaaGreatDoorBc
import Derived.Test.YtmlaaammfnboiaaGreatDoorBg
import Derived.Test.YtmlaaammfnboiaaGreatDoorBf
namespace Go.Proofs.YtmlaaammfnboiaaGreatDoor
section
open Go.ChangeShapes Go.WideShapes Go.ChangeAt Go.RowKit Go.Joins
set_option linter.unusedVariables false

theorem own_none {w : World} {B : Nat} {e : TypeId} {size n m cap : Nat} {xs : List Value} (h : w.ownsRow B e size (.slice none n cap) m xs) : n = 0 ∧ cap = 0 ∧ m = 0 := by
 rcases h.2 with ⟨e1, h0⟩ | ⟨g, cap', cur, e1, _⟩
 ·simp at e1; exact ⟨e1.1, e1.2, h0⟩
 ·simp at e1
theorem own_some {w : World} {B : Nat} {e : TypeId} {size n m cap : Nat} {a : Addr} {xs : List Value} (h : w.ownsRow B e size (.slice (some a) n cap) m xs) : ∃ g, a = ⟨g, 0, none⟩ := by
 rcases h.2 with ⟨e1, h0⟩ | ⟨g, cap', cur, e1, _⟩
 ·simp at e1
 ·simp at e1; exact ⟨g, e1.1⟩
end

section
open Go.ChangeShapes Go.WideShapes Go.ChangeAt Go.RowKit Go.Joins
set_option linter.unusedVariables false

theorem Blk.cells6t {w : World} {g : Nat} {t : TypeId} {a b c d e f : Value} (h : Blk w g t #[a, b, c, d, e, f]) : w.cell? ⟨g, 0, none⟩ = some a ∧ w.cell? ⟨g, 1, none⟩ = some b ∧ w.cell? ⟨g, 2, none⟩ = some c ∧ w.cell? ⟨g, 3, none⟩ = some d ∧ w.cell? ⟨g, 4, none⟩ = some e ∧ w.cell? ⟨g, 5, none⟩ = some f ∧ True := by
 obtain ⟨h0, h1, h2, h3, h4, h5⟩ := h.cells6
 exact ⟨h0, h1, h2, h3, h4, h5, trivial⟩

set_option maxHeartbeats 4000000 in
set_option maxRecDepth 100000 in
theorem c_l2Cleared (k : Kn) (A : Option Addr) (cap L : Nat) (w : World) (h : PsAt w L A cap k.ps) (hL : L ≤ w.heap.size) (hk : k.Ok) : Calls Tryz.prog 145 #[.agg #[.int .i64 k.o, .int .i64 k.l, .int .i64 k.m, .slice A k.ps.length cap, .int .i64 k.base, .int .i64 k.last]] w fun e w' => ∃ A' cap', e = .returned (.agg #[.int .i64 k.o, .int .i64 k.l, .int .i64 k.m, .slice A' k.cleared.ps.length cap', .int .i64 k.base, .int .i64 k.cleared.last]) ∧ w'.ownsRow w.heap.size 175 2 (.slice A' k.cleared.ps.length cap') k.cleared.ps.length (prs k.cleared.ps) ∧ Below w.heap.size w w' := by
 have hb0 := hk.base0
 have hb1 := hk.base1
 have hlen := hk.len
 obtain ⟨n, hn⟩ : ∃ n : Nat, k.base = n := ⟨k.base.toNat, by omega⟩
 have hpl : k.cleared.ps.length = n := by simp only [Kn.cleared, List.length_take]; omega
 have hps2 : k.cleared.ps = k.ps.take n := by simp only [Kn.cleared]; rw [hn]; rfl
 have hnl : n ≤ k.ps.length := by omega
 have hcap := h.1
 have hnc : n ≤ cap := by omega
 have hnc2 : (n : Int) ≤ (cap : Int) := by omega
 have hlt : (k.ps.take n).length = n := by rw [List.length_take]; omega
 have HH := hid (h.take n)
 have HP := hid hps2
 have hl0 : k.cleared.last = -1 := rfl
 rw [hpl, hl0, hn]
 clear h hps2 hpl hl0
 have kN0 := (Blk.new w 88 #[.int .i64 k.o, .int .i64 k.l, .int .i64 k.m, .slice A k.ps.length cap, .int .i64 (n : Int), .int .i64 k.last]).alloc (.cells #[.int .i64 0, .int .i64 0, .int .i64 0, .slice none 0 0, .int .i64 0, .int .i64 0] 88)
 have kR0 := Blk.top w (.cells #[.int .i64 k.o, .int .i64 k.l, .int .i64 k.m, .slice A k.ps.length cap, .int .i64 (n : Int), .int .i64 k.last] 88) 88 #[.int .i64 0, .int .i64 0, .int .i64 0, .slice none 0 0, .int .i64 0, .int .i64 0]
 go_enter Tryz.func145, Tryz.ntmps145
 go_wp2_with fail
 obtain ⟨W, hW⟩ : ∃ W, W = (w.alloc (.cells #[.int .i64 k.o, .int .i64 k.l, .int .i64 k.m, .slice A k.ps.length cap, .int .i64 (n : Int), .int .i64 k.last] 88)).alloc (.cells #[.int .i64 0, .int .i64 0, .int .i64 0, .slice none 0 0, .int .i64 0, .int .i64 0] 88) := ⟨_, rfl⟩
 have hBW : Below w.heap.size w W := by rw [hW]; exact obB
 have hs : w.heap.size + 2 ≤ W.heap.size := by rw [hW]; simp
 rw [← hW] at kN0 kR0
 rw [← hW]
 clear hW
 have hNR : w.heap.size ≠ w.heap.size + 1 := by omega
 have hS := kN0.cells6t
 have HQ : PsAt (W.alloc (.cells #[] 175)).drew L A cap (k.ps.take n) := ((HH.out.on hBW hL).alloc (Nat.le_trans hL hBW.size) (.cells #[] 175)).keep (fun _ _ => rfl)
 have HO : (W.alloc (.cells #[] 175)).drew.ownsRow (w.heap.size + 2) 175 2 (.slice (some ⟨W.heap.size, 0, none⟩) 0 0) 0 (prs []) := (World.ownsRow_made W #[] 0 hs (Nat.zero_le _) rfl).drew
 have kN1 := kN0.alloc (.cells #[] 175)
 refine wp_region_noPanic ?_
 refine wp_region_held_drew (S := (fun v => v.cell? ⟨w.heap.size, 0, none⟩ = some (.int .i64 k.o) ∧ v.cell? ⟨w.heap.size, 1, none⟩ = some (.int .i64 k.l) ∧ v.cell? ⟨w.heap.size, 2, none⟩ = some (.int .i64 k.m) ∧ v.cell? ⟨w.heap.size, 3, none⟩ = some (.slice A k.ps.length cap) ∧ v.cell? ⟨w.heap.size, 4, none⟩ = some (.int .i64 (n : Int)) ∧ v.cell? ⟨w.heap.size, 5, none⟩ = some (.int .i64 k.last) ∧ True)) (by kernel_rfl) (t6_drew hS) (fun hHeld => ?_)
 refine tk 0 ?_
 refine tk 1 ?_
 refine tk 3 ?_
 refine tk 4 ?_
 refine tk 5 ?_
 refine tk 6 ?_
 refine tk 7 ?_
 refine tk 9 ?_
 refine tk 10 ?_
 refine wpAnyH_ready (rs := [2]) (by kernel_rfl) (by simp) ?_
 refine AllReadyH.cons (o := ?or1_2) ?ir1_2 (fun K hK => ?sr1_2) AllReadyH.nil
 case ir1_2 => (simp only [List.getElem?_toArray, List.getElem?_cons_succ, List.getElem?_cons_zero]; rfl)
 (first | (go_simp; (first | fail | skip)))
 refine hK.out _ _ ?kr1_2 (fun hHeld => ?_)
 case kr1_2 => (try dsimp only); (first | with_reducible assumption | with_reducible exact kN1.cells6t | with_reducible exact kN9.cells6t | with_reducible exact ((((((kN9.far _ _ hNR).far _ _ hNR).far _ _ hNR).far _ _ hNR).far _ _ hNR).far _ _ hNR).cells6t | exact t6_bel (by assumption) (by assumption) | assumption | exact t6_alloc (by assumption) _ | exact kN1.cells6t | exact kN9.cells6t | exact ((((((kN9.far _ _ hNR).far _ _ hNR).far _ _ hNR).far _ _ hNR).far _ _ hNR).far _ _ hNR).cells6t)
 clear hK K
 try simp only [Act.put, List.setIfInBounds_toArray, List.set_cons_zero, List.set_cons_succ]
 refine wpAnyH_ready (rs := [8]) (by kernel_rfl) (by simp) ?_
 refine AllReadyH.cons (o := ?or1_8) ?ir1_8 (fun K hK => ?sr1_8) AllReadyH.nil
 case ir1_8 => (simp only [List.getElem?_toArray, List.getElem?_cons_succ, List.getElem?_cons_zero]; rfl)
 (first | ((refine step_pairs (by rfl) (.tmp 5) (.tmp 10) 86 (by rfl) (w.heap.size + 2) 175 Tryz.underlying86 Tryz.info_pair _ 0 [] (by rfl) HO A cap L n (k.ps.take n) HQ hlt.symm (by rfl) (by omega) (by simp; omega) ?_; intro v9 w9 hown9 hb9 hg9; obtain ⟨A9, c9, rfl, _, hl9, hA9⟩ := own_ps hown9; have kN9 := (kN0.alloc (.cells #[] 175)).drew.below hb9 (by omega); have kR9 := (kR0.alloc (.cells #[] 175)).drew.below hb9 (by omega); obtain ⟨t0, t1, t2, t3, t4, t5⟩ := kR9.cells6; obtain ⟨v0, v1, v2, v3, v4, v5⟩ := kR9.free6)) | (go_simp; (first | fail | skip)))
 refine hK.out _ _ ?kr1_8 (fun hHeld => ?_)
 case kr1_8 => (try dsimp only); (first | with_reducible assumption | with_reducible exact kN1.cells6t | with_reducible exact kN9.cells6t | with_reducible exact ((((((kN9.far _ _ hNR).far _ _ hNR).far _ _ hNR).far _ _ hNR).far _ _ hNR).far _ _ hNR).cells6t | exact t6_bel (by assumption) (by assumption) | assumption | exact t6_alloc (by assumption) _ | exact kN1.cells6t | exact kN9.cells6t | exact ((((((kN9.far _ _ hNR).far _ _ hNR).far _ _ hNR).far _ _ hNR).far _ _ hNR).far _ _ hNR).cells6t)
 clear hK K
 try simp only [Act.put, List.setIfInBounds_toArray, List.set_cons_zero, List.set_cons_succ]
 refine tk 11 ?_
 refine wpAnyH_ready (rs := [12]) (by kernel_rfl) (by simp) ?_
 refine AllReadyH.cons (o := ?or1_12) ?ir1_12 (fun K hK => ?sr1_12) AllReadyH.nil
 case ir1_12 => (simp only [List.getElem?_toArray, List.getElem?_cons_succ, List.getElem?_cons_zero]; rfl)
 (first | (go_simp; (first | fail | skip)))
 refine hK.out _ _ ?kr1_12 (fun hHeld => ?_)
 case kr1_12 => (try dsimp only); (first | with_reducible assumption | with_reducible exact kN1.cells6t | with_reducible exact kN9.cells6t | with_reducible exact ((((((kN9.far _ _ hNR).far _ _ hNR).far _ _ hNR).far _ _ hNR).far _ _ hNR).far _ _ hNR).cells6t | exact t6_bel (by assumption) (by assumption) | assumption | exact t6_alloc (by assumption) _ | exact kN1.cells6t | exact kN9.cells6t | exact ((((((kN9.far _ _ hNR).far _ _ hNR).far _ _ hNR).far _ _ hNR).far _ _ hNR).far _ _ hNR).cells6t)
 clear hK K
 try simp only [Act.put, List.setIfInBounds_toArray, List.set_cons_zero, List.set_cons_succ]
 refine wpAnyH_done (by kernel_rfl) ?_ _
 refine NoPanic.normal ?_
 clear hS
 have hlen9 : ([] ++ List.take n k.ps).length = n := by rw [List.nil_append]; exact hlt
 have hlen8 : 0 + (List.take n k.ps).length = n := by rw [hlt]; omega
 rw [hlen9, hlen8, List.nil_append] at hown9
 have hBB : Below w.heap.size w w9 := (bel_drew (bel_alloc hBW (.cells #[] 175))).trans (hb9.mono (by omega))
 obtain ⟨j0, j1, j2, j3, j4, j5⟩ := (kR9.put6 (.int .i64 k.o) (.int .i64 k.l) (.int .i64 k.m) (.slice A9 n c9) (.int .i64 (n : Int)) (.int .i64 (-1))).cells6
 have HO9 := hid hown9
 clear hown9 kN9 kR9 kN0 kR0 kN1 HO HQ t0 t1 t2 t3 t4 t5 v0 v1 v2 v3 v4 v5
 go_wp2
 refine bodyPost_ret (v := .agg #[.int .i64 k.o, .int .i64 k.l, .int .i64 k.m, .slice A9 n c9, .int .i64 (n : Int), .int .i64 (-1)]) (by simp [results, Tryz.results145, go_sem, j0, j1, j2, j3, j4, j5]) rfl ⟨A9, c9, rfl, ?_, by exact obB⟩
 rw [HP.out]
 refine own_mono (B := w.heap.size + 2) ?_ (by omega)
 repeat refine ownsRow_setCell_below ?_ (by simp) _
 exact HO9.out
end

section
open Go.ChangeShapes Go.WideShapes Go.ChangeAt Go.RowKit Go.Joins
set_option linter.unusedVariables false
end

section
open Go.ChangeShapes Go.WideShapes Go.ChangeAt Go.RowKit Go.Joins
set_option linter.unusedVariables false
end
end Go.Proofs.YtmlaaammfnboiaaGreatDoor
