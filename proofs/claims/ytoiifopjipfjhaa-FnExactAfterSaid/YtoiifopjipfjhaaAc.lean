/- The contracts of l2Cleared, l2After, l2Step. No condition but that what is known is valid. -/
import Derived.Test.YtoiifopjipfjhaaFx
namespace Go.Proofs.Ytoiifopjipfjhaa
open Go.ChangeShapes Go.WideShapes Go.ChangeAt Go.RowKit Go.Joins
set_option linter.unusedVariables false

theorem Blk.cells6t {w : World} {g : Nat} {t : TypeId} {a b c d e f : Value} (h : Blk w g t #[a, b, c, d, e, f]) : w.cell? ⟨g, 0, none⟩ = some a ∧ w.cell? ⟨g, 1, none⟩ = some b ∧ w.cell? ⟨g, 2, none⟩ = some c ∧ w.cell? ⟨g, 3, none⟩ = some d ∧ w.cell? ⟨g, 4, none⟩ = some e ∧ w.cell? ⟨g, 5, none⟩ = some f ∧ True := by
  obtain ⟨h0, h1, h2, h3, h4, h5⟩ := h.cells6
  exact ⟨h0, h1, h2, h3, h4, h5, trivial⟩

set_option maxHeartbeats 4000000 in
set_option maxRecDepth 100000 in
theorem c_l2Cleared (k : Kn) (A : Option Addr) (cap L : Nat) (w : World) (h : PsAt w L A cap k.ps) (hL : L ≤ w.heap.size) (hk : k.Ok) : Calls Try.prog 178 #[.agg #[.int .i64 k.o, .int .i64 k.l, .int .i64 k.m, .slice A k.ps.length cap, .int .i64 k.base, .int .i64 k.last]] w fun e w' => ∃ A' cap', e = .returned (.agg #[.int .i64 k.o, .int .i64 k.l, .int .i64 k.m, .slice A' k.cleared.ps.length cap', .int .i64 k.base, .int .i64 k.cleared.last]) ∧ w'.ownsRow w.heap.size 41 2 (.slice A' k.cleared.ps.length cap') k.cleared.ps.length (prs k.cleared.ps) ∧ Below w.heap.size w w' := by
  have hb0 := hk.base0
  have hb1 := hk.base1
  have hlen := hk.len
  obtain ⟨n, hn⟩ : ∃ n : Nat, k.base = n := ⟨k.base.toNat, by omega⟩
  have hpl : k.cleared.ps.length = n := by simp only [Kn.cleared, List.length_take]; omega
  have hps2 : k.cleared.ps = k.ps.take n := by simp only [Kn.cleared]; rw [hn]; rfl
  have hnl : n ≤ k.ps.length := by omega
  have hcap := h.1
  have hnc : n ≤ cap := by omega
  have hnc2 : (n : Int) ≤ (cap : Int) := by omega
  have hlt : (k.ps.take n).length = n := by rw [List.length_take]; omega
  have HH := hid (h.take n)
  have HP := hid hps2
  have hl0 : k.cleared.last = -1 := rfl
  rw [hpl, hl0, hn]
  clear h hps2 hpl hl0
  have kN0 := (Blk.new w 28 #[.int .i64 k.o, .int .i64 k.l, .int .i64 k.m, .slice A k.ps.length cap, .int .i64 (n : Int), .int .i64 k.last]).alloc (.cells #[.int .i64 0, .int .i64 0, .int .i64 0, .slice none 0 0, .int .i64 0, .int .i64 0] 28)
  have kR0 := Blk.top w (.cells #[.int .i64 k.o, .int .i64 k.l, .int .i64 k.m, .slice A k.ps.length cap, .int .i64 (n : Int), .int .i64 k.last] 28) 28 #[.int .i64 0, .int .i64 0, .int .i64 0, .slice none 0 0, .int .i64 0, .int .i64 0]
  go_enter Try.func178, Try.ntmps178
  go_wp2_with fail
  obtain ⟨W, hW⟩ : ∃ W, W = (w.alloc (.cells #[.int .i64 k.o, .int .i64 k.l, .int .i64 k.m, .slice A k.ps.length cap, .int .i64 (n : Int), .int .i64 k.last] 28)).alloc (.cells #[.int .i64 0, .int .i64 0, .int .i64 0, .slice none 0 0, .int .i64 0, .int .i64 0] 28) := ⟨_, rfl⟩
  have hBW : Below w.heap.size w W := by rw [hW]; (repeat (first | with_reducible assumption | with_reducible exact Below.refl _ _ | with_reducible refine bel_alloc ?_ _ | with_reducible refine bel_drew ?_ | with_reducible refine bel_drewN ?_ _ | with_reducible refine bel_set ?_ (by first | omega | (simp; done) | (simp; omega)) _ | with_reducible refine bel_trans ?_ (by with_reducible assumption) | exact Below.refl _ _ | assumption | refine bel_alloc ?_ _ | refine bel_drew ?_ | refine bel_drewN ?_ _ | refine bel_set ?_ (by first | omega | (simp; done) | (simp; omega)) _ | refine bel_trans ?_ (by assumption)))
  have hs : w.heap.size + 2 ≤ W.heap.size := by rw [hW]; simp
  rw [← hW] at kN0 kR0
  rw [← hW]
  clear hW
  have hNR : w.heap.size ≠ w.heap.size + 1 := by omega
  have hS := kN0.cells6t
  have HQ : PsAt (W.alloc (.cells #[] 41)).drew L A cap (k.ps.take n) := ((HH.out.on hBW hL).alloc (Nat.le_trans hL hBW.size) (.cells #[] 41)).keep (fun _ _ => rfl)
  have HO : (W.alloc (.cells #[] 41)).drew.ownsRow (w.heap.size + 2) 41 2 (.slice (some ⟨W.heap.size, 0, none⟩) 0 0) 0 (prs []) := (World.ownsRow_made W #[] 0 hs (Nat.zero_le _) rfl).drew
  have kN1 := kN0.alloc (.cells #[] 41)
  refine wp_region_noPanic ?_
  refine wp_region_held_drew (S := (fun v => v.cell? ⟨w.heap.size, 0, none⟩ = some (.int .i64 k.o) ∧ v.cell? ⟨w.heap.size, 1, none⟩ = some (.int .i64 k.l) ∧ v.cell? ⟨w.heap.size, 2, none⟩ = some (.int .i64 k.m) ∧ v.cell? ⟨w.heap.size, 3, none⟩ = some (.slice A k.ps.length cap) ∧ v.cell? ⟨w.heap.size, 4, none⟩ = some (.int .i64 (n : Int)) ∧ v.cell? ⟨w.heap.size, 5, none⟩ = some (.int .i64 k.last) ∧ True)) (by kernel_rfl) (t6_drew hS) (fun hHeld => ?_)
  refine wpAnyH_take (i := 0) (oi := ?or30_0) (v := ?vr30_0) ?ir30_0 (by kernel_rfl) (by kernel_rfl) (by kernel_rfl) (fun _ _ _ h => h) ?yr30_0 (by assumption) ?wr30_0
  case ir30_0 => (simp only [List.getElem?_toArray, List.getElem?_cons_zero]; rfl)
  case yr30_0 => exact Or.inl ⟨by rfl, by intro v hSw; (try dsimp only at hSw); go_simp; try with_reducible rfl⟩
  try simp only [Act.put, List.setIfInBounds_toArray, List.set_cons_zero, List.set_cons_succ]
  refine wpAnyH_take (i := 1) (oi := ?or30_1) (v := ?vr30_1) ?ir30_1 (by kernel_rfl) (by kernel_rfl) (by kernel_rfl) (fun _ _ _ h => h) ?yr30_1 (by assumption) ?wr30_1
  case ir30_1 => (simp only [List.getElem?_toArray, List.getElem?_cons_succ, List.getElem?_cons_zero]; rfl)
  case yr30_1 => exact Or.inl ⟨by rfl, by intro v hSw; (try dsimp only at hSw); go_simp; try with_reducible rfl⟩
  try simp only [Act.put, List.setIfInBounds_toArray, List.set_cons_zero, List.set_cons_succ]
  refine wpAnyH_take (i := 3) (oi := ?or30_3) (v := ?vr30_3) ?ir30_3 (by kernel_rfl) (by kernel_rfl) (by kernel_rfl) (fun _ _ _ h => h) ?yr30_3 (by assumption) ?wr30_3
  case ir30_3 => (simp only [List.getElem?_toArray, List.getElem?_cons_succ, List.getElem?_cons_zero]; rfl)
  case yr30_3 => exact Or.inl ⟨by rfl, by intro v hSw; (try dsimp only at hSw); go_simp; try with_reducible rfl⟩
  try simp only [Act.put, List.setIfInBounds_toArray, List.set_cons_zero, List.set_cons_succ]
  refine wpAnyH_take (i := 4) (oi := ?or30_4) (v := ?vr30_4) ?ir30_4 (by kernel_rfl) (by kernel_rfl) (by kernel_rfl) (fun _ _ _ h => h) ?yr30_4 (by assumption) ?wr30_4
  case ir30_4 => (simp only [List.getElem?_toArray, List.getElem?_cons_succ, List.getElem?_cons_zero]; rfl)
  case yr30_4 => exact Or.inl ⟨by rfl, by intro v hSw; (try dsimp only at hSw); go_simp; try with_reducible rfl⟩
  try simp only [Act.put, List.setIfInBounds_toArray, List.set_cons_zero, List.set_cons_succ]
  refine wpAnyH_take (i := 5) (oi := ?or30_5) (v := ?vr30_5) ?ir30_5 (by kernel_rfl) (by kernel_rfl) (by kernel_rfl) (fun _ _ _ h => h) ?yr30_5 (by assumption) ?wr30_5
  case ir30_5 => (simp only [List.getElem?_toArray, List.getElem?_cons_succ, List.getElem?_cons_zero]; rfl)
  case yr30_5 => exact Or.inl ⟨by rfl, by intro v hSw; (try dsimp only at hSw); go_simp; try with_reducible rfl⟩
  try simp only [Act.put, List.setIfInBounds_toArray, List.set_cons_zero, List.set_cons_succ]
  refine wpAnyH_take (i := 6) (oi := ?or30_6) (v := ?vr30_6) ?ir30_6 (by kernel_rfl) (by kernel_rfl) (by kernel_rfl) (fun _ _ _ h => h) ?yr30_6 (by assumption) ?wr30_6
  case ir30_6 => (simp only [List.getElem?_toArray, List.getElem?_cons_succ, List.getElem?_cons_zero]; rfl)
  case yr30_6 => exact Or.inl ⟨by rfl, by intro v hSw; (try dsimp only at hSw); go_simp; try with_reducible rfl⟩
  try simp only [Act.put, List.setIfInBounds_toArray, List.set_cons_zero, List.set_cons_succ]
  refine wpAnyH_take (i := 7) (oi := ?or30_7) (v := ?vr30_7) ?ir30_7 (by kernel_rfl) (by kernel_rfl) (by kernel_rfl) (fun _ _ _ h => h) ?yr30_7 (by assumption) ?wr30_7
  case ir30_7 => (simp only [List.getElem?_toArray, List.getElem?_cons_succ, List.getElem?_cons_zero]; rfl)
  case yr30_7 => exact Or.inl ⟨by rfl, by intro v hSw; (try dsimp only at hSw); go_simp; try with_reducible rfl⟩
  try simp only [Act.put, List.setIfInBounds_toArray, List.set_cons_zero, List.set_cons_succ]
  refine wpAnyH_take (i := 9) (oi := ?or30_9) (v := ?vr30_9) ?ir30_9 (by kernel_rfl) (by kernel_rfl) (by kernel_rfl) (fun _ _ _ h => h) ?yr30_9 (by assumption) ?wr30_9
  case ir30_9 => (simp only [List.getElem?_toArray, List.getElem?_cons_succ, List.getElem?_cons_zero]; rfl)
  case yr30_9 => exact Or.inl ⟨by rfl, by intro v hSw; (try dsimp only at hSw); go_simp; try with_reducible rfl⟩
  try simp only [Act.put, List.setIfInBounds_toArray, List.set_cons_zero, List.set_cons_succ]
  refine wpAnyH_take (i := 10) (oi := ?or30_10) (v := ?vr30_10) ?ir30_10 (by kernel_rfl) (by kernel_rfl) (by kernel_rfl) (fun _ _ _ h => h) ?yr30_10 (by assumption) ?wr30_10
  case ir30_10 => (simp only [List.getElem?_toArray, List.getElem?_cons_succ, List.getElem?_cons_zero]; rfl)
  case yr30_10 => exact Or.inl ⟨by rfl, by intro v hSw; (try dsimp only at hSw); go_simp; try with_reducible rfl⟩
  try simp only [Act.put, List.setIfInBounds_toArray, List.set_cons_zero, List.set_cons_succ]
  refine wpAnyH_ready (rs := [2]) (by kernel_rfl) (by simp) ?_
  refine AllReadyH.cons (o := ?or30_2) ?ir30_2 (fun K hK => ?sr30_2) AllReadyH.nil
  case ir30_2 => (simp only [List.getElem?_toArray, List.getElem?_cons_succ, List.getElem?_cons_zero]; rfl)
  (first | (go_simp; (first | fail | skip)))
  refine hK.out _ _ ?kr30_2 (fun hHeld => ?_)
  case kr30_2 => (try dsimp only); (first | with_reducible assumption | with_reducible exact kN1.cells6t | with_reducible exact kN9.cells6t | with_reducible exact ((((((kN9.far _ _ hNR).far _ _ hNR).far _ _ hNR).far _ _ hNR).far _ _ hNR).far _ _ hNR).cells6t | exact t6_bel (by assumption) (by assumption) | assumption | exact t6_alloc (by assumption) _ | exact kN1.cells6t | exact kN9.cells6t | exact ((((((kN9.far _ _ hNR).far _ _ hNR).far _ _ hNR).far _ _ hNR).far _ _ hNR).far _ _ hNR).cells6t)
  clear hK K
  try simp only [Act.put, List.setIfInBounds_toArray, List.set_cons_zero, List.set_cons_succ]
  refine wpAnyH_ready (rs := [8]) (by kernel_rfl) (by simp) ?_
  refine AllReadyH.cons (o := ?or30_8) ?ir30_8 (fun K hK => ?sr30_8) AllReadyH.nil
  case ir30_8 => (simp only [List.getElem?_toArray, List.getElem?_cons_succ, List.getElem?_cons_zero]; rfl)
  (first | ((refine step_pairs (by rfl) (.tmp 5) (.tmp 10) 26 (by rfl) (w.heap.size + 2) 41 Try.underlying26 Try.info_pair _ 0 [] (by rfl) HO A cap L n (k.ps.take n) HQ hlt.symm (by rfl) (by omega) (by simp; omega) ?_; intro v9 w9 hown9 hb9 hg9; obtain ⟨A9, c9, rfl, _, hl9, hA9⟩ := own_ps hown9; have kN9 := (kN0.alloc (.cells #[] 41)).drew.below hb9 (by omega); have kR9 := (kR0.alloc (.cells #[] 41)).drew.below hb9 (by omega); obtain ⟨t0, t1, t2, t3, t4, t5⟩ := kR9.cells6; obtain ⟨v0, v1, v2, v3, v4, v5⟩ := kR9.free6)) | (go_simp; (first | fail | skip)))
  refine hK.out _ _ ?kr30_8 (fun hHeld => ?_)
  case kr30_8 => (try dsimp only); (first | with_reducible assumption | with_reducible exact kN1.cells6t | with_reducible exact kN9.cells6t | with_reducible exact ((((((kN9.far _ _ hNR).far _ _ hNR).far _ _ hNR).far _ _ hNR).far _ _ hNR).far _ _ hNR).cells6t | exact t6_bel (by assumption) (by assumption) | assumption | exact t6_alloc (by assumption) _ | exact kN1.cells6t | exact kN9.cells6t | exact ((((((kN9.far _ _ hNR).far _ _ hNR).far _ _ hNR).far _ _ hNR).far _ _ hNR).far _ _ hNR).cells6t)
  clear hK K
  try simp only [Act.put, List.setIfInBounds_toArray, List.set_cons_zero, List.set_cons_succ]
  refine wpAnyH_take (i := 11) (oi := ?or30_11) (v := ?vr30_11) ?ir30_11 (by kernel_rfl) (by kernel_rfl) (by kernel_rfl) (fun _ _ _ h => h) ?yr30_11 (by assumption) ?wr30_11
  case ir30_11 => (simp only [List.getElem?_toArray, List.getElem?_cons_succ, List.getElem?_cons_zero]; rfl)
  case yr30_11 => exact Or.inl ⟨by rfl, by intro v hSw; (try dsimp only at hSw); go_simp; try with_reducible rfl⟩
  try simp only [Act.put, List.setIfInBounds_toArray, List.set_cons_zero, List.set_cons_succ]
  refine wpAnyH_ready (rs := [12]) (by kernel_rfl) (by simp) ?_
  refine AllReadyH.cons (o := ?or30_12) ?ir30_12 (fun K hK => ?sr30_12) AllReadyH.nil
  case ir30_12 => (simp only [List.getElem?_toArray, List.getElem?_cons_succ, List.getElem?_cons_zero]; rfl)
  (first | (go_simp; (first | fail | skip)))
  refine hK.out _ _ ?kr30_12 (fun hHeld => ?_)
  case kr30_12 => (try dsimp only); (first | with_reducible assumption | with_reducible exact kN1.cells6t | with_reducible exact kN9.cells6t | with_reducible exact ((((((kN9.far _ _ hNR).far _ _ hNR).far _ _ hNR).far _ _ hNR).far _ _ hNR).far _ _ hNR).cells6t | exact t6_bel (by assumption) (by assumption) | assumption | exact t6_alloc (by assumption) _ | exact kN1.cells6t | exact kN9.cells6t | exact ((((((kN9.far _ _ hNR).far _ _ hNR).far _ _ hNR).far _ _ hNR).far _ _ hNR).far _ _ hNR).cells6t)
  clear hK K
  try simp only [Act.put, List.setIfInBounds_toArray, List.set_cons_zero, List.set_cons_succ]
  refine wpAnyH_done (by kernel_rfl) ?_ _
  refine NoPanic.normal ?_
  clear hS
  have hlen9 : ([] ++ List.take n k.ps).length = n := by rw [List.nil_append]; exact hlt
  have hlen8 : 0 + (List.take n k.ps).length = n := by rw [hlt]; omega
  rw [hlen9, hlen8, List.nil_append] at hown9
  have hBB : Below w.heap.size w w9 := (bel_drew (bel_alloc hBW (.cells #[] 41))).trans (hb9.mono (by omega))
  obtain ⟨j0, j1, j2, j3, j4, j5⟩ := (kR9.put6 (.int .i64 k.o) (.int .i64 k.l) (.int .i64 k.m) (.slice A9 n c9) (.int .i64 (n : Int)) (.int .i64 (-1))).cells6
  have HO9 := hid hown9
  clear hown9 kN9 kR9 kN0 kR0 kN1 HO HQ t0 t1 t2 t3 t4 t5 v0 v1 v2 v3 v4 v5
  go_wp2
  refine bodyPost_ret (v := .agg #[.int .i64 k.o, .int .i64 k.l, .int .i64 k.m, .slice A9 n c9, .int .i64 (n : Int), .int .i64 (-1)]) (by simp [results, Try.results178, go_sem, j0, j1, j2, j3, j4, j5]) rfl ⟨A9, c9, rfl, ?_, by (repeat (first | with_reducible assumption | with_reducible exact Below.refl _ _ | with_reducible refine bel_alloc ?_ _ | with_reducible refine bel_drew ?_ | with_reducible refine bel_drewN ?_ _ | with_reducible refine bel_set ?_ (by first | omega | (simp; done) | (simp; omega)) _ | with_reducible refine bel_trans ?_ (by with_reducible assumption) | exact Below.refl _ _ | assumption | refine bel_alloc ?_ _ | refine bel_drew ?_ | refine bel_drewN ?_ _ | refine bel_set ?_ (by first | omega | (simp; done) | (simp; omega)) _ | refine bel_trans ?_ (by assumption)))⟩
  rw [HP.out]
  refine own_mono (B := w.heap.size + 2) ?_ (by omega)
  repeat refine ownsRow_setCell_below ?_ (by simp) _
  exact HO9.out
end Go.Proofs.Ytoiifopjipfjhaa
