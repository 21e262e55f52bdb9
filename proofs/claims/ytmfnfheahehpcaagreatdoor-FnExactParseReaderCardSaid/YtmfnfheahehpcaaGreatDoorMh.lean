/- ParseReader in the model. -/
import Derived.Test.YtmfnfheahehpcaaGreatDoorMf
namespace Go.Proofs.YtmfnfheahehpcaaGreatDoor
open Go.ChangeShapes Go.WideShapes Go.ChangeAt Go.RowKit Go.Joins
set_option linter.unusedVariables false
set_option linter.unusedSimpArgs false

set_option maxHeartbeats 8000000 in
set_option maxRecDepth 100000 in
theorem c_sParseReader (T : ByteArray) (w : World) (ht : T.size ≤ 1048576) : Calls Tryz.prog 17 #[.string T] w fun e w' => ∃ (k : Kn) (B : ByteArray) (s c en : Int) (b : Bool) (A : Option Addr) (cap : Nat), (PRd T k B s c en b ∧ k.ps.length ≤ 1048576) ∧ e = .returned (.tuple #[.agg #[.int .i64 k.o, .int .i64 k.l, .int .i64 k.m, .slice A k.ps.length cap, .int .i64 k.base, .int .i64 k.last, .string B, .int .i64 s, .int .i64 c, .int .i64 en], .bool b]) ∧ w'.ownsRow w.heap.size 53 2 (.slice A k.ps.length cap) k.ps.length (prs k.ps) ∧ Below w.heap.size w w' := by
  obtain ⟨V0, hV0⟩ : ∃ V0, V0 = w.alloc (.cells #[.int .i64 0, .int .i64 0, .int .i64 0, .slice none 0 0, .int .i64 0, .int .i64 0, .string ⟨#[]⟩, .int .i64 0, .int .i64 0, .int .i64 0] 39) := ⟨_, rfl⟩
  have kZ0 : Blk V0 w.heap.size 39 #[.int .i64 0, .int .i64 0, .int .i64 0, .slice none 0 0, .int .i64 0, .int .i64 0, .string ⟨#[]⟩, .int .i64 0, .int .i64 0, .int .i64 0] := by rw [hV0]; exact Blk.new w _ _
  have c0 : Below w.heap.size w V0 := by rw [hV0]; exact bel_alloc (Below.refl _ _) _
  have hz0 : w.heap.size + 1 ≤ V0.heap.size := by rw [hV0, World.size_alloc]; omega
  go_enter Tryz.func17, Tryz.ntmps17
  go_wp2_with fail
  rw [← hV0]
  clear hV0
  refine (c_l9Cut 124 T V0 ht).mono ?_
  rintro e W2 ⟨l, A1, cap, hmap, hll, rfl, hown, hb2⟩
  have kZ2 := kZ0.on hb2
  have c2 := c0.trans (hb2.mono c0.size)
  have hz2 := Nat.le_trans hz0 hb2.size
  have HP := hid (rdfl_cutL hmap)
  have hat := own_strs_at hown
  clear hown hb2 kZ0 c0
  by_cases h4 : l.length = 5
  case neg =>
    have HR := hid (prd_len HP.out h4)
    have h4i : ¬ ((l.length : Int) = 5) := by omega
    have hne4 : ((l.length : Int) != 5) = true := by simpa using h4i
    clear hmap hat
    obtain ⟨zc0, zc1, zc2, zc3, zc4, zc5, zc6, zc7, zc8, zc9⟩ := kZ2.cells10
    have fz0 := kZ2.frozen 0
    have fz1 := kZ2.frozen 1
    have fz2 := kZ2.frozen 2
    have fz3 := kZ2.frozen 3
    have fz4 := kZ2.frozen 4
    have fz5 := kZ2.frozen 5
    have fz6 := kZ2.frozen 6
    have fz7 := kZ2.frozen 7
    have fz8 := kZ2.frozen 8
    have fz9 := kZ2.frozen 9
    obtain ⟨j0, j1, j2, j3, j4, j5, j6, j7, j8, j9⟩ := (kZ2.put10 (.int .i64 0) (.int .i64 0) (.int .i64 0) (.slice none 0 0) (.int .i64 0) (.int .i64 0) (.string ⟨#[]⟩) (.int .i64 0) (.int .i64 0) (.int .i64 0)).cells10
    have HG := hid (gr10k (grown_refl W2 (some w.heap.size)) (.int .i64 0) (.int .i64 0) (.int .i64 0) (.slice none 0 0) (.int .i64 0) (.int .i64 0) (.string ⟨#[]⟩) (.int .i64 0) (.int .i64 0) (.int .i64 0))
    have HBB := hid (c2.trans (below_of_grown HG.out c2.size (fun g e => by cases e; exact Nat.le_refl _)))
    clear kZ2
    go_wp2
    (try simp only [Exit.inBlock, Exit.then])
    exact bodyPost_ret (v := .tuple #[.agg #[.int .i64 0, .int .i64 0, .int .i64 0, .slice none 0 0, .int .i64 0, .int .i64 0, .string ⟨#[]⟩, .int .i64 0, .int .i64 0, .int .i64 0], .bool false]) (by simp [results, Tryz.results17, go_sem, j0, j1, j2, j3, j4, j5, j6, j7, j8, j9]) rfl ⟨kn0, ⟨#[]⟩, 0, 0, 0, false, none, 0, ⟨HR.out, by simp [kn0]⟩, rfl, own_ps_nil _ _ _, HBB.out⟩
  have hlt : ∀ x ∈ l, x.size + 1 ≤ T.size := fun x hx => by
    have := cutL_lt 124 T.data.toList (by rw [← hmap]; simp; omega) x.data.toList (by rw [← hmap]; exact List.mem_map_of_mem hx)
    simpa using this
  have HT0 := hid (show ¬ T = ByteArray.empty from fun h => by
    have h1 := congrArg List.length hmap
    rw [List.length_map, h] at h1
    have h2 : (cutL 124 (ByteArray.empty.data.toList)).length = 1 := rfl
    omega)
  clear hmap hll
  obtain ⟨x0, x1, x2, x3, x4, rfl⟩ := five_of h4
  have HSZ := hid (show x0.size + 1 ≤ T.size ∧ x1.size + 1 ≤ T.size ∧ x2.size + 1 ≤ T.size ∧ x3.size + 1 ≤ T.size ∧ x4.size + 1 ≤ T.size from ⟨hlt x0 (by simp), hlt x1 (by simp), hlt x2 (by simp), hlt x3 (by simp), hlt x4 (by simp)⟩)
  obtain ⟨b0, off, rfl, hb0, hcells⟩ := hat.2.2.2 (by simp)
  have hcap := hat.1
  have HY := hid (show W2.cell? ⟨b0, off, none⟩ = some (.string x0) ∧ W2.cell? ⟨b0, off + 1, none⟩ = some (.string x1) ∧ W2.cell? ⟨b0, off + 2, none⟩ = some (.string x2) ∧ W2.cell? ⟨b0, off + 3, none⟩ = some (.string x3) ∧ W2.cell? ⟨b0, off + 4, none⟩ = some (.string x4) from ⟨by simpa using hcells 0 x0 rfl, hcells 1 x1 rfl, hcells 2 x2 rfl, hcells 3 x3 rfl, hcells 4 x4 rfl⟩)
  clear hcells hat hlt h4
  obtain ⟨Bt, hBt⟩ : ∃ Bt, Bt = undI x1 := ⟨_, rfl⟩
  have HBT := hid (show BtOf x1 Bt from by rw [hBt]; exact bt_of x1)
  have hBz : Bt.size ≤ maxLen := by rw [hBt]; have := undI_size x1; have := HSZ.out.2.1; unfold maxLen; omega
  have HED := hid (fun (v : World) => c_l3None x1 v)
  rw [← hBt] at HED
  clear hBt
  obtain ⟨y0, y1, y2, y3, y4⟩ := HY.out
  go_wp2_with fail
  clear y0 y1 y2 y3 y4
  refine (c_sParseKnown x0 W2 (by have := HSZ.out.1; omega)).mono ?_
  rintro e W4 ⟨k, bk, Aq, cq, ⟨hpk, hql⟩, rfl, hown, d4⟩
  have HPK := hid hpk
  have kZ4 := kZ2.on d4
  have hown4 := own_mono (B' := w.heap.size + 1) hown (by omega)
  have HLT := hid (show ∀ g, (Value.slice Aq k.ps.length cq).ownBlock = some g → w.heap.size < g from fun g hg => by have := (hown.lt g hg).1; omega)
  clear hpk hown
  obtain ⟨W5, hW5⟩ : ∃ W5, W5 = W4.alloc (.cells #[.int .i64 k.o, .int .i64 k.l, .int .i64 k.m, .slice Aq k.ps.length cq, .int .i64 k.base, .int .i64 k.last] 27) := ⟨_, rfl⟩
  have kS5 : Blk W5 W4.heap.size 27 #[.int .i64 k.o, .int .i64 k.l, .int .i64 k.m, .slice Aq k.ps.length cq, .int .i64 k.base, .int .i64 k.last] := by rw [hW5]; exact Blk.new W4 _ _
  have kZ5 : Blk W5 w.heap.size 39 #[.int .i64 0, .int .i64 0, .int .i64 0, .slice none 0 0, .int .i64 0, .int .i64 0, .string ⟨#[]⟩, .int .i64 0, .int .i64 0, .int .i64 0] := by rw [hW5]; exact kZ4.alloc _
  have d5 : Below W2.heap.size W2 W5 := by rw [hW5]; exact bel_alloc d4 _
  have hown5 : W5.ownsRow (w.heap.size + 1) 53 2 (.slice Aq k.ps.length cq) k.ps.length (prs k.ps) := by rw [hW5]; exact hown4.alloc _
  have y1 : (W4.alloc (.cells #[.int .i64 k.o, .int .i64 k.l, .int .i64 k.m, .slice Aq k.ps.length cq, .int .i64 k.base, .int .i64 k.last] 27)).cell? ⟨b0, off + 2, none⟩ = some (.string x2) := by rw [← hW5]; exact cell_kept HY.out.2.2.1 d5
  clear d4 kZ4 hown4
  go_wp2_with fail
  rw [← hW5]
  clear hW5 y1
  refine (c_l9NumK x2 W5 (by have := HSZ.out.2.2.1; omega)).mono ?_
  rintro e W6 ⟨⟨n0, bb0, rfl, hr0, hn0, -⟩, hb⟩
  have HN0 := hid hn0
  have kS6 := kS5.on hb
  have kZ6 := kZ5.on hb
  have d6 := d5.trans (hb.mono d5.size)
  have hown6 := own_on hown5 hb
  have y2 := cell_kept HY.out.2.2.2.1 d6
  clear hb hn0 kS5 kZ5 d5 hown5
  go_wp2_with fail
  clear y2
  refine (c_l9NumK x3 W6 (by have := HSZ.out.2.2.2.1; omega)).mono ?_
  rintro e W7 ⟨⟨n1, bb1, rfl, hr1, hn1, -⟩, hb⟩
  have HN1 := hid hn1
  have kS7 := kS6.on hb
  have kZ7 := kZ6.on hb
  have d7 := d6.trans (hb.mono d6.size)
  have hown7 := own_on hown6 hb
  have y2 := cell_kept HY.out.2.2.2.2 d7
  clear hb hn1 kS6 kZ6 d6 hown6
  go_wp2_with fail
  clear y2
  refine (c_l9NumK x4 W7 (by have := HSZ.out.2.2.2.2; omega)).mono ?_
  rintro e W8 ⟨⟨n2, bb2, rfl, hr2, hn2, -⟩, hb⟩
  have HN2 := hid hn2
  have kS8 := kS7.on hb
  have kZ8 := kZ7.on hb
  have d8 := d7.trans (hb.mono d7.size)
  have hown8 := own_on hown7 hb
  have y1 := cell_kept HY.out.2.1 d8
  obtain ⟨s0, s1, s2, s3, s4, s5⟩ := kS8.cells6
  have hr2' : -9223372036854775808 ≤ n2 ∧ n2 ≤ 9223372036854775807 := by omega
  clear hb hn2 kS7 kZ7 d7 hown7
  go_wp2_with fail
  have hS : W8.cell? ⟨W4.heap.size, 0, none⟩ = some (.int .i64 k.o) ∧ W8.cell? ⟨W4.heap.size, 1, none⟩ = some (.int .i64 k.l) ∧ W8.cell? ⟨W4.heap.size, 2, none⟩ = some (.int .i64 k.m) ∧ W8.cell? ⟨W4.heap.size, 3, none⟩ = some (.slice Aq k.ps.length cq) ∧ W8.cell? ⟨W4.heap.size, 4, none⟩ = some (.int .i64 k.base) ∧ W8.cell? ⟨W4.heap.size, 5, none⟩ = some (.int .i64 k.last) ∧ W8.cell? ⟨b0, off + 1, none⟩ = some (.string x1) ∧ True := ⟨s0, s1, s2, s3, s4, s5, y1, trivial⟩
  clear s0 s1 s2 s3 s4 s5 y1
  refine wp_region_noPanic ?_
  refine zb (T := (fun v => v.cell? ⟨W4.heap.size, 0, none⟩ = some (.int .i64 k.o) ∧ v.cell? ⟨W4.heap.size, 1, none⟩ = some (.int .i64 k.l) ∧ v.cell? ⟨W4.heap.size, 2, none⟩ = some (.int .i64 k.m) ∧ v.cell? ⟨W4.heap.size, 3, none⟩ = some (.slice Aq k.ps.length cq) ∧ v.cell? ⟨W4.heap.size, 4, none⟩ = some (.int .i64 k.base) ∧ v.cell? ⟨W4.heap.size, 5, none⟩ = some (.int .i64 k.last) ∧ v.cell? ⟨b0, off + 1, none⟩ = some (.string x1) ∧ True)) 10 (by kernel_rfl) (t7_drew hS) (fun hHeld => ?_)
  refine zk 0 ?_
  refine zk 1 ?_
  refine zk 2 ?_
  refine zk 3 ?_
  refine zk 5 ?_
  refine zk 6 ?_
  refine zk 7 ?_
  refine zr (rs := [4, 9]) ?_
  refine AllUp.cons (o := ?oz1_4) ?iz1_4 (fun K hK => ?sz1_4) (AllUp.cons (o := ?oz1_9) ?iz1_9 (fun K hK => ?sz1_9) AllUp.nil)
  case iz1_4 => (simp only [List.getElem?_toArray, List.getElem?_cons_succ, List.getElem?_cons_zero]; rfl)
  case iz1_9 => (simp only [List.getElem?_toArray, List.getElem?_cons_succ, List.getElem?_cons_zero]; rfl)
  case' sz1_4 =>
    (go_simp; (go_at_call 51; refine (HED.out _).mono ?_; rintro e w' ⟨rfl, rfl⟩))
    refine hK.out _ _ (fun _ => ?kz1_4) (fun hHeld0 => ?_)
    case kz1_4 => (try dsimp only); (first | with_reducible assumption | with_reducible exact t7_alloc (t7_drew hS) _ | exact t7_bel (by assumption) (by assumption) | assumption | exact t7_alloc (by assumption) _ | exact t7_alloc (t7_drew hS) _)
    (try clear hHeld)
    have hHeld := hHeld0 (by decide)
    clear hHeld0 hK K
    try simp only [Act.put, List.setIfInBounds_toArray, List.set_cons_zero, List.set_cons_succ]
    refine zk 8 ?_
    refine zr (rs := [9]) ?_
    refine AllUp.cons (o := ?oz1b1_9) ?iz1b1_9 (fun K hK => ?sz1b1_9) AllUp.nil
    case iz1b1_9 => (simp only [List.getElem?_toArray, List.getElem?_cons_succ, List.getElem?_cons_zero]; rfl)
    (go_simp; (have kN := Blk.new W8.drew 39 #[.int .i64 0, .int .i64 0, .int .i64 0, .slice none 0 0, .int .i64 0, .int .i64 0, .string ⟨#[]⟩, .int .i64 0, .int .i64 0, .int .i64 0]; obtain ⟨z0, z1, z2, z3, z4, z5, z6, z7, z8, z9⟩ := kN.cells10; have zf0 := kN.frozen 0; have zf1 := kN.frozen 1; have zf2 := kN.frozen 2; have zf3 := kN.frozen 3; have zf4 := kN.frozen 4; have zf5 := kN.frozen 5; have zf6 := kN.frozen 6; have zf7 := kN.frozen 7; have zf8 := kN.frozen 8; have zf9 := kN.frozen 9))
    refine hK.out _ _ (fun _ => ?kz1b1_9) (fun hHeld0 => ?_)
    case kz1b1_9 => (try dsimp only); (first | with_reducible assumption | with_reducible exact t7_alloc (t7_drew hS) _ | exact t7_bel (by assumption) (by assumption) | assumption | exact t7_alloc (by assumption) _ | exact t7_alloc (t7_drew hS) _)
    (try clear hHeld)
    have hHeld := hHeld0 (by decide)
    clear hHeld0 hK K
    try simp only [Act.put, List.setIfInBounds_toArray, List.set_cons_zero, List.set_cons_succ]
    refine zr (rs := [10]) ?_
    refine AllUp.cons (o := ?oz1b1_10) ?iz1b1_10 (fun K hK => ?sz1b1_10) AllUp.nil
    case iz1b1_10 => (simp only [List.getElem?_toArray, List.getElem?_cons_succ, List.getElem?_cons_zero]; rfl)
    (go_simp; (skip))
    refine hK.out _ _ (fun h => absurd rfl h) (fun _ => ?_)
    (try clear hHeld)
    clear hK K
    try simp only [Act.put, List.setIfInBounds_toArray, List.set_cons_zero, List.set_cons_succ]
    refine zd (by kernel_rfl) ?_ _
    refine NoPanic.normal ?_
  case' sz1_9 =>
    (go_simp; (have kN := Blk.new W8.drew 39 #[.int .i64 0, .int .i64 0, .int .i64 0, .slice none 0 0, .int .i64 0, .int .i64 0, .string ⟨#[]⟩, .int .i64 0, .int .i64 0, .int .i64 0]; obtain ⟨z0, z1, z2, z3, z4, z5, z6, z7, z8, z9⟩ := kN.cells10; have zf0 := kN.frozen 0; have zf1 := kN.frozen 1; have zf2 := kN.frozen 2; have zf3 := kN.frozen 3; have zf4 := kN.frozen 4; have zf5 := kN.frozen 5; have zf6 := kN.frozen 6; have zf7 := kN.frozen 7; have zf8 := kN.frozen 8; have zf9 := kN.frozen 9))
    refine hK.out _ _ (fun _ => ?kz1_9) (fun hHeld0 => ?_)
    case kz1_9 => (try dsimp only); (first | with_reducible assumption | with_reducible exact t7_alloc (t7_drew hS) _ | exact t7_bel (by assumption) (by assumption) | assumption | exact t7_alloc (by assumption) _ | exact t7_alloc (t7_drew hS) _)
    (try clear hHeld)
    have hHeld := hHeld0 (by decide)
    clear hHeld0 hK K
    try simp only [Act.put, List.setIfInBounds_toArray, List.set_cons_zero, List.set_cons_succ]
    refine zr (rs := [4]) ?_
    refine AllUp.cons (o := ?oz1b2_4) ?iz1b2_4 (fun K hK => ?sz1b2_4) AllUp.nil
    case iz1b2_4 => (simp only [List.getElem?_toArray, List.getElem?_cons_succ, List.getElem?_cons_zero]; rfl)
    (go_simp; (go_at_call 51; refine (HED.out _).mono ?_; rintro e w' ⟨rfl, rfl⟩))
    refine hK.out _ _ (fun _ => ?kz1b2_4) (fun hHeld0 => ?_)
    case kz1b2_4 => (try dsimp only); (first | with_reducible assumption | with_reducible exact t7_alloc (t7_drew hS) _ | exact t7_bel (by assumption) (by assumption) | assumption | exact t7_alloc (by assumption) _ | exact t7_alloc (t7_drew hS) _)
    (try clear hHeld)
    have hHeld := hHeld0 (by decide)
    clear hHeld0 hK K
    try simp only [Act.put, List.setIfInBounds_toArray, List.set_cons_zero, List.set_cons_succ]
    refine zk 8 ?_
    refine zr (rs := [10]) ?_
    refine AllUp.cons (o := ?oz1b2_10) ?iz1b2_10 (fun K hK => ?sz1b2_10) AllUp.nil
    case iz1b2_10 => (simp only [List.getElem?_toArray, List.getElem?_cons_succ, List.getElem?_cons_zero]; rfl)
    (go_simp; (skip))
    refine hK.out _ _ (fun h => absurd rfl h) (fun _ => ?_)
    (try clear hHeld)
    clear hK K
    try simp only [Act.put, List.setIfInBounds_toArray, List.set_cons_zero, List.set_cons_succ]
    refine zd (by kernel_rfl) ?_ _
    refine NoPanic.normal ?_
  all_goals
    clear z0 z1 z2 z3 z4 z5 z6 z7 z8 z9 zf0 zf1 zf2 zf3 zf4 zf5 zf6 zf7 zf8 zf9 hS
    obtain ⟨W9, hW9⟩ : ∃ W9, W9 = (W8.alloc (.cells #[.int .i64 k.o, .int .i64 k.l, .int .i64 k.m, .slice Aq k.ps.length cq, .int .i64 k.base, .int .i64 k.last, .string Bt, .int .i64 n0, .int .i64 n1, .int .i64 n2] 39)).drew := ⟨_, rfl⟩
    have HG9 := hid (show W8.grownBy W9 none by
      rw [hW9]
      exact grown_drew (grown_alloc (grown_refl W8 none) _))
    have kK9 : Blk W9 W8.heap.size 39 #[.int .i64 k.o, .int .i64 k.l, .int .i64 k.m, .slice Aq k.ps.length cq, .int .i64 k.base, .int .i64 k.last, .string Bt, .int .i64 n0, .int .i64 n1, .int .i64 n2] := by rw [hW9]; exact Blk.new W8 39 #[.int .i64 k.o, .int .i64 k.l, .int .i64 k.m, .slice Aq k.ps.length cq, .int .i64 k.base, .int .i64 k.last, .string Bt, .int .i64 n0, .int .i64 n1, .int .i64 n2]
    have kZ9 := kZ8.grown HG9.out (by simp)
    have hown9 := hown8.kept HG9.out (by
      cases hv : (Value.slice Aq k.ps.length cq).ownBlock with
      | none => exact .inl rfl
      | some g => exact .inr (by simp))
    have d9 : Below W2.heap.size W2 W9 := d8.trans (below_of_grown HG9.out d8.size (fun g e => by cases e))
    have c9 := c2.trans (d9.mono c2.size)
    have hNw : w.heap.size + 1 ≤ W8.heap.size := Nat.le_trans hz2 d8.size
    have hN9 : W8.heap.size + 1 ≤ W9.heap.size := kK9.lt
    clear kZ8 hown8 d8 HG9 kN kS8
    go_wp2_with fail
    rw [← hW9]
    clear hW9
    refine (c_sFormatReader_any k Aq cq W9.heap.size Bt n0 n1 n2 W9 (own_ps_at hown9) (Nat.le_refl _) hBz (pkn_wf HPK.out) hr2').mono ?_
    rintro e W10 ⟨rfl, hb⟩
    have kK10 := kK9.on hb
    have kZ10 := kZ9.on hb
    have c10 := c9.trans (hb.mono c9.size)
    have hown10 := own_on hown9 hb
    have hN10 := Nat.le_trans hN9 hb.size
    have hne1 : ¬ W8.heap.size = w.heap.size := by omega
    have hne2 : ¬ w.heap.size = W8.heap.size := by omega
    clear hb kK9 kZ9 c9 hown9 hN9
    obtain ⟨X, hX⟩ : ∃ X, X = rdV k Bt n0 n1 n2 := ⟨_, rfl⟩
    have HKO := hid (rd_is HP.out (kn_is HPK.out) HBT.out HN0.out HN1.out HN2.out)
    rw [← hX]
    have HX := hid hX
    have hownF := own_mono (B' := w.heap.size) hown10 (by omega)
    clear hX hown10
    by_cases he : X = T
    · have he1 : (X.toList == T.toList) = true := by rw [he]; simp
      have HR := hid (prd_yes HT0.out HKO.out (HX.out.symm.trans he))
      have HOW := hid (hownF.kept (gr10k (grown_refl W10 (some w.heap.size)) (.int .i64 k.o) (.int .i64 k.l) (.int .i64 k.m) (.slice Aq k.ps.length cq) (.int .i64 k.base) (.int .i64 k.last) (.string Bt) (.int .i64 n0) (.int .i64 n1) (.int .i64 n2)) (by
        cases hv : (Value.slice Aq k.ps.length cq).ownBlock with
        | none => exact .inl rfl
        | some g => exact .inr (fun e => by have := HLT.out g hv; injection e with e2; omega)))
      clear he hownF
      obtain ⟨m0, m1, m2, m3, m4, m5, m6, m7, m8, m9⟩ := kK10.cells10
      obtain ⟨zc0, zc1, zc2, zc3, zc4, zc5, zc6, zc7, zc8, zc9⟩ := kZ10.cells10
      have fz0 := kZ10.frozen 0
      have fz1 := kZ10.frozen 1
      have fz2 := kZ10.frozen 2
      have fz3 := kZ10.frozen 3
      have fz4 := kZ10.frozen 4
      have fz5 := kZ10.frozen 5
      have fz6 := kZ10.frozen 6
      have fz7 := kZ10.frozen 7
      have fz8 := kZ10.frozen 8
      have fz9 := kZ10.frozen 9
      obtain ⟨j0, j1, j2, j3, j4, j5, j6, j7, j8, j9⟩ := (kZ10.put10 (.int .i64 k.o) (.int .i64 k.l) (.int .i64 k.m) (.slice Aq k.ps.length cq) (.int .i64 k.base) (.int .i64 k.last) (.string Bt) (.int .i64 n0) (.int .i64 n1) (.int .i64 n2)).cells10
      have HG := hid (gr10k (grown_refl W10 (some w.heap.size)) (.int .i64 k.o) (.int .i64 k.l) (.int .i64 k.m) (.slice Aq k.ps.length cq) (.int .i64 k.base) (.int .i64 k.last) (.string Bt) (.int .i64 n0) (.int .i64 n1) (.int .i64 n2))
      have HBB := hid (c10.trans (below_of_grown HG.out c10.size (fun g e => by cases e; exact Nat.le_refl _)))
      clear kZ10
      go_wp2
      (try simp only [Exit.inBlock, Exit.then])
      exact bodyPost_ret (v := .tuple #[.agg #[.int .i64 k.o, .int .i64 k.l, .int .i64 k.m, .slice Aq k.ps.length cq, .int .i64 k.base, .int .i64 k.last, .string Bt, .int .i64 n0, .int .i64 n1, .int .i64 n2], .bool true]) (by simp [results, Tryz.results17, go_sem, j0, j1, j2, j3, j4, j5, j6, j7, j8, j9]) rfl ⟨k, Bt, n0, n1, n2, true, Aq, cq, ⟨HR.out, hql⟩, rfl, HOW.out, HBB.out⟩
    · have he1 : (X.toList == T.toList) = false := bytes_ne he
      have HR := hid (prd_no HKO.out (fun h => he (HX.out.trans h)))
      clear he
      obtain ⟨m0, m1, m2, m3, m4, m5, m6, m7, m8, m9⟩ := kK10.cells10
      obtain ⟨zc0, zc1, zc2, zc3, zc4, zc5, zc6, zc7, zc8, zc9⟩ := kZ10.cells10
      have fz0 := kZ10.frozen 0
      have fz1 := kZ10.frozen 1
      have fz2 := kZ10.frozen 2
      have fz3 := kZ10.frozen 3
      have fz4 := kZ10.frozen 4
      have fz5 := kZ10.frozen 5
      have fz6 := kZ10.frozen 6
      have fz7 := kZ10.frozen 7
      have fz8 := kZ10.frozen 8
      have fz9 := kZ10.frozen 9
      obtain ⟨j0, j1, j2, j3, j4, j5, j6, j7, j8, j9⟩ := (kZ10.put10 (.int .i64 0) (.int .i64 0) (.int .i64 0) (.slice none 0 0) (.int .i64 0) (.int .i64 0) (.string ⟨#[]⟩) (.int .i64 0) (.int .i64 0) (.int .i64 0)).cells10
      have HG := hid (gr10k (grown_refl W10 (some w.heap.size)) (.int .i64 0) (.int .i64 0) (.int .i64 0) (.slice none 0 0) (.int .i64 0) (.int .i64 0) (.string ⟨#[]⟩) (.int .i64 0) (.int .i64 0) (.int .i64 0))
      have HBB := hid (c10.trans (below_of_grown HG.out c10.size (fun g e => by cases e; exact Nat.le_refl _)))
      clear kZ10
      go_wp2
      (try simp only [Exit.inBlock, Exit.then])
      exact bodyPost_ret (v := .tuple #[.agg #[.int .i64 0, .int .i64 0, .int .i64 0, .slice none 0 0, .int .i64 0, .int .i64 0, .string ⟨#[]⟩, .int .i64 0, .int .i64 0, .int .i64 0], .bool false]) (by simp [results, Tryz.results17, go_sem, j0, j1, j2, j3, j4, j5, j6, j7, j8, j9]) rfl ⟨kn0, ⟨#[]⟩, 0, 0, 0, false, none, 0, ⟨HR.out, by simp [kn0]⟩, rfl, own_ps_nil _ _ _, HBB.out⟩

end Go.Proofs.YtmfnfheahehpcaaGreatDoor
