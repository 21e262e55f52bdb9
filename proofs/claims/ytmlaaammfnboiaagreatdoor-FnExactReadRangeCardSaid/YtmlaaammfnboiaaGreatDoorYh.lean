/- The contract of readHeader. The layout of the header and the errors are as the program's text lays them. -/
import Derived.Test.YtmlaaammfnboiaaGreatDoorYe
import Derived.BigRegion
import Derived.WalkMore
namespace Go.Proofs.YtmlaaammfnboiaaGreatDoor
open Go.ChangeShapes Go.WideShapes Go.ChangeAt Go.RowKit Go.Joins
set_option linter.unusedVariables false
set_option linter.unusedSimpArgs false

theorem Blk.put5y {w : World} {g : Nat} {t : TypeId} {a b c d e : Value} (h : Blk w g t #[a, b, c, d, e]) (a' b' c' d' e' : Value) : Blk (((((w.setCell ⟨g, 0, none⟩ a').setCell ⟨g, 1, none⟩ b').setCell ⟨g, 2, none⟩ c').setCell ⟨g, 3, none⟩ d').setCell ⟨g, 4, none⟩ e') g t #[a', b', c', d', e'] :=
 ((((h.set_ 0 a').set_ 1 b').set_ 2 c').set_ 3 d').set_ 4 e'

theorem inB_no {n lo hi : Int} (h : inB n lo hi = false) : ¬ (lo ≤ n ∧ n ≤ hi) := fun h2 => by rw [inB_iff.2 h2] at h; cases h

theorem or_first {b : Nat} (h : b < 256) : bits .or .i64 0 (b : Int) = (b : Int) := by
 have := (bits_nat .i64 63 (by decide) (fun n h0 h1 => IntWalk.i64_in n (by omega)) 0 b (by omega) (by omega)).2
 simpa using this

theorem or_next (T : List UInt8) (j k : Nat) (hk : k = j + 1) : bits .or .i64 (wrap64 (((bat T j : Nat) : Int) * 256)) ((bat T k : Nat) : Int) = ((pat2 T j : Nat) : Int) := by
 subst hk
 have h1 := bat_lt T j
 have h2 := bat_lt T (j + 1)
 have := (bits_nat .i64 63 (by decide) (fun n h0 h1 => IntWalk.i64_in n (by omega)) (bat T j * 256) (bat T (j + 1)) (by omega) (by omega)).2
 have e : (bat T j * 256 ||| bat T (j + 1)) = pat2 T j := by
  rw [pat2, Nat.mul_comm, show (256 : Nat) = 2 ^ 8 from rfl, Nat.two_pow_add_eq_or_of_lt h2]
 rw [e] at this
 have e2 : wrap64 (((bat T j : Nat) : Int) * 256) = ((bat T j * 256 : Nat) : Int) := by unfold wrap64; omega
 rw [e2]
 exact this

set_option maxHeartbeats 8000000 in
set_option maxRecDepth 100000 in
theorem c_readHeader (S : ByteArray) (w : World) (a0 a1 a2 : Addr) (hS : S.size ≤ maxLen) (hG : Glob0 w a0) : Calls Tryz.prog 176 #[.string S] w fun e w' => ((hdOk S.data.toList ∧ e = .returned (.tuple #[.agg #[.int .i64 (bat S.data.toList 0 : Nat), .int .i64 (bat S.data.toList 1 : Nat), .int .i64 (pat2 S.data.toList 2 : Nat), .int .i64 (pat2 S.data.toList 4 : Nat), .int .i64 (pat2 S.data.toList 6 : Nat)], .string (dr S 8), .nilIface])) ∨ (¬ hdOk S.data.toList ∧ e = .returned (.tuple #[.agg #[.int .i64 0, .int .i64 0, .int .i64 0, .int .i64 0, .int .i64 0], .string ByteArray.empty, errV a0]))) ∧ Below w.heap.size w w' := by
 unfold maxLen at hS
 have HG := hid hG
 have HB := hid (bel_alloc (bel_alloc (Below.refl _ w) (.cells #[.int .i64 0, .int .i64 0, .int .i64 0, .int .i64 0, .int .i64 0] 106)) (.cells #[.int .i64 0, .int .i64 0, .int .i64 0, .int .i64 0, .int .i64 0] 106))
 have HR := hid ((Blk.new w 106 #[.int .i64 0, .int .i64 0, .int .i64 0, .int .i64 0, .int .i64 0]).alloc (.cells #[.int .i64 0, .int .i64 0, .int .i64 0, .int .i64 0, .int .i64 0] 106))
 have HH := hid (Blk.top w (.cells #[.int .i64 0, .int .i64 0, .int .i64 0, .int .i64 0, .int .i64 0] 106) 106 #[.int .i64 0, .int .i64 0, .int .i64 0, .int .i64 0, .int .i64 0])
 obtain ⟨T, hT⟩ : ∃ T, T = S.data.toList := ⟨_, rfl⟩
 rw [← hT]
 have hTl : T.length = S.size := by rw [hT]; simp
 have hget := fun (j : Nat) (h : j < S.size) (w : World) => dr_get (P := Tryz.prog) Tryz.underlying9 h w
 have hcut := fun (j : Nat) (h : j < S.size) (w : World) => dr_cut (P := Tryz.prog) Tryz.underlying9 h w
 simp only [← hT] at hget
 have HGet := hid hget
 have HCut := hid hcut
 have HTl := hid hTl
 have HA := hid (fun (c lo hi n : Int) (v : World) => c_allows c lo hi n v)
 clear hG hget hcut hTl hT
 go_enter Tryz.func176, Tryz.ntmps176
 go_wp2_with fail
 go_step3
 go_wp2_with fail
 go_step3
 go_wp2_with fail
 obtain ⟨hb, hhb⟩ : ∃ hb, hb = w.heap.size + 1 := ⟨_, rfl⟩
 rw [← hhb] at HH ⊢
 obtain ⟨rb, hrb⟩ : ∃ rb, rb = w.heap.size := ⟨_, rfl⟩
 rw [← hrb] at HR
 obtain ⟨W0, hW0⟩ : ∃ W0, W0 = (w.alloc (.cells #[.int .i64 0, .int .i64 0, .int .i64 0, .int .i64 0, .int .i64 0] 106)).alloc (.cells #[.int .i64 0, .int .i64 0, .int .i64 0, .int .i64 0, .int .i64 0] 106) := ⟨_, rfl⟩
 rw [← hW0] at HB HR HH ⊢
 rw [← hrb]
 rw [show Value.string S = Value.string (dr S 0) from by rw [dr_zero]]
 have HLo := hid (show w.heap.size ≤ hb ∧ w.heap.size ≤ rb ∧ rb ≠ hb by omega)
 have HN3 := hid (show ¬ (rb = 3) ∧ ¬ (3 = rb) by have h1 : 3 < w.heap.size := World.block_lt_of_cell? _ _ HG.out.broken; have h2 := HLo.out.2.1; omega)
 have hlt : hb < W0.heap.size := HH.out.lt
 have hltr : rb < W0.heap.size := HR.out.lt
 clear hW0 hhb hrb
 refine wp_loop_rounds 6 ?_
 rw [rounds_succ]
 obtain ⟨q0, q1, q2, q3, q4⟩ := HH.out.cells5y
 obtain ⟨l0, l1, l2, l3, l4, l5, l6, l7, l8, l9, l10, l11, l12, l13, l14, lg⟩ := (HG.out.on HB.out).lay.cells
 go_wp2_with fail
 have HF := hid (Blk.new W0 54 #[.int .i64 1, .int .i64 181, .int .i64 181])
 replace HH := hid (HH.out.alloc (.cells #[.int .i64 1, .int .i64 181, .int .i64 181] 54))
 replace HR := hid (HR.out.alloc (.cells #[.int .i64 1, .int .i64 181, .int .i64 181] 54))
 replace HB := hid (bel_alloc HB.out (.cells #[.int .i64 1, .int .i64 181, .int .i64 181] 54))
 obtain ⟨fb0, hfb⟩ : ∃ fb, fb = W0.heap.size := ⟨_, rfl⟩
 obtain ⟨Wf0, hWf0⟩ : ∃ Wf0, Wf0 = W0.alloc (.cells #[.int .i64 1, .int .i64 181, .int .i64 181] 54) := ⟨_, rfl⟩
 rw [← hWf0, ← hfb] at HF
 rw [← hWf0] at HH HR HB
 rw [← hWf0, ← hfb]
 have HNe0 := hid (show fb0 ≠ hb by omega)
 clear q0 q1 q2 q3 q4 l0 l1 l2 l3 l4 l5 l6 l7 l8 l9 l10 l11 l12 l13 l14 lg hlt hltr hWf0 hfb
 have hlt : hb < Wf0.heap.size := HH.out.lt
 have hltr : rb < Wf0.heap.size := HR.out.lt
 have hltf : fb0 < Wf0.heap.size := HF.out.lt
 refine wp_loop_rounds 2 ?_
 rw [rounds_succ]
 obtain ⟨q0, q1, q2, q3, q4⟩ := HH.out.cells5y
 obtain ⟨y0, y1, y2⟩ := HF.out.cells3
 by_cases hj0 : 0 < S.size
 rotate_left
 ·have he := dr_empty (S := S) (j := 0) (by omega)
  have hne := hid (show ¬ hdOk T from fun h => by have h1 := h.1; have h2 := HTl.out; omega)
  clear hj0
  obtain ⟨r0, r1, r2, r3, r4⟩ := HR.out.cells5y
  have rf0 := HR.out.frozen 0
  have rf1 := HR.out.frozen 1
  have rf2 := HR.out.frozen 2
  have rf3 := HR.out.frozen 3
  have rf4 := HR.out.frozen 4
  have hgb := (HG.out.on HB.out).broken
  have hn3 := HN3.out.1
  have hn4 := HN3.out.2
  go_wp2_with fail
  go_region
  all_goals
   go_wp2
   rw [Exit.noGoto_ret]
   obtain ⟨Wz, hWz⟩ : ∃ Wz, Wz = (((((Wf0.setCell ⟨rb, 0, none⟩ (.int .i64 0)).setCell ⟨rb, 1, none⟩ (.int .i64 0)).setCell ⟨rb, 2, none⟩ (.int .i64 0)).setCell ⟨rb, 3, none⟩ (.int .i64 0)).setCell ⟨rb, 4, none⟩ (.int .i64 0)).drew := ⟨_, rfl⟩
   rw [← hWz]
   have HZ : Blk Wz rb 106 #[.int .i64 0, .int .i64 0, .int .i64 0, .int .i64 0, .int .i64 0] := by rw [hWz]; exact (HR.out.put5y _ _ _ _ _).drew
   have HBz : Below w.heap.size w Wz := by rw [hWz]; exact bel_drew (bel_set (bel_set (bel_set (bel_set (bel_set HB.out HLo.out.2.1 _) HLo.out.2.1 _) HLo.out.2.1 _) HLo.out.2.1 _) HLo.out.2.1 _)
   obtain ⟨z0, z1, z2, z3, z4⟩ := HZ.cells5y
   clear hWz
   exact bodyPost_ret (v := .tuple #[.agg #[.int .i64 0, .int .i64 0, .int .i64 0, .int .i64 0, .int .i64 0], .string { data := #[] }, errV a0]) (by simp [results, Tryz.results176, go_sem, z0, z1, z2, z3, z4]) rfl ⟨Or.inr ⟨hne.out, rfl⟩, HBz⟩
 have he := dr_not hj0
 have hg := HGet.out 0 hj0
 have hc := HCut.out 0 hj0
 have hbt := bat_lt T 0
 have hfr := HH.out.frozen 0
 go_wp2_with fail
 go_region
 rw [or_first (bat_lt T 0)]
 replace HR := hid (HR.out.far 0 (.int .i64 (bat T 0 : Nat)) HLo.out.2.2).drew
 replace HF := hid (HF.out.far 0 (.int .i64 (bat T 0 : Nat)) HNe0.out).drew
 replace HH := hid (show Blk (Wf0.setCell ⟨hb, 0, none⟩ (.int .i64 (bat T 0 : Nat))).drew hb 106 #[.int .i64 (bat T 0 : Nat), .int .i64 0, .int .i64 0, .int .i64 0, .int .i64 0] from (HH.out.set_ 0 (.int .i64 (bat T 0 : Nat))).drew)
 replace HB := hid (bel_drew (bel_set (p := ⟨hb, 0, none⟩) HB.out HLo.out.1 (.int .i64 (bat T 0 : Nat))))
 obtain ⟨W1, hW1⟩ : ∃ W1, W1 = (Wf0.setCell ⟨hb, 0, none⟩ (.int .i64 (bat T 0 : Nat))).drew := ⟨_, rfl⟩
 rw [← hW1] at HH HR HF HB
 rw [← hW1]
 have HJ0 := hid hj0
 clear q0 q1 q2 q3 q4 y0 y1 y2 he hg hbt hfr hlt hltr hltf hW1 hj0
 have hlt : hb < W1.heap.size := HH.out.lt
 have hltr : rb < W1.heap.size := HR.out.lt
 have hltf : fb0 < W1.heap.size := HF.out.lt
 go_wp2_with fail
 clear hc
 obtain ⟨y0, y1, y2⟩ := HF.out.cells3
 rw [rounds_succ]
 go_wp2_with fail
 have hS4 : W1.cell? ⟨fb0, 0, none⟩ = some (.int .i64 1) ∧ W1.cell? ⟨fb0, 1, none⟩ = some (.int .i64 181) ∧ W1.cell? ⟨fb0, 2, none⟩ = some (.int .i64 181) ∧ W1.cell? ⟨hb, 0, none⟩ = some (.int .i64 (bat T 0 : Nat)) ∧ Below W1.heap.size W1 W1 := ⟨HF.out.cell 0, HF.out.cell 1, HF.out.cell 2, HH.out.cell 0, Below.refl _ _⟩
 refine qbegin (S := (fun v => v.cell? ⟨fb0, 0, none⟩ = some (.int .i64 1) ∧ v.cell? ⟨fb0, 1, none⟩ = some (.int .i64 181) ∧ v.cell? ⟨fb0, 2, none⟩ = some (.int .i64 181) ∧ v.cell? ⟨hb, 0, none⟩ = some (.int .i64 (bat T 0 : Nat)) ∧ Below W1.heap.size W1 v)) (by kernel_rfl) (by kernel_rfl) (s4_drew hS4) ?_
 refine qk ?_
 refine qk ?_
 refine qk ?_
 refine qk ?_
 refine qc (fun wq hSq => HA.out 1 181 181 (bat T 0 : Nat) wq) (fun wq wr hbr hSq => s4_bel hbr hSq) ?_
 refine qk ?_
 refine wpQuiet_nil ?_
 intro wq hSq
 (try dsimp only at hSq)
 have hbq := hSq.2.2.2.2
 replace HH := hid (HH.out.on hbq)
 replace HR := hid (HR.out.on hbq)
 replace HB := hid (bel_trans HB.out hbq)
 clear hSq hS4 y0 y1 y2 hlt hltr hltf hbq HF
 rename World => Wq0
 have hlt : hb < Wq0.heap.size := HH.out.lt
 have hltr : rb < Wq0.heap.size := HR.out.lt
 cases hin0 : inB (bat T 0 : Nat) 181 181
 ·have hne := hid (show ¬ hdOk T from fun h => by have h1 := h.2.1; have h2 := inB_no hin0; omega)
  obtain ⟨r0, r1, r2, r3, r4⟩ := HR.out.cells5y
  have rf0 := HR.out.frozen 0
  have rf1 := HR.out.frozen 1
  have rf2 := HR.out.frozen 2
  have rf3 := HR.out.frozen 3
  have rf4 := HR.out.frozen 4
  have hgb := (HG.out.on HB.out).broken
  have hn3 := HN3.out.1
  have hn4 := HN3.out.2
  go_wp2_with fail
  go_region
  all_goals
   go_wp2
   rw [Exit.noGoto_ret]
   obtain ⟨Wz, hWz⟩ : ∃ Wz, Wz = (((((Wq0.setCell ⟨rb, 0, none⟩ (.int .i64 0)).setCell ⟨rb, 1, none⟩ (.int .i64 0)).setCell ⟨rb, 2, none⟩ (.int .i64 0)).setCell ⟨rb, 3, none⟩ (.int .i64 0)).setCell ⟨rb, 4, none⟩ (.int .i64 0)).drew := ⟨_, rfl⟩
   rw [← hWz]
   have HZ : Blk Wz rb 106 #[.int .i64 0, .int .i64 0, .int .i64 0, .int .i64 0, .int .i64 0] := by rw [hWz]; exact (HR.out.put5y _ _ _ _ _).drew
   have HBz : Below w.heap.size w Wz := by rw [hWz]; exact bel_drew (bel_set (bel_set (bel_set (bel_set (bel_set HB.out HLo.out.2.1 _) HLo.out.2.1 _) HLo.out.2.1 _) HLo.out.2.1 _) HLo.out.2.1 _)
   obtain ⟨z0, z1, z2, z3, z4⟩ := HZ.cells5y
   clear hWz
   exact bodyPost_ret (v := .tuple #[.agg #[.int .i64 0, .int .i64 0, .int .i64 0, .int .i64 0, .int .i64 0], .string { data := #[] }, errV a0]) (by simp [results, Tryz.results176, go_sem, z0, z1, z2, z3, z4]) rfl ⟨Or.inr ⟨hne.out, rfl⟩, HBz⟩
 have HI0 := hid (inB_iff.1 hin0)
 go_wp2_with fail
 clear hin0
 rename_i k1 k2 b2 h1
 clear h1 b2 k2 k1
 rw [rounds_succ]
 obtain ⟨q0, q1, q2, q3, q4⟩ := HH.out.cells5y
 obtain ⟨l0, l1, l2, l3, l4, l5, l6, l7, l8, l9, l10, l11, l12, l13, l14, lg⟩ := (HG.out.on HB.out).lay.cells
 go_wp2_with fail
 have HF := hid (Blk.new Wq0 54 #[.int .i64 1, .int .i64 0, .int .i64 1])
 replace HH := hid (HH.out.alloc (.cells #[.int .i64 1, .int .i64 0, .int .i64 1] 54))
 replace HR := hid (HR.out.alloc (.cells #[.int .i64 1, .int .i64 0, .int .i64 1] 54))
 replace HB := hid (bel_alloc HB.out (.cells #[.int .i64 1, .int .i64 0, .int .i64 1] 54))
 obtain ⟨fb1, hfb⟩ : ∃ fb, fb = Wq0.heap.size := ⟨_, rfl⟩
 obtain ⟨Wf1, hWf1⟩ : ∃ Wf1, Wf1 = Wq0.alloc (.cells #[.int .i64 1, .int .i64 0, .int .i64 1] 54) := ⟨_, rfl⟩
 rw [← hWf1, ← hfb] at HF
 rw [← hWf1] at HH HR HB
 rw [← hWf1, ← hfb]
 have HNe1 := hid (show fb1 ≠ hb by omega)
 clear q0 q1 q2 q3 q4 l0 l1 l2 l3 l4 l5 l6 l7 l8 l9 l10 l11 l12 l13 l14 lg hlt hltr hWf1 hfb
 have hlt : hb < Wf1.heap.size := HH.out.lt
 have hltr : rb < Wf1.heap.size := HR.out.lt
 have hltf : fb1 < Wf1.heap.size := HF.out.lt
 refine wp_loop_rounds 2 ?_
 rw [rounds_succ]
 obtain ⟨q0, q1, q2, q3, q4⟩ := HH.out.cells5y
 obtain ⟨y0, y1, y2⟩ := HF.out.cells3
 by_cases hj1 : 1 < S.size
 rotate_left
 ·have he := dr_empty (S := S) (j := 1) (by omega)
  have hne := hid (show ¬ hdOk T from fun h => by have h1 := h.1; have h2 := HTl.out; omega)
  clear hj1
  obtain ⟨r0, r1, r2, r3, r4⟩ := HR.out.cells5y
  have rf0 := HR.out.frozen 0
  have rf1 := HR.out.frozen 1
  have rf2 := HR.out.frozen 2
  have rf3 := HR.out.frozen 3
  have rf4 := HR.out.frozen 4
  have hgb := (HG.out.on HB.out).broken
  have hn3 := HN3.out.1
  have hn4 := HN3.out.2
  go_wp2_with fail
  go_region
  all_goals
   go_wp2
   rw [Exit.noGoto_ret]
   obtain ⟨Wz, hWz⟩ : ∃ Wz, Wz = (((((Wf1.setCell ⟨rb, 0, none⟩ (.int .i64 0)).setCell ⟨rb, 1, none⟩ (.int .i64 0)).setCell ⟨rb, 2, none⟩ (.int .i64 0)).setCell ⟨rb, 3, none⟩ (.int .i64 0)).setCell ⟨rb, 4, none⟩ (.int .i64 0)).drew := ⟨_, rfl⟩
   rw [← hWz]
   have HZ : Blk Wz rb 106 #[.int .i64 0, .int .i64 0, .int .i64 0, .int .i64 0, .int .i64 0] := by rw [hWz]; exact (HR.out.put5y _ _ _ _ _).drew
   have HBz : Below w.heap.size w Wz := by rw [hWz]; exact bel_drew (bel_set (bel_set (bel_set (bel_set (bel_set HB.out HLo.out.2.1 _) HLo.out.2.1 _) HLo.out.2.1 _) HLo.out.2.1 _) HLo.out.2.1 _)
   obtain ⟨z0, z1, z2, z3, z4⟩ := HZ.cells5y
   clear hWz
   exact bodyPost_ret (v := .tuple #[.agg #[.int .i64 0, .int .i64 0, .int .i64 0, .int .i64 0, .int .i64 0], .string { data := #[] }, errV a0]) (by simp [results, Tryz.results176, go_sem, z0, z1, z2, z3, z4]) rfl ⟨Or.inr ⟨hne.out, rfl⟩, HBz⟩
 have he := dr_not hj1
 have hg := HGet.out 1 hj1
 have hc := HCut.out 1 hj1
 have hbt := bat_lt T 1
 have hfr := HH.out.frozen 1
 go_wp2_with fail
 go_region
 rw [or_first (bat_lt T 1)]
 replace HR := hid (HR.out.far 1 (.int .i64 (bat T 1 : Nat)) HLo.out.2.2).drew
 replace HF := hid (HF.out.far 1 (.int .i64 (bat T 1 : Nat)) HNe1.out).drew
 replace HH := hid (show Blk (Wf1.setCell ⟨hb, 1, none⟩ (.int .i64 (bat T 1 : Nat))).drew hb 106 #[.int .i64 (bat T 0 : Nat), .int .i64 (bat T 1 : Nat), .int .i64 0, .int .i64 0, .int .i64 0] from (HH.out.set_ 1 (.int .i64 (bat T 1 : Nat))).drew)
 replace HB := hid (bel_drew (bel_set (p := ⟨hb, 1, none⟩) HB.out HLo.out.1 (.int .i64 (bat T 1 : Nat))))
 obtain ⟨W2, hW2⟩ : ∃ W2, W2 = (Wf1.setCell ⟨hb, 1, none⟩ (.int .i64 (bat T 1 : Nat))).drew := ⟨_, rfl⟩
 rw [← hW2] at HH HR HF HB
 rw [← hW2]
 have HJ1 := hid hj1
 clear q0 q1 q2 q3 q4 y0 y1 y2 he hg hbt hfr hlt hltr hltf hW2 hj1
 have hlt : hb < W2.heap.size := HH.out.lt
 have hltr : rb < W2.heap.size := HR.out.lt
 have hltf : fb1 < W2.heap.size := HF.out.lt
 go_wp2_with fail
 clear hc
 obtain ⟨y0, y1, y2⟩ := HF.out.cells3
 rw [rounds_succ]
 go_wp2_with fail
 have hS4 : W2.cell? ⟨fb1, 0, none⟩ = some (.int .i64 1) ∧ W2.cell? ⟨fb1, 1, none⟩ = some (.int .i64 0) ∧ W2.cell? ⟨fb1, 2, none⟩ = some (.int .i64 1) ∧ W2.cell? ⟨hb, 1, none⟩ = some (.int .i64 (bat T 1 : Nat)) ∧ Below W2.heap.size W2 W2 := ⟨HF.out.cell 0, HF.out.cell 1, HF.out.cell 2, HH.out.cell 1, Below.refl _ _⟩
 refine qbegin (S := (fun v => v.cell? ⟨fb1, 0, none⟩ = some (.int .i64 1) ∧ v.cell? ⟨fb1, 1, none⟩ = some (.int .i64 0) ∧ v.cell? ⟨fb1, 2, none⟩ = some (.int .i64 1) ∧ v.cell? ⟨hb, 1, none⟩ = some (.int .i64 (bat T 1 : Nat)) ∧ Below W2.heap.size W2 v)) (by kernel_rfl) (by kernel_rfl) (s4_drew hS4) ?_
 refine qk ?_
 refine qk ?_
 refine qk ?_
 refine qk ?_
 refine qc (fun wq hSq => HA.out 1 0 1 (bat T 1 : Nat) wq) (fun wq wr hbr hSq => s4_bel hbr hSq) ?_
 refine qk ?_
 refine wpQuiet_nil ?_
 intro wq hSq
 (try dsimp only at hSq)
 have hbq := hSq.2.2.2.2
 replace HH := hid (HH.out.on hbq)
 replace HR := hid (HR.out.on hbq)
 replace HB := hid (bel_trans HB.out hbq)
 clear hSq hS4 y0 y1 y2 hlt hltr hltf hbq HF
 rename World => Wq1
 have hlt : hb < Wq1.heap.size := HH.out.lt
 have hltr : rb < Wq1.heap.size := HR.out.lt
 cases hin1 : inB (bat T 1 : Nat) 0 1
 ·have hne := hid (show ¬ hdOk T from fun h => by have h1 := h.2.2.1; have h2 := inB_no hin1; omega)
  obtain ⟨r0, r1, r2, r3, r4⟩ := HR.out.cells5y
  have rf0 := HR.out.frozen 0
  have rf1 := HR.out.frozen 1
  have rf2 := HR.out.frozen 2
  have rf3 := HR.out.frozen 3
  have rf4 := HR.out.frozen 4
  have hgb := (HG.out.on HB.out).broken
  have hn3 := HN3.out.1
  have hn4 := HN3.out.2
  go_wp2_with fail
  go_region
  all_goals
   go_wp2
   rw [Exit.noGoto_ret]
   obtain ⟨Wz, hWz⟩ : ∃ Wz, Wz = (((((Wq1.setCell ⟨rb, 0, none⟩ (.int .i64 0)).setCell ⟨rb, 1, none⟩ (.int .i64 0)).setCell ⟨rb, 2, none⟩ (.int .i64 0)).setCell ⟨rb, 3, none⟩ (.int .i64 0)).setCell ⟨rb, 4, none⟩ (.int .i64 0)).drew := ⟨_, rfl⟩
   rw [← hWz]
   have HZ : Blk Wz rb 106 #[.int .i64 0, .int .i64 0, .int .i64 0, .int .i64 0, .int .i64 0] := by rw [hWz]; exact (HR.out.put5y _ _ _ _ _).drew
   have HBz : Below w.heap.size w Wz := by rw [hWz]; exact bel_drew (bel_set (bel_set (bel_set (bel_set (bel_set HB.out HLo.out.2.1 _) HLo.out.2.1 _) HLo.out.2.1 _) HLo.out.2.1 _) HLo.out.2.1 _)
   obtain ⟨z0, z1, z2, z3, z4⟩ := HZ.cells5y
   clear hWz
   exact bodyPost_ret (v := .tuple #[.agg #[.int .i64 0, .int .i64 0, .int .i64 0, .int .i64 0, .int .i64 0], .string { data := #[] }, errV a0]) (by simp [results, Tryz.results176, go_sem, z0, z1, z2, z3, z4]) rfl ⟨Or.inr ⟨hne.out, rfl⟩, HBz⟩
 have HI1 := hid (inB_iff.1 hin1)
 go_wp2_with fail
 clear hin1
 rename_i k1 k2 b2 h1
 clear h1 b2 k2 k1
 rw [rounds_succ]
 obtain ⟨q0, q1, q2, q3, q4⟩ := HH.out.cells5y
 obtain ⟨l0, l1, l2, l3, l4, l5, l6, l7, l8, l9, l10, l11, l12, l13, l14, lg⟩ := (HG.out.on HB.out).lay.cells
 go_wp2_with fail
 have HF := hid (Blk.new Wq1 54 #[.int .i64 2, .int .i64 0, .int .i64 39])
 replace HH := hid (HH.out.alloc (.cells #[.int .i64 2, .int .i64 0, .int .i64 39] 54))
 replace HR := hid (HR.out.alloc (.cells #[.int .i64 2, .int .i64 0, .int .i64 39] 54))
 replace HB := hid (bel_alloc HB.out (.cells #[.int .i64 2, .int .i64 0, .int .i64 39] 54))
 obtain ⟨fb2, hfb⟩ : ∃ fb, fb = Wq1.heap.size := ⟨_, rfl⟩
 obtain ⟨Wf2, hWf2⟩ : ∃ Wf2, Wf2 = Wq1.alloc (.cells #[.int .i64 2, .int .i64 0, .int .i64 39] 54) := ⟨_, rfl⟩
 rw [← hWf2, ← hfb] at HF
 rw [← hWf2] at HH HR HB
 rw [← hWf2, ← hfb]
 have HNe2 := hid (show fb2 ≠ hb by omega)
 clear q0 q1 q2 q3 q4 l0 l1 l2 l3 l4 l5 l6 l7 l8 l9 l10 l11 l12 l13 l14 lg hlt hltr hWf2 hfb
 have hlt : hb < Wf2.heap.size := HH.out.lt
 have hltr : rb < Wf2.heap.size := HR.out.lt
 have hltf : fb2 < Wf2.heap.size := HF.out.lt
 refine wp_loop_rounds 3 ?_
 rw [rounds_succ]
 obtain ⟨q0, q1, q2, q3, q4⟩ := HH.out.cells5y
 obtain ⟨y0, y1, y2⟩ := HF.out.cells3
 by_cases hj2 : 2 < S.size
 rotate_left
 ·have he := dr_empty (S := S) (j := 2) (by omega)
  have hne := hid (show ¬ hdOk T from fun h => by have h1 := h.1; have h2 := HTl.out; omega)
  clear hj2
  obtain ⟨r0, r1, r2, r3, r4⟩ := HR.out.cells5y
  have rf0 := HR.out.frozen 0
  have rf1 := HR.out.frozen 1
  have rf2 := HR.out.frozen 2
  have rf3 := HR.out.frozen 3
  have rf4 := HR.out.frozen 4
  have hgb := (HG.out.on HB.out).broken
  have hn3 := HN3.out.1
  have hn4 := HN3.out.2
  go_wp2_with fail
  go_region
  all_goals
   go_wp2
   rw [Exit.noGoto_ret]
   obtain ⟨Wz, hWz⟩ : ∃ Wz, Wz = (((((Wf2.setCell ⟨rb, 0, none⟩ (.int .i64 0)).setCell ⟨rb, 1, none⟩ (.int .i64 0)).setCell ⟨rb, 2, none⟩ (.int .i64 0)).setCell ⟨rb, 3, none⟩ (.int .i64 0)).setCell ⟨rb, 4, none⟩ (.int .i64 0)).drew := ⟨_, rfl⟩
   rw [← hWz]
   have HZ : Blk Wz rb 106 #[.int .i64 0, .int .i64 0, .int .i64 0, .int .i64 0, .int .i64 0] := by rw [hWz]; exact (HR.out.put5y _ _ _ _ _).drew
   have HBz : Below w.heap.size w Wz := by rw [hWz]; exact bel_drew (bel_set (bel_set (bel_set (bel_set (bel_set HB.out HLo.out.2.1 _) HLo.out.2.1 _) HLo.out.2.1 _) HLo.out.2.1 _) HLo.out.2.1 _)
   obtain ⟨z0, z1, z2, z3, z4⟩ := HZ.cells5y
   clear hWz
   exact bodyPost_ret (v := .tuple #[.agg #[.int .i64 0, .int .i64 0, .int .i64 0, .int .i64 0, .int .i64 0], .string { data := #[] }, errV a0]) (by simp [results, Tryz.results176, go_sem, z0, z1, z2, z3, z4]) rfl ⟨Or.inr ⟨hne.out, rfl⟩, HBz⟩
 have he := dr_not hj2
 have hg := HGet.out 2 hj2
 have hc := HCut.out 2 hj2
 have hbt := bat_lt T 2
 have hfr := HH.out.frozen 2
 go_wp2_with fail
 go_region
 rw [or_first (bat_lt T 2)]
 replace HR := hid (HR.out.far 2 (.int .i64 (bat T 2 : Nat)) HLo.out.2.2).drew
 replace HF := hid (HF.out.far 2 (.int .i64 (bat T 2 : Nat)) HNe2.out).drew
 replace HH := hid (show Blk (Wf2.setCell ⟨hb, 2, none⟩ (.int .i64 (bat T 2 : Nat))).drew hb 106 #[.int .i64 (bat T 0 : Nat), .int .i64 (bat T 1 : Nat), .int .i64 (bat T 2 : Nat), .int .i64 0, .int .i64 0] from (HH.out.set_ 2 (.int .i64 (bat T 2 : Nat))).drew)
 replace HB := hid (bel_drew (bel_set (p := ⟨hb, 2, none⟩) HB.out HLo.out.1 (.int .i64 (bat T 2 : Nat))))
 obtain ⟨W3, hW3⟩ : ∃ W3, W3 = (Wf2.setCell ⟨hb, 2, none⟩ (.int .i64 (bat T 2 : Nat))).drew := ⟨_, rfl⟩
 rw [← hW3] at HH HR HF HB
 rw [← hW3]
 have HJ2 := hid hj2
 clear q0 q1 q2 q3 q4 y0 y1 y2 he hg hbt hfr hlt hltr hltf hW3 hj2
 have hlt : hb < W3.heap.size := HH.out.lt
 have hltr : rb < W3.heap.size := HR.out.lt
 have hltf : fb2 < W3.heap.size := HF.out.lt
 go_wp2_with fail
 clear hc
 rw [rounds_succ]
 obtain ⟨q0, q1, q2, q3, q4⟩ := HH.out.cells5y
 obtain ⟨y0, y1, y2⟩ := HF.out.cells3
 by_cases hj3 : 3 < S.size
 rotate_left
 ·have he := dr_empty (S := S) (j := 3) (by omega)
  have hne := hid (show ¬ hdOk T from fun h => by have h1 := h.1; have h2 := HTl.out; omega)
  clear hj3
  obtain ⟨r0, r1, r2, r3, r4⟩ := HR.out.cells5y
  have rf0 := HR.out.frozen 0
  have rf1 := HR.out.frozen 1
  have rf2 := HR.out.frozen 2
  have rf3 := HR.out.frozen 3
  have rf4 := HR.out.frozen 4
  have hgb := (HG.out.on HB.out).broken
  have hn3 := HN3.out.1
  have hn4 := HN3.out.2
  go_wp2_with fail
  go_region
  all_goals
   go_wp2
   rw [Exit.noGoto_ret]
   obtain ⟨Wz, hWz⟩ : ∃ Wz, Wz = (((((W3.setCell ⟨rb, 0, none⟩ (.int .i64 0)).setCell ⟨rb, 1, none⟩ (.int .i64 0)).setCell ⟨rb, 2, none⟩ (.int .i64 0)).setCell ⟨rb, 3, none⟩ (.int .i64 0)).setCell ⟨rb, 4, none⟩ (.int .i64 0)).drew := ⟨_, rfl⟩
   rw [← hWz]
   have HZ : Blk Wz rb 106 #[.int .i64 0, .int .i64 0, .int .i64 0, .int .i64 0, .int .i64 0] := by rw [hWz]; exact (HR.out.put5y _ _ _ _ _).drew
   have HBz : Below w.heap.size w Wz := by rw [hWz]; exact bel_drew (bel_set (bel_set (bel_set (bel_set (bel_set HB.out HLo.out.2.1 _) HLo.out.2.1 _) HLo.out.2.1 _) HLo.out.2.1 _) HLo.out.2.1 _)
   obtain ⟨z0, z1, z2, z3, z4⟩ := HZ.cells5y
   clear hWz
   exact bodyPost_ret (v := .tuple #[.agg #[.int .i64 0, .int .i64 0, .int .i64 0, .int .i64 0, .int .i64 0], .string { data := #[] }, errV a0]) (by simp [results, Tryz.results176, go_sem, z0, z1, z2, z3, z4]) rfl ⟨Or.inr ⟨hne.out, rfl⟩, HBz⟩
 have he := dr_not hj3
 have hg := HGet.out 3 hj3
 have hc := HCut.out 3 hj3
 have hbt := bat_lt T 3
 have hfr := HH.out.frozen 2
 go_wp2_with fail
 go_region
 rw [or_next T 2 3 rfl]
 replace HR := hid (HR.out.far 2 (.int .i64 (pat2 T 2 : Nat)) HLo.out.2.2).drew
 replace HF := hid (HF.out.far 2 (.int .i64 (pat2 T 2 : Nat)) HNe2.out).drew
 replace HH := hid (show Blk (W3.setCell ⟨hb, 2, none⟩ (.int .i64 (pat2 T 2 : Nat))).drew hb 106 #[.int .i64 (bat T 0 : Nat), .int .i64 (bat T 1 : Nat), .int .i64 (pat2 T 2 : Nat), .int .i64 0, .int .i64 0] from (HH.out.set_ 2 (.int .i64 (pat2 T 2 : Nat))).drew)
 replace HB := hid (bel_drew (bel_set (p := ⟨hb, 2, none⟩) HB.out HLo.out.1 (.int .i64 (pat2 T 2 : Nat))))
 obtain ⟨W4, hW4⟩ : ∃ W4, W4 = (W3.setCell ⟨hb, 2, none⟩ (.int .i64 (pat2 T 2 : Nat))).drew := ⟨_, rfl⟩
 rw [← hW4] at HH HR HF HB
 rw [← hW4]
 have HJ3 := hid hj3
 clear q0 q1 q2 q3 q4 y0 y1 y2 he hg hbt hfr hlt hltr hltf hW4 hj3
 have hlt : hb < W4.heap.size := HH.out.lt
 have hltr : rb < W4.heap.size := HR.out.lt
 have hltf : fb2 < W4.heap.size := HF.out.lt
 go_wp2_with fail
 clear hc
 obtain ⟨y0, y1, y2⟩ := HF.out.cells3
 rw [rounds_succ]
 go_wp2_with fail
 have hS4 : W4.cell? ⟨fb2, 0, none⟩ = some (.int .i64 2) ∧ W4.cell? ⟨fb2, 1, none⟩ = some (.int .i64 0) ∧ W4.cell? ⟨fb2, 2, none⟩ = some (.int .i64 39) ∧ W4.cell? ⟨hb, 2, none⟩ = some (.int .i64 (pat2 T 2 : Nat)) ∧ Below W4.heap.size W4 W4 := ⟨HF.out.cell 0, HF.out.cell 1, HF.out.cell 2, HH.out.cell 2, Below.refl _ _⟩
 refine qbegin (S := (fun v => v.cell? ⟨fb2, 0, none⟩ = some (.int .i64 2) ∧ v.cell? ⟨fb2, 1, none⟩ = some (.int .i64 0) ∧ v.cell? ⟨fb2, 2, none⟩ = some (.int .i64 39) ∧ v.cell? ⟨hb, 2, none⟩ = some (.int .i64 (pat2 T 2 : Nat)) ∧ Below W4.heap.size W4 v)) (by kernel_rfl) (by kernel_rfl) (s4_drew hS4) ?_
 refine qk ?_
 refine qk ?_
 refine qk ?_
 refine qk ?_
 refine qc (fun wq hSq => HA.out 2 0 39 (pat2 T 2 : Nat) wq) (fun wq wr hbr hSq => s4_bel hbr hSq) ?_
 refine qk ?_
 refine wpQuiet_nil ?_
 intro wq hSq
 (try dsimp only at hSq)
 have hbq := hSq.2.2.2.2
 replace HH := hid (HH.out.on hbq)
 replace HR := hid (HR.out.on hbq)
 replace HB := hid (bel_trans HB.out hbq)
 clear hSq hS4 y0 y1 y2 hlt hltr hltf hbq HF
 rename World => Wq2
 have hlt : hb < Wq2.heap.size := HH.out.lt
 have hltr : rb < Wq2.heap.size := HR.out.lt
 cases hin2 : inB (pat2 T 2 : Nat) 0 39
 ·have hne := hid (show ¬ hdOk T from fun h => by have h1 := h.2.2.2.1; have h2 := inB_no hin2; omega)
  obtain ⟨r0, r1, r2, r3, r4⟩ := HR.out.cells5y
  have rf0 := HR.out.frozen 0
  have rf1 := HR.out.frozen 1
  have rf2 := HR.out.frozen 2
  have rf3 := HR.out.frozen 3
  have rf4 := HR.out.frozen 4
  have hgb := (HG.out.on HB.out).broken
  have hn3 := HN3.out.1
  have hn4 := HN3.out.2
  go_wp2_with fail
  go_region
  all_goals
   go_wp2
   rw [Exit.noGoto_ret]
   obtain ⟨Wz, hWz⟩ : ∃ Wz, Wz = (((((Wq2.setCell ⟨rb, 0, none⟩ (.int .i64 0)).setCell ⟨rb, 1, none⟩ (.int .i64 0)).setCell ⟨rb, 2, none⟩ (.int .i64 0)).setCell ⟨rb, 3, none⟩ (.int .i64 0)).setCell ⟨rb, 4, none⟩ (.int .i64 0)).drew := ⟨_, rfl⟩
   rw [← hWz]
   have HZ : Blk Wz rb 106 #[.int .i64 0, .int .i64 0, .int .i64 0, .int .i64 0, .int .i64 0] := by rw [hWz]; exact (HR.out.put5y _ _ _ _ _).drew
   have HBz : Below w.heap.size w Wz := by rw [hWz]; exact bel_drew (bel_set (bel_set (bel_set (bel_set (bel_set HB.out HLo.out.2.1 _) HLo.out.2.1 _) HLo.out.2.1 _) HLo.out.2.1 _) HLo.out.2.1 _)
   obtain ⟨z0, z1, z2, z3, z4⟩ := HZ.cells5y
   clear hWz
   exact bodyPost_ret (v := .tuple #[.agg #[.int .i64 0, .int .i64 0, .int .i64 0, .int .i64 0, .int .i64 0], .string { data := #[] }, errV a0]) (by simp [results, Tryz.results176, go_sem, z0, z1, z2, z3, z4]) rfl ⟨Or.inr ⟨hne.out, rfl⟩, HBz⟩
 have HI2 := hid (inB_iff.1 hin2)
 go_wp2_with fail
 clear hin2
 rename_i k1 k2 b2 h1
 clear h1 b2 k2 k1
 rw [rounds_succ]
 obtain ⟨q0, q1, q2, q3, q4⟩ := HH.out.cells5y
 obtain ⟨l0, l1, l2, l3, l4, l5, l6, l7, l8, l9, l10, l11, l12, l13, l14, lg⟩ := (HG.out.on HB.out).lay.cells
 go_wp2_with fail
 have HF := hid (Blk.new Wq2 54 #[.int .i64 2, .int .i64 1, .int .i64 64])
 replace HH := hid (HH.out.alloc (.cells #[.int .i64 2, .int .i64 1, .int .i64 64] 54))
 replace HR := hid (HR.out.alloc (.cells #[.int .i64 2, .int .i64 1, .int .i64 64] 54))
 replace HB := hid (bel_alloc HB.out (.cells #[.int .i64 2, .int .i64 1, .int .i64 64] 54))
 obtain ⟨fb3, hfb⟩ : ∃ fb, fb = Wq2.heap.size := ⟨_, rfl⟩
 obtain ⟨Wf3, hWf3⟩ : ∃ Wf3, Wf3 = Wq2.alloc (.cells #[.int .i64 2, .int .i64 1, .int .i64 64] 54) := ⟨_, rfl⟩
 rw [← hWf3, ← hfb] at HF
 rw [← hWf3] at HH HR HB
 rw [← hWf3, ← hfb]
 have HNe3 := hid (show fb3 ≠ hb by omega)
 clear q0 q1 q2 q3 q4 l0 l1 l2 l3 l4 l5 l6 l7 l8 l9 l10 l11 l12 l13 l14 lg hlt hltr hWf3 hfb
 have hlt : hb < Wf3.heap.size := HH.out.lt
 have hltr : rb < Wf3.heap.size := HR.out.lt
 have hltf : fb3 < Wf3.heap.size := HF.out.lt
 refine wp_loop_rounds 3 ?_
 rw [rounds_succ]
 obtain ⟨q0, q1, q2, q3, q4⟩ := HH.out.cells5y
 obtain ⟨y0, y1, y2⟩ := HF.out.cells3
 by_cases hj4 : 4 < S.size
 rotate_left
 ·have he := dr_empty (S := S) (j := 4) (by omega)
  have hne := hid (show ¬ hdOk T from fun h => by have h1 := h.1; have h2 := HTl.out; omega)
  clear hj4
  obtain ⟨r0, r1, r2, r3, r4⟩ := HR.out.cells5y
  have rf0 := HR.out.frozen 0
  have rf1 := HR.out.frozen 1
  have rf2 := HR.out.frozen 2
  have rf3 := HR.out.frozen 3
  have rf4 := HR.out.frozen 4
  have hgb := (HG.out.on HB.out).broken
  have hn3 := HN3.out.1
  have hn4 := HN3.out.2
  go_wp2_with fail
  go_region
  all_goals
   go_wp2
   rw [Exit.noGoto_ret]
   obtain ⟨Wz, hWz⟩ : ∃ Wz, Wz = (((((Wf3.setCell ⟨rb, 0, none⟩ (.int .i64 0)).setCell ⟨rb, 1, none⟩ (.int .i64 0)).setCell ⟨rb, 2, none⟩ (.int .i64 0)).setCell ⟨rb, 3, none⟩ (.int .i64 0)).setCell ⟨rb, 4, none⟩ (.int .i64 0)).drew := ⟨_, rfl⟩
   rw [← hWz]
   have HZ : Blk Wz rb 106 #[.int .i64 0, .int .i64 0, .int .i64 0, .int .i64 0, .int .i64 0] := by rw [hWz]; exact (HR.out.put5y _ _ _ _ _).drew
   have HBz : Below w.heap.size w Wz := by rw [hWz]; exact bel_drew (bel_set (bel_set (bel_set (bel_set (bel_set HB.out HLo.out.2.1 _) HLo.out.2.1 _) HLo.out.2.1 _) HLo.out.2.1 _) HLo.out.2.1 _)
   obtain ⟨z0, z1, z2, z3, z4⟩ := HZ.cells5y
   clear hWz
   exact bodyPost_ret (v := .tuple #[.agg #[.int .i64 0, .int .i64 0, .int .i64 0, .int .i64 0, .int .i64 0], .string { data := #[] }, errV a0]) (by simp [results, Tryz.results176, go_sem, z0, z1, z2, z3, z4]) rfl ⟨Or.inr ⟨hne.out, rfl⟩, HBz⟩
 have he := dr_not hj4
 have hg := HGet.out 4 hj4
 have hc := HCut.out 4 hj4
 have hbt := bat_lt T 4
 have hfr := HH.out.frozen 3
 go_wp2_with fail
 go_region
 rw [or_first (bat_lt T 4)]
 replace HR := hid (HR.out.far 3 (.int .i64 (bat T 4 : Nat)) HLo.out.2.2).drew
 replace HF := hid (HF.out.far 3 (.int .i64 (bat T 4 : Nat)) HNe3.out).drew
 replace HH := hid (show Blk (Wf3.setCell ⟨hb, 3, none⟩ (.int .i64 (bat T 4 : Nat))).drew hb 106 #[.int .i64 (bat T 0 : Nat), .int .i64 (bat T 1 : Nat), .int .i64 (pat2 T 2 : Nat), .int .i64 (bat T 4 : Nat), .int .i64 0] from (HH.out.set_ 3 (.int .i64 (bat T 4 : Nat))).drew)
 replace HB := hid (bel_drew (bel_set (p := ⟨hb, 3, none⟩) HB.out HLo.out.1 (.int .i64 (bat T 4 : Nat))))
 obtain ⟨W5, hW5⟩ : ∃ W5, W5 = (Wf3.setCell ⟨hb, 3, none⟩ (.int .i64 (bat T 4 : Nat))).drew := ⟨_, rfl⟩
 rw [← hW5] at HH HR HF HB
 rw [← hW5]
 have HJ4 := hid hj4
 clear q0 q1 q2 q3 q4 y0 y1 y2 he hg hbt hfr hlt hltr hltf hW5 hj4
 have hlt : hb < W5.heap.size := HH.out.lt
 have hltr : rb < W5.heap.size := HR.out.lt
 have hltf : fb3 < W5.heap.size := HF.out.lt
 go_wp2_with fail
 clear hc
 rw [rounds_succ]
 obtain ⟨q0, q1, q2, q3, q4⟩ := HH.out.cells5y
 obtain ⟨y0, y1, y2⟩ := HF.out.cells3
 by_cases hj5 : 5 < S.size
 rotate_left
 ·have he := dr_empty (S := S) (j := 5) (by omega)
  have hne := hid (show ¬ hdOk T from fun h => by have h1 := h.1; have h2 := HTl.out; omega)
  clear hj5
  obtain ⟨r0, r1, r2, r3, r4⟩ := HR.out.cells5y
  have rf0 := HR.out.frozen 0
  have rf1 := HR.out.frozen 1
  have rf2 := HR.out.frozen 2
  have rf3 := HR.out.frozen 3
  have rf4 := HR.out.frozen 4
  have hgb := (HG.out.on HB.out).broken
  have hn3 := HN3.out.1
  have hn4 := HN3.out.2
  go_wp2_with fail
  go_region
  all_goals
   go_wp2
   rw [Exit.noGoto_ret]
   obtain ⟨Wz, hWz⟩ : ∃ Wz, Wz = (((((W5.setCell ⟨rb, 0, none⟩ (.int .i64 0)).setCell ⟨rb, 1, none⟩ (.int .i64 0)).setCell ⟨rb, 2, none⟩ (.int .i64 0)).setCell ⟨rb, 3, none⟩ (.int .i64 0)).setCell ⟨rb, 4, none⟩ (.int .i64 0)).drew := ⟨_, rfl⟩
   rw [← hWz]
   have HZ : Blk Wz rb 106 #[.int .i64 0, .int .i64 0, .int .i64 0, .int .i64 0, .int .i64 0] := by rw [hWz]; exact (HR.out.put5y _ _ _ _ _).drew
   have HBz : Below w.heap.size w Wz := by rw [hWz]; exact bel_drew (bel_set (bel_set (bel_set (bel_set (bel_set HB.out HLo.out.2.1 _) HLo.out.2.1 _) HLo.out.2.1 _) HLo.out.2.1 _) HLo.out.2.1 _)
   obtain ⟨z0, z1, z2, z3, z4⟩ := HZ.cells5y
   clear hWz
   exact bodyPost_ret (v := .tuple #[.agg #[.int .i64 0, .int .i64 0, .int .i64 0, .int .i64 0, .int .i64 0], .string { data := #[] }, errV a0]) (by simp [results, Tryz.results176, go_sem, z0, z1, z2, z3, z4]) rfl ⟨Or.inr ⟨hne.out, rfl⟩, HBz⟩
 have he := dr_not hj5
 have hg := HGet.out 5 hj5
 have hc := HCut.out 5 hj5
 have hbt := bat_lt T 5
 have hfr := HH.out.frozen 3
 go_wp2_with fail
 go_region
 rw [or_next T 4 5 rfl]
 replace HR := hid (HR.out.far 3 (.int .i64 (pat2 T 4 : Nat)) HLo.out.2.2).drew
 replace HF := hid (HF.out.far 3 (.int .i64 (pat2 T 4 : Nat)) HNe3.out).drew
 replace HH := hid (show Blk (W5.setCell ⟨hb, 3, none⟩ (.int .i64 (pat2 T 4 : Nat))).drew hb 106 #[.int .i64 (bat T 0 : Nat), .int .i64 (bat T 1 : Nat), .int .i64 (pat2 T 2 : Nat), .int .i64 (pat2 T 4 : Nat), .int .i64 0] from (HH.out.set_ 3 (.int .i64 (pat2 T 4 : Nat))).drew)
 replace HB := hid (bel_drew (bel_set (p := ⟨hb, 3, none⟩) HB.out HLo.out.1 (.int .i64 (pat2 T 4 : Nat))))
 obtain ⟨W6, hW6⟩ : ∃ W6, W6 = (W5.setCell ⟨hb, 3, none⟩ (.int .i64 (pat2 T 4 : Nat))).drew := ⟨_, rfl⟩
 rw [← hW6] at HH HR HF HB
 rw [← hW6]
 have HJ5 := hid hj5
 clear q0 q1 q2 q3 q4 y0 y1 y2 he hg hbt hfr hlt hltr hltf hW6 hj5
 have hlt : hb < W6.heap.size := HH.out.lt
 have hltr : rb < W6.heap.size := HR.out.lt
 have hltf : fb3 < W6.heap.size := HF.out.lt
 go_wp2_with fail
 clear hc
 obtain ⟨y0, y1, y2⟩ := HF.out.cells3
 rw [rounds_succ]
 go_wp2_with fail
 have hS4 : W6.cell? ⟨fb3, 0, none⟩ = some (.int .i64 2) ∧ W6.cell? ⟨fb3, 1, none⟩ = some (.int .i64 1) ∧ W6.cell? ⟨fb3, 2, none⟩ = some (.int .i64 64) ∧ W6.cell? ⟨hb, 3, none⟩ = some (.int .i64 (pat2 T 4 : Nat)) ∧ Below W6.heap.size W6 W6 := ⟨HF.out.cell 0, HF.out.cell 1, HF.out.cell 2, HH.out.cell 3, Below.refl _ _⟩
 refine qbegin (S := (fun v => v.cell? ⟨fb3, 0, none⟩ = some (.int .i64 2) ∧ v.cell? ⟨fb3, 1, none⟩ = some (.int .i64 1) ∧ v.cell? ⟨fb3, 2, none⟩ = some (.int .i64 64) ∧ v.cell? ⟨hb, 3, none⟩ = some (.int .i64 (pat2 T 4 : Nat)) ∧ Below W6.heap.size W6 v)) (by kernel_rfl) (by kernel_rfl) (s4_drew hS4) ?_
 refine qk ?_
 refine qk ?_
 refine qk ?_
 refine qk ?_
 refine qc (fun wq hSq => HA.out 2 1 64 (pat2 T 4 : Nat) wq) (fun wq wr hbr hSq => s4_bel hbr hSq) ?_
 refine qk ?_
 refine wpQuiet_nil ?_
 intro wq hSq
 (try dsimp only at hSq)
 have hbq := hSq.2.2.2.2
 replace HH := hid (HH.out.on hbq)
 replace HR := hid (HR.out.on hbq)
 replace HB := hid (bel_trans HB.out hbq)
 clear hSq hS4 y0 y1 y2 hlt hltr hltf hbq HF
 rename World => Wq3
 have hlt : hb < Wq3.heap.size := HH.out.lt
 have hltr : rb < Wq3.heap.size := HR.out.lt
 cases hin3 : inB (pat2 T 4 : Nat) 1 64
 ·have hne := hid (show ¬ hdOk T from fun h => by have h1 := h.2.2.2.2.1; have h2 := inB_no hin3; omega)
  obtain ⟨r0, r1, r2, r3, r4⟩ := HR.out.cells5y
  have rf0 := HR.out.frozen 0
  have rf1 := HR.out.frozen 1
  have rf2 := HR.out.frozen 2
  have rf3 := HR.out.frozen 3
  have rf4 := HR.out.frozen 4
  have hgb := (HG.out.on HB.out).broken
  have hn3 := HN3.out.1
  have hn4 := HN3.out.2
  go_wp2_with fail
  go_region
  all_goals
   go_wp2
   rw [Exit.noGoto_ret]
   obtain ⟨Wz, hWz⟩ : ∃ Wz, Wz = (((((Wq3.setCell ⟨rb, 0, none⟩ (.int .i64 0)).setCell ⟨rb, 1, none⟩ (.int .i64 0)).setCell ⟨rb, 2, none⟩ (.int .i64 0)).setCell ⟨rb, 3, none⟩ (.int .i64 0)).setCell ⟨rb, 4, none⟩ (.int .i64 0)).drew := ⟨_, rfl⟩
   rw [← hWz]
   have HZ : Blk Wz rb 106 #[.int .i64 0, .int .i64 0, .int .i64 0, .int .i64 0, .int .i64 0] := by rw [hWz]; exact (HR.out.put5y _ _ _ _ _).drew
   have HBz : Below w.heap.size w Wz := by rw [hWz]; exact bel_drew (bel_set (bel_set (bel_set (bel_set (bel_set HB.out HLo.out.2.1 _) HLo.out.2.1 _) HLo.out.2.1 _) HLo.out.2.1 _) HLo.out.2.1 _)
   obtain ⟨z0, z1, z2, z3, z4⟩ := HZ.cells5y
   clear hWz
   exact bodyPost_ret (v := .tuple #[.agg #[.int .i64 0, .int .i64 0, .int .i64 0, .int .i64 0, .int .i64 0], .string { data := #[] }, errV a0]) (by simp [results, Tryz.results176, go_sem, z0, z1, z2, z3, z4]) rfl ⟨Or.inr ⟨hne.out, rfl⟩, HBz⟩
 have HI3 := hid (inB_iff.1 hin3)
 go_wp2_with fail
 clear hin3
 rename_i k1 k2 b2 h1
 clear h1 b2 k2 k1
 rw [rounds_succ]
 obtain ⟨q0, q1, q2, q3, q4⟩ := HH.out.cells5y
 obtain ⟨l0, l1, l2, l3, l4, l5, l6, l7, l8, l9, l10, l11, l12, l13, l14, lg⟩ := (HG.out.on HB.out).lay.cells
 go_wp2_with fail
 have HF := hid (Blk.new Wq3 54 #[.int .i64 2, .int .i64 1, .int .i64 64])
 replace HH := hid (HH.out.alloc (.cells #[.int .i64 2, .int .i64 1, .int .i64 64] 54))
 replace HR := hid (HR.out.alloc (.cells #[.int .i64 2, .int .i64 1, .int .i64 64] 54))
 replace HB := hid (bel_alloc HB.out (.cells #[.int .i64 2, .int .i64 1, .int .i64 64] 54))
 obtain ⟨fb4, hfb⟩ : ∃ fb, fb = Wq3.heap.size := ⟨_, rfl⟩
 obtain ⟨Wf4, hWf4⟩ : ∃ Wf4, Wf4 = Wq3.alloc (.cells #[.int .i64 2, .int .i64 1, .int .i64 64] 54) := ⟨_, rfl⟩
 rw [← hWf4, ← hfb] at HF
 rw [← hWf4] at HH HR HB
 rw [← hWf4, ← hfb]
 have HNe4 := hid (show fb4 ≠ hb by omega)
 clear q0 q1 q2 q3 q4 l0 l1 l2 l3 l4 l5 l6 l7 l8 l9 l10 l11 l12 l13 l14 lg hlt hltr hWf4 hfb
 have hlt : hb < Wf4.heap.size := HH.out.lt
 have hltr : rb < Wf4.heap.size := HR.out.lt
 have hltf : fb4 < Wf4.heap.size := HF.out.lt
 refine wp_loop_rounds 3 ?_
 rw [rounds_succ]
 obtain ⟨q0, q1, q2, q3, q4⟩ := HH.out.cells5y
 obtain ⟨y0, y1, y2⟩ := HF.out.cells3
 by_cases hj6 : 6 < S.size
 rotate_left
 ·have he := dr_empty (S := S) (j := 6) (by omega)
  have hne := hid (show ¬ hdOk T from fun h => by have h1 := h.1; have h2 := HTl.out; omega)
  clear hj6
  obtain ⟨r0, r1, r2, r3, r4⟩ := HR.out.cells5y
  have rf0 := HR.out.frozen 0
  have rf1 := HR.out.frozen 1
  have rf2 := HR.out.frozen 2
  have rf3 := HR.out.frozen 3
  have rf4 := HR.out.frozen 4
  have hgb := (HG.out.on HB.out).broken
  have hn3 := HN3.out.1
  have hn4 := HN3.out.2
  go_wp2_with fail
  go_region
  all_goals
   go_wp2
   rw [Exit.noGoto_ret]
   obtain ⟨Wz, hWz⟩ : ∃ Wz, Wz = (((((Wf4.setCell ⟨rb, 0, none⟩ (.int .i64 0)).setCell ⟨rb, 1, none⟩ (.int .i64 0)).setCell ⟨rb, 2, none⟩ (.int .i64 0)).setCell ⟨rb, 3, none⟩ (.int .i64 0)).setCell ⟨rb, 4, none⟩ (.int .i64 0)).drew := ⟨_, rfl⟩
   rw [← hWz]
   have HZ : Blk Wz rb 106 #[.int .i64 0, .int .i64 0, .int .i64 0, .int .i64 0, .int .i64 0] := by rw [hWz]; exact (HR.out.put5y _ _ _ _ _).drew
   have HBz : Below w.heap.size w Wz := by rw [hWz]; exact bel_drew (bel_set (bel_set (bel_set (bel_set (bel_set HB.out HLo.out.2.1 _) HLo.out.2.1 _) HLo.out.2.1 _) HLo.out.2.1 _) HLo.out.2.1 _)
   obtain ⟨z0, z1, z2, z3, z4⟩ := HZ.cells5y
   clear hWz
   exact bodyPost_ret (v := .tuple #[.agg #[.int .i64 0, .int .i64 0, .int .i64 0, .int .i64 0, .int .i64 0], .string { data := #[] }, errV a0]) (by simp [results, Tryz.results176, go_sem, z0, z1, z2, z3, z4]) rfl ⟨Or.inr ⟨hne.out, rfl⟩, HBz⟩
 have he := dr_not hj6
 have hg := HGet.out 6 hj6
 have hc := HCut.out 6 hj6
 have hbt := bat_lt T 6
 have hfr := HH.out.frozen 4
 go_wp2_with fail
 go_region
 rw [or_first (bat_lt T 6)]
 replace HR := hid (HR.out.far 4 (.int .i64 (bat T 6 : Nat)) HLo.out.2.2).drew
 replace HF := hid (HF.out.far 4 (.int .i64 (bat T 6 : Nat)) HNe4.out).drew
 replace HH := hid (show Blk (Wf4.setCell ⟨hb, 4, none⟩ (.int .i64 (bat T 6 : Nat))).drew hb 106 #[.int .i64 (bat T 0 : Nat), .int .i64 (bat T 1 : Nat), .int .i64 (pat2 T 2 : Nat), .int .i64 (pat2 T 4 : Nat), .int .i64 (bat T 6 : Nat)] from (HH.out.set_ 4 (.int .i64 (bat T 6 : Nat))).drew)
 replace HB := hid (bel_drew (bel_set (p := ⟨hb, 4, none⟩) HB.out HLo.out.1 (.int .i64 (bat T 6 : Nat))))
 obtain ⟨W7, hW7⟩ : ∃ W7, W7 = (Wf4.setCell ⟨hb, 4, none⟩ (.int .i64 (bat T 6 : Nat))).drew := ⟨_, rfl⟩
 rw [← hW7] at HH HR HF HB
 rw [← hW7]
 have HJ6 := hid hj6
 clear q0 q1 q2 q3 q4 y0 y1 y2 he hg hbt hfr hlt hltr hltf hW7 hj6
 have hlt : hb < W7.heap.size := HH.out.lt
 have hltr : rb < W7.heap.size := HR.out.lt
 have hltf : fb4 < W7.heap.size := HF.out.lt
 go_wp2_with fail
 clear hc
 rw [rounds_succ]
 obtain ⟨q0, q1, q2, q3, q4⟩ := HH.out.cells5y
 obtain ⟨y0, y1, y2⟩ := HF.out.cells3
 by_cases hj7 : 7 < S.size
 rotate_left
 ·have he := dr_empty (S := S) (j := 7) (by omega)
  have hne := hid (show ¬ hdOk T from fun h => by have h1 := h.1; have h2 := HTl.out; omega)
  clear hj7
  obtain ⟨r0, r1, r2, r3, r4⟩ := HR.out.cells5y
  have rf0 := HR.out.frozen 0
  have rf1 := HR.out.frozen 1
  have rf2 := HR.out.frozen 2
  have rf3 := HR.out.frozen 3
  have rf4 := HR.out.frozen 4
  have hgb := (HG.out.on HB.out).broken
  have hn3 := HN3.out.1
  have hn4 := HN3.out.2
  go_wp2_with fail
  go_region
  all_goals
   go_wp2
   rw [Exit.noGoto_ret]
   obtain ⟨Wz, hWz⟩ : ∃ Wz, Wz = (((((W7.setCell ⟨rb, 0, none⟩ (.int .i64 0)).setCell ⟨rb, 1, none⟩ (.int .i64 0)).setCell ⟨rb, 2, none⟩ (.int .i64 0)).setCell ⟨rb, 3, none⟩ (.int .i64 0)).setCell ⟨rb, 4, none⟩ (.int .i64 0)).drew := ⟨_, rfl⟩
   rw [← hWz]
   have HZ : Blk Wz rb 106 #[.int .i64 0, .int .i64 0, .int .i64 0, .int .i64 0, .int .i64 0] := by rw [hWz]; exact (HR.out.put5y _ _ _ _ _).drew
   have HBz : Below w.heap.size w Wz := by rw [hWz]; exact bel_drew (bel_set (bel_set (bel_set (bel_set (bel_set HB.out HLo.out.2.1 _) HLo.out.2.1 _) HLo.out.2.1 _) HLo.out.2.1 _) HLo.out.2.1 _)
   obtain ⟨z0, z1, z2, z3, z4⟩ := HZ.cells5y
   clear hWz
   exact bodyPost_ret (v := .tuple #[.agg #[.int .i64 0, .int .i64 0, .int .i64 0, .int .i64 0, .int .i64 0], .string { data := #[] }, errV a0]) (by simp [results, Tryz.results176, go_sem, z0, z1, z2, z3, z4]) rfl ⟨Or.inr ⟨hne.out, rfl⟩, HBz⟩
 have he := dr_not hj7
 have hg := HGet.out 7 hj7
 have hc := HCut.out 7 hj7
 have hbt := bat_lt T 7
 have hfr := HH.out.frozen 4
 go_wp2_with fail
 go_region
 rw [or_next T 6 7 rfl]
 replace HR := hid (HR.out.far 4 (.int .i64 (pat2 T 6 : Nat)) HLo.out.2.2).drew
 replace HF := hid (HF.out.far 4 (.int .i64 (pat2 T 6 : Nat)) HNe4.out).drew
 replace HH := hid (show Blk (W7.setCell ⟨hb, 4, none⟩ (.int .i64 (pat2 T 6 : Nat))).drew hb 106 #[.int .i64 (bat T 0 : Nat), .int .i64 (bat T 1 : Nat), .int .i64 (pat2 T 2 : Nat), .int .i64 (pat2 T 4 : Nat), .int .i64 (pat2 T 6 : Nat)] from (HH.out.set_ 4 (.int .i64 (pat2 T 6 : Nat))).drew)
 replace HB := hid (bel_drew (bel_set (p := ⟨hb, 4, none⟩) HB.out HLo.out.1 (.int .i64 (pat2 T 6 : Nat))))
 obtain ⟨W8, hW8⟩ : ∃ W8, W8 = (W7.setCell ⟨hb, 4, none⟩ (.int .i64 (pat2 T 6 : Nat))).drew := ⟨_, rfl⟩
 rw [← hW8] at HH HR HF HB
 rw [← hW8]
 have HJ7 := hid hj7
 clear q0 q1 q2 q3 q4 y0 y1 y2 he hg hbt hfr hlt hltr hltf hW8 hj7
 have hlt : hb < W8.heap.size := HH.out.lt
 have hltr : rb < W8.heap.size := HR.out.lt
 have hltf : fb4 < W8.heap.size := HF.out.lt
 go_wp2_with fail
 clear hc
 obtain ⟨y0, y1, y2⟩ := HF.out.cells3
 rw [rounds_succ]
 go_wp2_with fail
 have hS4 : W8.cell? ⟨fb4, 0, none⟩ = some (.int .i64 2) ∧ W8.cell? ⟨fb4, 1, none⟩ = some (.int .i64 1) ∧ W8.cell? ⟨fb4, 2, none⟩ = some (.int .i64 64) ∧ W8.cell? ⟨hb, 4, none⟩ = some (.int .i64 (pat2 T 6 : Nat)) ∧ Below W8.heap.size W8 W8 := ⟨HF.out.cell 0, HF.out.cell 1, HF.out.cell 2, HH.out.cell 4, Below.refl _ _⟩
 refine qbegin (S := (fun v => v.cell? ⟨fb4, 0, none⟩ = some (.int .i64 2) ∧ v.cell? ⟨fb4, 1, none⟩ = some (.int .i64 1) ∧ v.cell? ⟨fb4, 2, none⟩ = some (.int .i64 64) ∧ v.cell? ⟨hb, 4, none⟩ = some (.int .i64 (pat2 T 6 : Nat)) ∧ Below W8.heap.size W8 v)) (by kernel_rfl) (by kernel_rfl) (s4_drew hS4) ?_
 refine qk ?_
 refine qk ?_
 refine qk ?_
 refine qk ?_
 refine qc (fun wq hSq => HA.out 2 1 64 (pat2 T 6 : Nat) wq) (fun wq wr hbr hSq => s4_bel hbr hSq) ?_
 refine qk ?_
 refine wpQuiet_nil ?_
 intro wq hSq
 (try dsimp only at hSq)
 have hbq := hSq.2.2.2.2
 replace HH := hid (HH.out.on hbq)
 replace HR := hid (HR.out.on hbq)
 replace HB := hid (bel_trans HB.out hbq)
 clear hSq hS4 y0 y1 y2 hlt hltr hltf hbq HF
 rename World => Wq4
 have hlt : hb < Wq4.heap.size := HH.out.lt
 have hltr : rb < Wq4.heap.size := HR.out.lt
 cases hin4 : inB (pat2 T 6 : Nat) 1 64
 ·have hne := hid (show ¬ hdOk T from fun h => by have h1 := h.2.2.2.2.2; have h2 := inB_no hin4; omega)
  obtain ⟨r0, r1, r2, r3, r4⟩ := HR.out.cells5y
  have rf0 := HR.out.frozen 0
  have rf1 := HR.out.frozen 1
  have rf2 := HR.out.frozen 2
  have rf3 := HR.out.frozen 3
  have rf4 := HR.out.frozen 4
  have hgb := (HG.out.on HB.out).broken
  have hn3 := HN3.out.1
  have hn4 := HN3.out.2
  go_wp2_with fail
  go_region
  all_goals
   go_wp2
   rw [Exit.noGoto_ret]
   obtain ⟨Wz, hWz⟩ : ∃ Wz, Wz = (((((Wq4.setCell ⟨rb, 0, none⟩ (.int .i64 0)).setCell ⟨rb, 1, none⟩ (.int .i64 0)).setCell ⟨rb, 2, none⟩ (.int .i64 0)).setCell ⟨rb, 3, none⟩ (.int .i64 0)).setCell ⟨rb, 4, none⟩ (.int .i64 0)).drew := ⟨_, rfl⟩
   rw [← hWz]
   have HZ : Blk Wz rb 106 #[.int .i64 0, .int .i64 0, .int .i64 0, .int .i64 0, .int .i64 0] := by rw [hWz]; exact (HR.out.put5y _ _ _ _ _).drew
   have HBz : Below w.heap.size w Wz := by rw [hWz]; exact bel_drew (bel_set (bel_set (bel_set (bel_set (bel_set HB.out HLo.out.2.1 _) HLo.out.2.1 _) HLo.out.2.1 _) HLo.out.2.1 _) HLo.out.2.1 _)
   obtain ⟨z0, z1, z2, z3, z4⟩ := HZ.cells5y
   clear hWz
   exact bodyPost_ret (v := .tuple #[.agg #[.int .i64 0, .int .i64 0, .int .i64 0, .int .i64 0, .int .i64 0], .string { data := #[] }, errV a0]) (by simp [results, Tryz.results176, go_sem, z0, z1, z2, z3, z4]) rfl ⟨Or.inr ⟨hne.out, rfl⟩, HBz⟩
 have HI4 := hid (inB_iff.1 hin4)
 go_wp2_with fail
 clear hin4
 rename_i k1 k2 b2 h1
 clear h1 b2 k2 k1
 rw [rounds_succ]
 obtain ⟨q0, q1, q2, q3, q4⟩ := HH.out.cells5y
 obtain ⟨r0, r1, r2, r3, r4⟩ := HR.out.cells5y
 have rf0 := HR.out.frozen 0
 have rf1 := HR.out.frozen 1
 have rf2 := HR.out.frozen 2
 have rf3 := HR.out.frozen 3
 have rf4 := HR.out.frozen 4
 go_wp2_with fail
 rw [Exit.noGoto_ret]
 obtain ⟨Wz, hWz⟩ : ∃ Wz, Wz = (((((Wq4.setCell ⟨rb, 0, none⟩ (.int .i64 (bat T 0 : Nat))).setCell ⟨rb, 1, none⟩ (.int .i64 (bat T 1 : Nat))).setCell ⟨rb, 2, none⟩ (.int .i64 (pat2 T 2 : Nat))).setCell ⟨rb, 3, none⟩ (.int .i64 (pat2 T 4 : Nat))).setCell ⟨rb, 4, none⟩ (.int .i64 (pat2 T 6 : Nat))) := ⟨_, rfl⟩
 rw [← hWz]
 have HZ : Blk Wz rb 106 #[.int .i64 (bat T 0 : Nat), .int .i64 (bat T 1 : Nat), .int .i64 (pat2 T 2 : Nat), .int .i64 (pat2 T 4 : Nat), .int .i64 (pat2 T 6 : Nat)] := by rw [hWz]; exact HR.out.put5y _ _ _ _ _
 have HBz : Below w.heap.size w Wz := by rw [hWz]; exact bel_set (bel_set (bel_set (bel_set (bel_set HB.out HLo.out.2.1 _) HLo.out.2.1 _) HLo.out.2.1 _) HLo.out.2.1 _) HLo.out.2.1 _
 obtain ⟨z0, z1, z2, z3, z4⟩ := HZ.cells5y
 clear hWz q0 q1 q2 q3 q4 r0 r1 r2 r3 r4 rf0 rf1 rf2 rf3 rf4
 have hOk : hdOk T := by
  have i0 := HI0.out; have i1 := HI1.out; have i2 := HI2.out; have i3 := HI3.out; have i4 := HI4.out; have i5 := HJ7.out; have i6 := HTl.out
  exact ⟨by omega, by omega, by omega, by omega, by omega, by omega⟩
 exact bodyPost_ret (v := .tuple #[.agg #[.int .i64 (bat T 0 : Nat), .int .i64 (bat T 1 : Nat), .int .i64 (pat2 T 2 : Nat), .int .i64 (pat2 T 4 : Nat), .int .i64 (pat2 T 6 : Nat)], .string (dr S 8), .nilIface]) (by simp [results, Tryz.results176, go_sem, z0, z1, z2, z3, z4]) rfl ⟨Or.inl ⟨hOk, rfl⟩, HBz⟩
end Go.Proofs.YtmlaaammfnboiaaGreatDoor
