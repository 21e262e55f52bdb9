/- Contracts: a block's bytes and whether it is one, FormatBlock in both programs, and the walk of its exact law. The layout of the header is as the program's text lays it. -/
import Derived.Test.YtepbjmpbcobfpaaDoorYt
import Derived.Test.YtepbjmpbcobfpaaDoorOo
namespace Go.Proofs.YtepbjmpbcobfpaaDoor
open Go.ChangeShapes Go.WideShapes Go.ChangeAt Go.RowKit Go.Joins
set_option linter.unusedVariables false
set_option linter.unusedSimpArgs false

theorem Bl.hdr (b : Bl) (hk : b.kind.toNat ≤ 1) : (181 :: UInt8.ofNat b.kind.toNat :: (two b.n.toNat ++ two b.z.toNat ++ two b.body.size)) ++ b.body.data.toList = 181 :: b.inner := by
  have : UInt8.ofNat b.kind.toNat = b.kind := by simp
  simp [Bl.inner, this]

set_option maxHeartbeats 4000000 in
set_option maxRecDepth 100000 in
theorem c_blockBytes (b : Bl) (w : World) (hb : b.ok) (hL : Lay w) : Calls Tryd.prog 44 #[.agg #[.int .i64 b.n, .bool b.raw, .int .i64 b.z, .string b.body]] w fun e w' => e = .returned (.string (str b.text)) ∧ Below w.heap.size w w' := by
  have hl := b.len hb
  obtain ⟨⟨h1, h2⟩, ⟨h3, h4⟩, _⟩ := id hb
  have hk := b.kind_lt.1
  have HH := hid (fun (v : World) => c_headerOf b v)
  have HA := hid (fun (v : World) (hv : Lay v) => c_appendTo b.kind.toNat b.n.toNat b.z.toNat b.body.size v hv hk (by omega) (by omega) (by omega))
  rw [show ((b.n.toNat : Nat) : Int) = b.n from by omega, show ((b.z.toNat : Nat) : Int) = b.z from by omega] at HA
  have HLay := hid hL
  have HHd := hid (b.hdr hk)
  have hB := Blk.new w 35 #[.int .i64 b.n, .bool b.raw, .int .i64 b.z, .string b.body]
  obtain ⟨HD, hHD⟩ : ∃ HD, HD = 181 :: UInt8.ofNat b.kind.toNat :: (two b.n.toNat ++ two b.z.toNat ++ two b.body.size) := ⟨_, rfl⟩
  rw [← hHD] at HA HHd
  have HT := hid (b.text_str)
  have HI := hid (show (181 :: b.inner).drop 1 = b.inner from rfl)
  have HP := hid (show str (181 :: b.inner) = str [181] ++ str b.inner by rw [str_append]; rfl)
  have hil : b.inner.length = 7 + b.body.size := b.inner_len
  have HSm := hid (fun (v : World) => c_SumOf (str b.inner) v (by unfold maxLen; rw [str_size]; omega))
  rw [str_list] at HSm
  have HTw := hid (fun (v : World) => c_twoBytes (M.ck b.inner) v (by have := M.ck_le b.inner; omega))
  obtain ⟨C2, hC2⟩ : ∃ C2, C2 = str (two (M.ck b.inner)) := ⟨_, rfl⟩
  rw [← hC2] at HTw HT
  have zC : C2.size = 2 := by rw [hC2, str_size]; rfl
  obtain ⟨S1, hS1⟩ : ∃ S1, S1 = str (181 :: b.inner) := ⟨_, rfl⟩
  have zS : S1.size = 8 + b.body.size := by rw [hS1, str_size, List.length_cons, hil]; omega
  obtain ⟨R, hR⟩ : ∃ R, R = str b.text := ⟨_, rfl⟩
  have a6 : ∀ W, (Op.stringOp .add S1 C2).run Tryd.prog W = .ok (.string R) W := fun W => by rw [run_string_add_sum W _ _ (by omega), hR, ← HT.out, hS1, HP.out]
  rw [← hR]
  have HS1 := hid hS1
  have hl64 : b.body.size ≤ 64 := hl.2
  clear hHD hC2 hS1 hR zC zS h1 h2 h3 h4 hb hk hL hl
  go_enter Tryd.func44, Tryd.ntmps44
  go_wp2_with fail
  have hS : (w.alloc (.cells #[.int .i64 b.n, .bool b.raw, .int .i64 b.z, .string b.body] 35)).cell? ⟨w.heap.size, 0, none⟩ = some (.int .i64 b.n) ∧ (w.alloc (.cells #[.int .i64 b.n, .bool b.raw, .int .i64 b.z, .string b.body] 35)).cell? ⟨w.heap.size, 1, none⟩ = some (.bool b.raw) ∧ (w.alloc (.cells #[.int .i64 b.n, .bool b.raw, .int .i64 b.z, .string b.body] 35)).cell? ⟨w.heap.size, 2, none⟩ = some (.int .i64 b.z) ∧ (w.alloc (.cells #[.int .i64 b.n, .bool b.raw, .int .i64 b.z, .string b.body] 35)).cell? ⟨w.heap.size, 3, none⟩ = some (.string b.body) ∧ True := ⟨hB.cell 0, hB.cell 1, hB.cell 2, hB.cell 3, trivial⟩
  have hbel := bel_drew (bel_alloc (Below.refl _ w) (.cells #[.int .i64 b.n, .bool b.raw, .int .i64 b.z, .string b.body] 35))
  have hBx := hB.drew
  have hTT := And.intro (hBx.cell 0) (And.intro (hBx.cell 1) (And.intro (hBx.cell 2) (And.intro (hBx.cell 3) trivial)))
  clear hB
  refine wp_region_noPanic ?_
  refine wp_region_held_drew (S := (fun v => v.cell? ⟨w.heap.size, 0, none⟩ = some (.int .i64 b.n) ∧ v.cell? ⟨w.heap.size, 1, none⟩ = some (.bool b.raw) ∧ v.cell? ⟨w.heap.size, 2, none⟩ = some (.int .i64 b.z) ∧ v.cell? ⟨w.heap.size, 3, none⟩ = some (.string b.body) ∧ True)) (by kernel_rfl) (t4_drew hS) (fun hHeld => ?_)
  refine tk 0 ?_
  refine tk 3 ?_
  refine tk 4 ?_
  refine wpAnyH_ready (rs := [1]) (by kernel_rfl) (by simp) ?_
  refine AllReadyH.cons (o := ?or1_1) ?ir1_1 (fun K hK => ?sr1_1) AllReadyH.nil
  case ir1_1 => (simp only [List.getElem?_toArray, List.getElem?_cons_succ, List.getElem?_cons_zero]; rfl)
  (go_simp; (go_at_call 48; refine (HH.out _).mono ?_; rintro e wA ⟨rfl, hbA⟩; replace hbel := bel_trans hbel hbA; replace hBx := hBx.on hbA; replace hTT := And.intro (hBx.cell 0) (And.intro (hBx.cell 1) (And.intro (hBx.cell 2) (And.intro (hBx.cell 3) trivial))); clear hbA))
  refine hK.out _ _ ?kr1_1 (fun hHeld => ?_)
  case kr1_1 => (try dsimp only); (first | with_reducible assumption | with_reducible exact hTT | exact t4_bel (by assumption) (by assumption) | assumption | exact t4_alloc (by assumption) _ | exact hTT)
  clear hK K
  try simp only [Act.put, List.setIfInBounds_toArray, List.set_cons_zero, List.set_cons_succ]
  refine wpAnyH_ready (rs := [2]) (by kernel_rfl) (by simp) ?_
  refine AllReadyH.cons (o := ?or1_2) ?ir1_2 (fun K hK => ?sr1_2) AllReadyH.nil
  case ir1_2 => (simp only [List.getElem?_toArray, List.getElem?_cons_succ, List.getElem?_cons_zero]; rfl)
  (go_simp; (go_at_call 49; refine (HA.out _ (HLay.out.on hbel)).mono ?_; rintro e wB ⟨vA, rfl, hownB, hbB⟩; have HOB := hid (y_mono hownB hbel.size); replace hbel := bel_trans hbel hbB; replace hBx := hBx.on hbB; replace hTT := And.intro (hBx.cell 0) (And.intro (hBx.cell 1) (And.intro (hBx.cell 2) (And.intro (hBx.cell 3) trivial))); clear hownB hbB))
  refine hK.out _ _ ?kr1_2 (fun hHeld => ?_)
  case kr1_2 => (try dsimp only); (first | with_reducible assumption | with_reducible exact hTT | exact t4_bel (by assumption) (by assumption) | assumption | exact t4_alloc (by assumption) _ | exact hTT)
  clear hK K
  try simp only [Act.put, List.setIfInBounds_toArray, List.set_cons_zero, List.set_cons_succ]
  refine wpAnyH_ready (rs := [5]) (by kernel_rfl) (by simp) ?_
  refine AllReadyH.cons (o := ?or1_5) ?ir1_5 (fun K hK => ?sr1_5) AllReadyH.nil
  case ir1_5 => (simp only [List.getElem?_toArray, List.getElem?_cons_succ, List.getElem?_cons_zero]; rfl)
  ((refine y_step_str (by rfl) (.tmp 7) (.tmp 9) 68 9 (by rfl) w.heap.size 5 Tryd.underlying68 Tryd.underlying9 Tryd.info_u8y _ 8 HD (by rfl) HOB.out b.body (by rfl) (by omega) hbel.size ?_; intro v9 w9 hown9 hb9 hg9; have hbel9 := y_bel hbel HOB.out (Nat.le_refl _) hg9; replace hBx := y_box hBx HOB.out (by decide) hg9; replace hTT := And.intro (hBx.cell 0) (And.intro (hBx.cell 1) (And.intro (hBx.cell 2) (And.intro (hBx.cell 3) trivial))); clear hbel hg9 hb9 hBx))
  refine hK.out _ _ ?kr1_5 (fun hHeld => ?_)
  case kr1_5 => (try dsimp only); (first | with_reducible assumption | with_reducible exact hTT | exact t4_bel (by assumption) (by assumption) | assumption | exact t4_alloc (by assumption) _ | exact hTT)
  clear hK K
  try simp only [Act.put, List.setIfInBounds_toArray, List.set_cons_zero, List.set_cons_succ]
  refine tk 6 ?_
  refine wpAnyH_done (by kernel_rfl) ?_ _
  refine NoPanic.normal ?_
  clear HH HA HOB hHeld hTT
  rw [HHd.out] at hown9
  have HO9 := hid (ownO_of hown9)
  obtain ⟨vi, hsl, hoi, _⟩ := HO9.out.drop (P := Tryd.prog) Tryd.underlying68 Tryd.info_u8y 1 (by simp)
  have hsl1 : ∀ (W : World), (Instr.slice 68 v9 (some (.int .i64 1)) none none).run Tryd.prog W = .ok vi W := hsl
  rw [HI.out] at hoi
  have hci := hoi.run_str (P := Tryd.prog) Tryd.underlying68 Tryd.underlying5 Tryd.underlying9
  have HC9 := hid (fun (v : World) (hv : Below w9.heap.size w9 v) => (HO9.out.on hv).run_str (P := Tryd.prog) Tryd.underlying68 Tryd.underlying5 Tryd.underlying9)
  rw [← HS1.out] at HC9
  obtain ⟨I, hI⟩ : ∃ I, I = str b.inner := ⟨_, rfl⟩
  rw [← hI] at HSm hci
  clear hsl hoi hown9 hI
  go_wp2_with fail
  have hS3 := Below.refl w9.heap.size w9
  refine qbegin (S := (fun v => Below w9.heap.size w9 v)) (by kernel_rfl) (by kernel_rfl) (bel_drew hS3) ?_
  refine qk ?_
  refine qk ?_ (hy := fun wq hSq => by have hcq := HC9.out wq hSq; (try dsimp only at hSq); go_simp; try with_reducible rfl)
  refine qk ?_
  refine qc (fun wq hSq => same_bel (HSm.out wq)) (fun wq wr hbr hSq => (fun hbr hSq => bel_trans hSq hbr) hbr hSq) ?_
  refine qc (fun wq hSq => HTw.out wq) (fun wq wr hbr hSq => (fun hbr hSq => bel_trans hSq hbr) hbr hSq) ?_
  refine qk ?_
  refine qk ?_
  refine wpQuiet_nil ?_
  intro wq hSq
  (try dsimp only at hSq)
  go_wp2
  go_ret
  exact ⟨rfl, bel_trans hbel9 hSq⟩
end Go.Proofs.YtepbjmpbcobfpaaDoor
