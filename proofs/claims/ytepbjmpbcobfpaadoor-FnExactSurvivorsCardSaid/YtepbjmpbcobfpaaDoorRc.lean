/- readContainer and ContainerSize in the program. The layout of the header and the errors are as the program's text lays them. -/
import Derived.Test.YtepbjmpbcobfpaaDoorRa
namespace Go.Proofs.YtepbjmpbcobfpaaDoor
open Go.ChangeShapes Go.WideShapes Go.ChangeAt Go.RowKit Go.Joins
set_option linter.unusedVariables false
set_option linter.unusedSimpArgs false

set_option maxHeartbeats 4000000 in
set_option maxRecDepth 100000 in
theorem c_readContainer (S : ByteArray) (L : List UInt8) (bs : List Bl) (c : Nat) (w : World) (a0 a1 a2 : Addr) (hS : S.size ≤ 1000000000000) (hL : L = S.data.toList) (hst : Stop L bs c) (hG : Glob w a0 a1 a2) : Calls Tryd.prog 26 #[.string S] w fun e w' => ∃ u1 u2, e = .returned (.tuple #[.agg (if c = 0 then #[u1, u2, .int .i64 ((txt bs).length : Nat), .int .i64 (zs bs : Nat)] else #[.slice none 0 0, .slice none 0 0, .int .i64 0, .int .i64 0]), ecV a0 a1 a2 c]) ∧ (c = 0 → w'.ownsRow w.heap.size 35 4 u1 bs.length (bvs bs) ∧ w'.ownsRow w.heap.size 52 2 u2 bs.length (prs (pls bs))) ∧ Below w.heap.size w w' := by
  have HB0 := hid (bel_alloc (bel_alloc (Below.refl _ w) (.cells #[.slice none 0 0, .slice none 0 0, .int .i64 0, .int .i64 0] 54)) (.cells #[.slice none 0 0, .slice none 0 0, .int .i64 0, .int .i64 0] 54))
  have HR := hid ((Blk.new w 54 #[.slice none 0 0, .slice none 0 0, .int .i64 0, .int .i64 0]).alloc (.cells #[.slice none 0 0, .slice none 0 0, .int .i64 0, .int .i64 0] 54))
  have HC := hid (Blk.top w (.cells #[.slice none 0 0, .slice none 0 0, .int .i64 0, .int .i64 0] 54) 54 #[.slice none 0 0, .slice none 0 0, .int .i64 0, .int .i64 0])
  have hsz : (w.alloc (.cells #[.slice none 0 0, .slice none 0 0, .int .i64 0, .int .i64 0] 54)).heap.size = w.heap.size + 1 := World.size_alloc _ _
  have HA := hid (c_readAll S L bs c (w.heap.size + 1) (w.alloc (.cells #[.slice none 0 0, .slice none 0 0, .int .i64 0, .int .i64 0] 54)) _ a0 a1 a2 hS hL hst (hG.on (bel_alloc (Below.refl _ w) _)) (bel_alloc (Below.refl _ _) _) (by omega) HC.out)
  rw [hsz] at HA
  have hcode := hst.code
  clear hst hG hsz
  go_enter Tryd.func26, Tryd.ntmps26
  go_wp2_with fail
  refine (HA.out).mono ?_
  rintro e w1 ⟨u1, u2, rfl, hC1, h1, h2, hb1⟩
  have hRB : Blk w1 w.heap.size 54 #[.slice none 0 0, .slice none 0 0, .int .i64 0, .int .i64 0] := (hb1.block w.heap.size (by omega)).trans (Blk.new w _ _)
  have HB1 := hid (show Below w.heap.size w w1 from (Below.mono (bel_alloc (Below.refl _ w) (.cells #[.slice none 0 0, .slice none 0 0, .int .i64 0, .int .i64 0] 54)) (Nat.le_refl _)).trans (hb1.mono (by omega)))
  have HW1 := hid (own_mono (B' := w.heap.size) h1 (by omega))
  have HW2 := hid (own_mono (B' := w.heap.size) h2 (by omega))
  have HRB := hid hRB
  obtain ⟨r0, r1, r2, r3⟩ := hRB.cells4y
  have f0 := hRB.frozen 0
  have f1 := hRB.frozen 1
  have f2 := hRB.frozen 2
  have f3 := hRB.frozen 3
  obtain ⟨c0, c1, c2, c3⟩ := hC1.cells4y
  clear hC1 h1 h2 hb1 hRB
  by_cases hc : c = 0
  · subst hc
    obtain ⟨A1, q1, rfl, hh1, hh2⟩ := own_bls HW1.out
    obtain ⟨A2, q2, rfl, hh3, hh4, hh5⟩ := own_ps HW2.out
    clear hh1 hh2 hh3 hh4 hh5
    have n1 := own_away HW1.out HRB.out (by decide)
    have n2 := own_away HW2.out HRB.out (by decide)
    rw [show ecV a0 a1 a2 0 = .nilIface from rfl]
    go_wp2_with fail
    obtain ⟨Wz, hWz⟩ : ∃ Wz, Wz = ((((w1.setCell ⟨w.heap.size, 0, none⟩ (.slice A1 bs.length q1)).setCell ⟨w.heap.size, 1, none⟩ (.slice A2 (pls bs).length q2)).setCell ⟨w.heap.size, 2, none⟩ (.int .i64 ((txt bs).length : Nat))).setCell ⟨w.heap.size, 3, none⟩ (.int .i64 (zs bs : Nat))) := ⟨_, rfl⟩
    rw [← hWz]
    have KZ : Blk Wz w.heap.size 54 #[.slice A1 bs.length q1, .slice A2 (pls bs).length q2, .int .i64 ((txt bs).length : Nat), .int .i64 (zs bs : Nat)] := by rw [hWz]; exact HRB.out.put4y _ _ _ _
    have KB : Below w.heap.size w Wz := by rw [hWz]; exact bel_set (bel_set (bel_set (bel_set HB1.out (Nat.le_refl _) _) (Nat.le_refl _) _) (Nat.le_refl _) _) (Nat.le_refl _) _
    have G1 : Wz.ownsRow w.heap.size 35 4 (.slice A1 bs.length q1) bs.length (bvs bs) := by
      rw [hWz]
      exact ownsRow_setCell_other (ownsRow_setCell_other (ownsRow_setCell_other (ownsRow_setCell_other HW1.out (a := ⟨w.heap.size, 0, none⟩) (fun h => n1 h.symm) _) (a := ⟨w.heap.size, 1, none⟩) (fun h => n1 h.symm) _) (a := ⟨w.heap.size, 2, none⟩) (fun h => n1 h.symm) _) (a := ⟨w.heap.size, 3, none⟩) (fun h => n1 h.symm) _
    have G2 : Wz.ownsRow w.heap.size 52 2 (.slice A2 (pls bs).length q2) bs.length (prs (pls bs)) := by
      rw [hWz]
      exact ownsRow_setCell_other (ownsRow_setCell_other (ownsRow_setCell_other (ownsRow_setCell_other HW2.out (a := ⟨w.heap.size, 0, none⟩) (fun h => n2 h.symm) _) (a := ⟨w.heap.size, 1, none⟩) (fun h => n2 h.symm) _) (a := ⟨w.heap.size, 2, none⟩) (fun h => n2 h.symm) _) (a := ⟨w.heap.size, 3, none⟩) (fun h => n2 h.symm) _
    clear hWz r0 r1 r2 r3 f0 f1 f2 f3 c0 c1 c2 c3
    obtain ⟨z0, z1, z2, z3⟩ := KZ.cells4y
    exact bodyPost_ret (v := .tuple #[.agg #[.slice A1 bs.length q1, .slice A2 (pls bs).length q2, .int .i64 ((txt bs).length : Nat), .int .i64 (zs bs : Nat)], .nilIface]) (by simp [results, Tryd.results26, go_sem, z0, z1, z2, z3]) rfl ⟨_, _, rfl, ⟨G1, G2⟩, KB⟩
  · obtain ⟨x, hx⟩ : ∃ x, ecV a0 a1 a2 c = errV x := by
      unfold ecV
      rw [if_neg hc]
      split
      · exact ⟨_, rfl⟩
      · split
        · exact ⟨_, rfl⟩
        · exact ⟨_, rfl⟩
    rw [hx]
    unfold errV
    go_wp2_with fail
    obtain ⟨Wz, hWz⟩ : ∃ Wz, Wz = ((((w1.setCell ⟨w.heap.size, 0, none⟩ (.slice none 0 0)).setCell ⟨w.heap.size, 1, none⟩ (.slice none 0 0)).setCell ⟨w.heap.size, 2, none⟩ (.int .i64 0)).setCell ⟨w.heap.size, 3, none⟩ (.int .i64 0)) := ⟨_, rfl⟩
    rw [← hWz]
    have KZ : Blk Wz w.heap.size 54 #[.slice none 0 0, .slice none 0 0, .int .i64 0, .int .i64 0] := by rw [hWz]; exact HRB.out.put4y _ _ _ _
    have KB : Below w.heap.size w Wz := by rw [hWz]; exact bel_set (bel_set (bel_set (bel_set HB1.out (Nat.le_refl _) _) (Nat.le_refl _) _) (Nat.le_refl _) _) (Nat.le_refl _) _
    clear hWz r0 r1 r2 r3 f0 f1 f2 f3 c0 c1 c2 c3
    obtain ⟨z0, z1, z2, z3⟩ := KZ.cells4y
    exact bodyPost_ret (v := .tuple #[.agg #[.slice none 0 0, .slice none 0 0, .int .i64 0, .int .i64 0], errV x]) (by simp [results, Tryd.results26, go_sem, z0, z1, z2, z3, errV]) rfl ⟨rfl, KB⟩
end Go.Proofs.YtepbjmpbcobfpaaDoor
