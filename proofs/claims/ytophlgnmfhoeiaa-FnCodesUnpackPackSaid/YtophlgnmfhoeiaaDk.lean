/- Contracts of the model's own drawing of what is known: a code that can follow; what is known after some codes. -/
import Derived.Test.YtophlgnmfhoeiaaDraw9
import Derived.Test.YtophlgnmfhoeiaaBf
import Derived.Test.YtophlgnmfhoeiaaBe
namespace Go.Proofs.Ytophlgnmfhoeiaa
open Go.ChangeShapes Go.WideShapes Go.ChangeAt Go.RowKit Go.Joins
set_option linter.unusedVariables false

def PickOut (k : Kn) (w : World) (L B q : Nat) (e : Ending) (w' : World) : Prop := ∃ code : Int, e = .returned (.int .i64 code) ∧ k.Fol code ∧ Rd 131 w' L B (q + 4) ∧ w.grownBy w' (some B)
theorem Rd.near {T : TypeId} {w w' : World} {L B q : Nat} (h : Rd T w L B q) (hb : Below w.heap.size w w') : Rd T w' L B q := h.grown (grown_below none hb) (by simp)
theorem Rd.drew' {T : TypeId} {w : World} {L B q : Nat} (h : Rd T w L B q) : Rd T w.drew L B q := h
set_option maxHeartbeats 4000000 in
theorem c_l2Pick (L B q : Nat) (k : Kn) (A : Option Addr) (cap : Nat) (w : World) (hr : Rd 131 w L B q) (hq : q ≤ 100000000000) (hk : k.Ok) :
    Calls Try.prog 95 #[.pointer (some ⟨B, 0, none⟩), .agg #[.int .i64 k.o, .int .i64 k.l, .int .i64 k.m, .slice A k.ps.length cap, .int .i64 k.base, .int .i64 k.last]] w (PickOut k w L B q) := by
  have hB := hr.lt
  have hcb := hk.cbd
  have hkl := hk.len
  have kN := Blk.new w 32 #[.int .i64 k.o, .int .i64 k.l, .int .i64 k.m, .slice A k.ps.length cap, .int .i64 k.base, .int .i64 k.last]
  obtain ⟨p0, p1, p2, p3, p4, p5⟩ := kN.cells6
  obtain ⟨_, ⟨hl1, hl2⟩, hm1, hm2⟩ := setOk_iff.1 hk.set
  have HG := hid (fun (v : World) => c_l2Grows k A cap v hk)
  have HN := hid (fun (v : World) => c_l2Next k A cap v hk)
  have HE := hid (fun (v : World) => c_l1End k.o k.l k.m v (by omega) (by omega))
  have HC := hid (fun (v : World) => c_l1Clear k.o k.l k.m v (by omega) (by omega))
  obtain ⟨C, hC⟩ : ∃ C, C = pow2 k.l := ⟨_, rfl⟩
  rw [← hC] at HE HC
  have hCb : 2 ≤ C ∧ C ≤ 256 := by unfold Kn.c at hcb; omega
  have HLit := hid (fun (x : Int) (h0 : 0 ≤ x) (h1 : x < C) => (Or.inl (Or.inl ⟨h0, by rw [hC] at h1; exact h1⟩) : k.Fol x))
  have HPr := hid (fun (j : Int) (h0 : 0 ≤ j) (h1 : j < k.ps.length) => (Or.inl (Or.inr ⟨by show k.c + 2 ≤ _; unfold Kn.c; rw [← hC]; omega, by show _ < k.c + 2 + _; unfold Kn.c; rw [← hC]; omega⟩) : k.Fol (C + 1 + 1 + j)))
  obtain ⟨G, hG⟩ : ∃ G, G = k.grows := ⟨_, rfl⟩
  obtain ⟨X, hX⟩ : ∃ X, X = k.next := ⟨_, rfl⟩
  simp only [← hG, ← hX] at HG HN
  have HNx := hid (show G = true → k.Fol X from fun hg => Or.inr ⟨hG.symm.trans hg, hX⟩)
  have hr1 := hr.alloc (.cells #[.int .i64 k.o, .int .i64 k.l, .int .i64 k.m, .slice A k.ps.length cap, .int .i64 k.base, .int .i64 k.last] 32)
  have g1 : w.grownBy (w.alloc (.cells #[.int .i64 k.o, .int .i64 k.l, .int .i64 k.m, .slice A k.ps.length cap, .int .i64 k.base, .int .i64 k.last] 32)) (some B) := grown_alloc (grown_refl w _) _
  clear hr hC hcb hk hG hX
  go_enter Try.func95, Try.ntmps95
  go_wp2_with fail
  refine (c_pick L B q 6 _ hr1 (by omega) (by decide)).mono ?_
  rintro e w1 ⟨x, rfl, hx0, hx1, _, hr2, hg2⟩
  have hx2 := hx1 (by decide)
  have kN1 := kN.grown hg2 (by simp; omega)
  have g2 := grown_trans g1 hg2
  clear hx1 hr1 hg2 g1 kN p0 p1 p2 p3 p4 p5
  have HR1 := hid hr2
  have hB1 := hr2.lt
  clear hr2
  obtain ⟨p0, p1, p2, p3, p4, p5⟩ := kN1.cells6
  by_cases c0 : x = 0
  · have e0 : (x == 0) = true := eq_yes c0
    clear c0
    go_wp2_with fail
    refine (HG.out _).mono ?_
    rintro e w2 ⟨rfl, hb2⟩
    have kN2 := kN1.on hb2
    have HR2 := hid (HR1.out.near hb2)
    have g3 := grown_trans g2 (grown_below _ hb2)
    clear HR1 g2 hb2 kN1 p0 p1 p2 p3 p4 p5
    obtain ⟨p0, p1, p2, p3, p4, p5⟩ := kN2.cells6
    cases G with
    | true =>
      go_wp2_with fail
      refine (HN.out _).mono ?_
      rintro e w3 ⟨rfl, hb3⟩
      go_wp2
      go_ret
      exact ⟨_, rfl, HNx.out trivial, (HR2.out.near hb3).more (by omega), grown_trans g3 (grown_below _ hb3)⟩
    | false =>
      go_wp2_with fail
      go_region_with (first | (go_at_call 81; refine (c_pick L B (q + 1) 256 _ (by first | exact HR2.out.drew' | exact HR2.out.drew'.near hbC) (by omega) (by decide)).mono ?_; rintro e w5 ⟨x5, rfl, h50, h51, _, hr5, hg5⟩; have hb5 : _ < _ := h51 (by decide); have kb5 : Blk w5 w.heap.size 32 #[.int .i64 k.o, .int .i64 k.l, .int .i64 k.m, .slice A k.ps.length cap, .int .i64 k.base, .int .i64 k.last] := (by first | exact kN2.drew.grown hg5 (by simp; omega) | exact (kN2.drew.on hbC).grown hg5 (by simp; omega)); obtain ⟨r0, r1, r2, r3, r4, r5⟩ := kb5.cells6) | (go_at_call 127; refine (HC.out _).mono ?_; rintro e wC ⟨rfl, hbC⟩))
      all_goals
        have HF : Hid (∀ W : World, True) := hid fun _ => trivial
        go_wp2
        go_ret
        exact ⟨_, rfl, by first | exact HLit.out _ (Int.emod_nonneg _ (by omega)) (Int.emod_lt_of_pos _ (by omega)) | exact HLit.out _ (tmod_bd _ _ (by omega) (by omega)).1 (tmod_bd _ _ (by omega) (by omega)).2, by first | exact (hr5.near hbC).more (by omega) | exact hr5.more (by omega), by first | exact grown_trans (grown_trans (grown_drew g3) hg5) (grown_below _ hbC) | exact grown_trans (grown_trans (grown_drew g3) (grown_below _ hbC)) hg5⟩
  · have e0 : (x == 0) = false := eq_no (by omega)
    by_cases c1 : x ≤ 3
    · by_cases hz : k.ps.length = 0
      · have hz1 : ¬ (0 : Int) < (k.ps.length : Int) := by omega
        obtain rfl | rfl | rfl : x = 1 ∨ x = 2 ∨ x = 3 := by omega
        all_goals
          go_wp2_with fail
          go_region_with (first | (go_at_call 81; refine (c_pick L B (q + 1) 256 _ (by first | exact HR1.out.drew' | exact HR1.out.drew'.near hbC) (by omega) (by decide)).mono ?_; rintro e w5 ⟨x5, rfl, h50, h51, _, hr5, hg5⟩; have hb5 : _ < _ := h51 (by decide); have kb5 : Blk w5 w.heap.size 32 #[.int .i64 k.o, .int .i64 k.l, .int .i64 k.m, .slice A k.ps.length cap, .int .i64 k.base, .int .i64 k.last] := (by first | exact kN1.drew.grown hg5 (by simp; omega) | exact (kN1.drew.on hbC).grown hg5 (by simp; omega)); obtain ⟨r0, r1, r2, r3, r4, r5⟩ := kb5.cells6) | (go_at_call 127; refine (HC.out _).mono ?_; rintro e wC ⟨rfl, hbC⟩))
          all_goals
            have HF : Hid (∀ W : World, True) := hid fun _ => trivial
            go_wp2
            go_ret
            exact ⟨_, rfl, by first | exact HLit.out _ (Int.emod_nonneg _ (by omega)) (Int.emod_lt_of_pos _ (by omega)) | exact HLit.out _ (tmod_bd _ _ (by omega) (by omega)).1 (tmod_bd _ _ (by omega) (by omega)).2, by first | exact (hr5.near hbC).more (by omega) | exact hr5.more (by omega), by first | exact grown_trans (grown_trans (grown_drew g2) hg5) (grown_below _ hbC) | exact grown_trans (grown_trans (grown_drew g2) (grown_below _ hbC)) hg5⟩
      · have hz1 : (0 : Int) < (k.ps.length : Int) := by omega
        have hz2 : ((k.ps.length : Int) == 0) = false := eq_no (by omega)
        obtain rfl | rfl | rfl : x = 1 ∨ x = 2 ∨ x = 3 := by omega
        all_goals
          go_wp2_with fail
          refine (HE.out _).mono ?_
          rintro e w2 ⟨rfl, hb2⟩
          have HR2 := hid (HR1.out.near hb2)
          have g3 := grown_trans g2 (grown_below _ hb2)
          clear HR1 g2 hb2 kN1 p0 p1 p2 p3 p4 p5
          go_wp2_with fail
          refine (c_pick L B (q + 1) 256 _ HR2.out (by omega) (by decide)).mono ?_
          rintro e w3 ⟨y, rfl, hy0, hy1, _, hr3, hg3⟩
          have hy2 := hy1 (by decide)
          have g4 := grown_trans g3 hg3
          have HR3 := hid hr3
          clear HR2 hy1 hr3 hg3 g3
          go_wp2_with fail
          refine (c_pick L B (q + 1 + 1) 256 _ HR3.out (by omega) (by decide)).mono ?_
          rintro e w4 ⟨z, rfl, hz0, hz3, _, hr4, hg4⟩
          have hz4 := hz3 (by decide)
          have g5 := grown_trans g4 hg4
          have HR4 := hid hr4
          clear HR3 hz3 hr4 hg4 g4
          go_wp2
          go_ret
          have m0 := Int.emod_nonneg (y * 256 + z) (show (k.ps.length : Int) ≠ 0 by omega)
          have m1 := Int.emod_lt_of_pos (y * 256 + z) hz1
          exact ⟨_, rfl, by
            generalize (y * 256 + z) % (k.ps.length : Int) = R at m0 m1 ⊢
            rw [IntWalk.wrap64_in _ (by omega)]
            exact HPr.out _ m0 m1, HR4.out.more (by omega), g5⟩
    · have e1 : (x == 1) = false := eq_no (by omega)
      have e2 : (x == 2) = false := eq_no (by omega)
      have e3 : (x == 3) = false := eq_no (by omega)
      go_wp2_with fail
      go_region_with (first | (go_at_call 81; refine (c_pick L B (q + 1) 256 _ (by first | exact HR1.out.drew' | exact HR1.out.drew'.near hbC) (by omega) (by decide)).mono ?_; rintro e w5 ⟨x5, rfl, h50, h51, _, hr5, hg5⟩; have hb5 : _ < _ := h51 (by decide); have kb5 : Blk w5 w.heap.size 32 #[.int .i64 k.o, .int .i64 k.l, .int .i64 k.m, .slice A k.ps.length cap, .int .i64 k.base, .int .i64 k.last] := (by first | exact kN1.drew.grown hg5 (by simp; omega) | exact (kN1.drew.on hbC).grown hg5 (by simp; omega)); obtain ⟨r0, r1, r2, r3, r4, r5⟩ := kb5.cells6) | (go_at_call 127; refine (HC.out _).mono ?_; rintro e wC ⟨rfl, hbC⟩))
      all_goals
        have HF : Hid (∀ W : World, True) := hid fun _ => trivial
        go_wp2
        go_ret
        exact ⟨_, rfl, by first | exact HLit.out _ (Int.emod_nonneg _ (by omega)) (Int.emod_lt_of_pos _ (by omega)) | exact HLit.out _ (tmod_bd _ _ (by omega) (by omega)).1 (tmod_bd _ _ (by omega) (by omega)).2, by first | exact (hr5.near hbC).more (by omega) | exact hr5.more (by omega), by first | exact grown_trans (grown_trans (grown_drew g2) hg5) (grown_below _ hbC) | exact grown_trans (grown_trans (grown_drew g2) (grown_below _ hbC)) hg5⟩
end Go.Proofs.Ytophlgnmfhoeiaa
