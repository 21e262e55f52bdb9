/- The walk of the law on a stream in the other order. -/
import Derived.Test.YtophlgnmfhoeiaaVk
import Derived.Test.YtophlgnmfhoeiaaDe
import Derived.Test.YtophlgnmfhoeiaaPc
import Derived.Test.YtophlgnmfhoeiaaPd
import Derived.Test.YtophlgnmfhoeiaaRp
import Derived.Test.YtophlgnmfhoeiaaBs
import Derived.Test.YtophlgnmfhoeiaaSi
namespace Go.Proofs.Ytophlgnmfhoeiaa
open Go.ChangeShapes Go.WideShapes Go.ChangeAt Go.RowKit Go.Joins
set_option linter.unusedVariables false

set_option maxHeartbeats 4000000 in
set_option maxRecDepth 100000 in
theorem walk_FnRepack (A' : Option Addr) (n cap : Nat) (w : World) (hc : CodeAt w w.heap.size A' n cap) : Calls Try.prog 13 #[.slice A' n cap] w fun e w' => e = .returned (.bool true) ∧ Below w.heap.size w w' := by
  by_cases big : 1048576 < n
  · have h1 := hc.1
    have h2 := hc.2.1
    unfold maxLen at h2
    go_enter Try.func13, Try.ntmps13
    go_wp2_with fail
    go_ret
    exact ⟨rfl, by (repeat (first | with_reducible (first | assumption | exact Below.refl _ _ | refine bel_alloc ?_ _ | refine bel_drew ?_ | refine bel_drewN ?_ _ | refine bel_set ?_ (by first | omega | (simp; done) | (simp; omega)) _ | refine bel_trans ?_ (by assumption)) | assumption | refine bel_trans ?_ (by assumption)))⟩
  · go_enter Try.func13, Try.ntmps13
    go_wp2_with fail
    refine (c_DrawRepackStream _ _ _ _ hc).mono ?_
    rintro e w1 ⟨k, A, cp, s, rfl, hw, hl, hs, ho, b1⟩
    have HZ := hid (KB.new ho)
    have c1 := bel_alloc b1 (.cells #[.int .i64 k.o, .int .i64 k.l, .int .i64 k.m, .slice A k.ps.length cp, .int .i64 k.base, .int .i64 k.last] 32)
    clear ho b1 hc
    obtain ⟨p0, p1, p2, p3, p4, p5⟩ := HZ.out.bx.cells6
    have hsm : s.size ≤ maxLen := by unfold maxLen; omega
    by_cases hk : UnpOk k s
    · skip
      by_cases he : k.ue s = 0
      · skip
        have H1 := hid (fun (v : World) (h : KB w1.heap.size w1.heap.size k A cp v) => c_RepackStream_yes k A cp _ v h.ps h.le hw s ⟨hk, he⟩)
        have H2 := hid (fun (v : World) (h : KB w1.heap.size w1.heap.size k A cp v) => c_sRepackStream_yes k A cp _ v h.ps h.le hw s ⟨hk, he⟩)
        have H3 := hid (fun (v : World) (h : KB w1.heap.size w1.heap.size k A cp v) => c_UnpackCodes_yes k A cp _ v h.ps h.le hw s hk)
        have hgood := Kn.uc_good hk.1 s
        have hlen := Kn.uc_len hk.1 s
        have HOk := hid (show CodesOk k (k.uc s) from ⟨hk.1, hlen, hgood⟩)
        have hto := hk.1.turn
        have hko : 0 ≤ k.o ∧ k.o ≤ 1 := by have := (setOk_iff.1 hk.1.set).1; omega
        have hts := hto.packed_le (cs := k.uc s) (by rw [Kn.turn_good]; exact hgood) hlen
        obtain ⟨u1, u2, u3⟩ := Kn.turn_packed_uc hk.1 he
        have hback : k.turn.again (k.again s) = k.packed (k.uc s) := by rw [Kn.again, Kn.again, u1, Kn.turn_turn]
        have e0 : k.again s = k.turn.packed (k.uc s) := rfl
        rw [← e0] at u1 u2 u3 hts
        obtain ⟨T, hT⟩ : ∃ T, T = k.again s := ⟨_, rfl⟩
        rw [← hT] at H1 H2 u1 u2 u3 hts hback
        rw [he] at H3
        obtain ⟨CS, hCS⟩ : ∃ CS, CS = k.uc s := ⟨_, rfl⟩
        rw [← hCS] at H3 HOk u1 hback hlen
        obtain ⟨U, hU⟩ : ∃ U, U = k.uu s := ⟨_, rfl⟩
        rw [← hU] at H3
        have H4 := hid (show ∀ (v : World) (b : Nat) (h : KB w1.heap.size b k.turn A cp v), Calls Try.prog 48 #[.agg #[.int .i64 k.turn.o, .int .i64 k.turn.l, .int .i64 k.turn.m, .slice A k.turn.ps.length cp, .int .i64 k.turn.base, .int .i64 k.turn.last], .string T] v (fun e w' => ∃ A' cap', e = .returned (.tuple #[.slice A' CS.length cap', .int .i64 0, .int .i64 (T.size : Nat)]) ∧ w'.ownsRow v.heap.size 3 1 (.slice A' CS.length cap') CS.length (CS.map iv) ∧ Below v.heap.size v w') by
          intro v b h
          have := c_UnpackCodes_yes k.turn A cp _ v h.ps h.le hw.turn T ⟨hto, hts⟩
          rw [u1, u2, u3] at this
          exact this)
        have H5 := hid (show ∀ (v : World) (b : Nat) (h : KB w1.heap.size b k.turn A cp v), Calls Try.prog 64 #[.agg #[.int .i64 k.turn.o, .int .i64 k.turn.l, .int .i64 k.turn.m, .slice A k.turn.ps.length cp, .int .i64 k.turn.base, .int .i64 k.turn.last], .string T] v (fun e w' => e = .returned (.tuple #[.string (k.packed CS), .bool true]) ∧ Below v.heap.size v w') by
          intro v b h
          have := c_RepackStream_yes k.turn A cp _ v h.ps h.le hw.turn T ⟨⟨hto, hts⟩, u2⟩
          rw [hback] at this
          exact this)
        have H6 := hid (fun (v : World) (h : KB w1.heap.size w1.heap.size k A cp v) (A2 : Option Addr) (c2 : Nat) (hn : NumsAt v v.heap.size A2 c2 CS) => c_PackCodes_yes k A cp _ v h.ps h.le hw A2 c2 v.heap.size CS hn (Nat.le_refl _) HOk.out)
        obtain ⟨P, hP⟩ : ∃ P, P = k.packed CS := ⟨_, rfl⟩
        rw [← hP] at H5 H6
        have HI := hid (fun (v : World) (A5 A6 : Option Addr) (c5 c6 : Nat) (h5 : NumsAt v v.heap.size A5 c5 CS) (h6 : NumsAt v v.heap.size A6 c6 CS) => c_soInts A5 A6 c5 c6 CS v.heap.size v.heap.size v h5 h6 (Nat.le_refl _) (Nat.le_refl _) (by omega))
        clear hk hw hsm hgood hto hts u1 u2 u3 hback hT hCS hU hP he e0
        go_wp2_with fail
        refine (H1.out _ HZ.out).mono ?_
        rintro e w2 ⟨rfl, hb2⟩
        replace HZ := hid (HZ.out.on hb2)
        have c2 := bel_trans c1 hb2
        clear p0 p1 p2 p3 p4 p5
        obtain ⟨p0, p1, p2, p3, p4, p5⟩ := HZ.out.bx.cells6
        go_wp2_with fail
        refine (H2.out _ HZ.out).mono ?_
        rintro e w3 ⟨rfl, hb3⟩
        replace HZ := hid (HZ.out.on hb3)
        have c3 := bel_trans c2 hb3
        clear p0 p1 p2 p3 p4 p5
        obtain ⟨p0, p1, p2, p3, p4, p5⟩ := HZ.out.bx.cells6
        go_wp2_with fail
        refine (H3.out _ HZ.out).mono ?_
        rintro e w4 ⟨A2, c2, rfl, ho4, hb4⟩
        replace HZ := hid (HZ.out.on hb4)
        have c4 := bel_trans c3 hb4
        clear p0 p1 p2 p3 p4 p5
        obtain ⟨p0, p1, p2, p3, p4, p5⟩ := HZ.out.bx.cells6
        have HN := hid (own_ints_at ho4)
        clear ho4
        have HT := hid (show KB w1.heap.size w4.heap.size k.turn A cp (w4.alloc (.cells #[.int .i64 k.turn.o, .int .i64 k.turn.l, .int .i64 k.turn.m, .slice A k.turn.ps.length cp, .int .i64 k.turn.base, .int .i64 k.turn.last] 32)) from ⟨Blk.new w4 _ _, (HZ.out.on (bel_alloc (Below.refl _ w4) _)).ps, by have := HZ.out.le; simp; omega⟩)
        have hlt14 : w1.heap.size < w4.heap.size := HZ.out.bx.lt
        go_wp2_with fail
        refine (H4.out _ _ HT.out).mono ?_
        rintro e w5 ⟨A5, c5, rfl, ho5, hb5⟩
        replace HZ := hid ((HZ.out.on (bel_alloc (Below.refl _ w4) _)).on hb5)
        replace HN := hid ((HN.out.below (bel_alloc (Below.refl _ w4) (.cells #[.int .i64 k.turn.o, .int .i64 k.turn.l, .int .i64 k.turn.m, .slice A k.turn.ps.length cp, .int .i64 k.turn.base, .int .i64 k.turn.last] 32)) (Nat.le_refl _)).below hb5 (by simp))
        replace HT := hid (HT.out.on hb5)
        have c5' := bel_trans (bel_alloc c4 _) hb5
        have HM := hid (own_ints_at ho5)
        have hz5 := hb5.size
        rw [alloc_size] at hz5
        clear ho5 hb5 p0 p1 p2 p3 p4 p5
        obtain ⟨p0, p1, p2, p3, p4, p5⟩ := HZ.out.bx.cells6
        obtain ⟨r0, r1, r2, r3, r4, r5⟩ := HT.out.bx.cells6
        go_wp2_with fail
        refine (H5.out _ _ HT.out).mono ?_
        rintro e w6 ⟨rfl, hb6⟩
        replace HZ := hid (HZ.out.on hb6)
        replace HN := hid ((HN.out.below hb6 (by omega)).mono (show w4.heap.size ≤ w6.heap.size by have := hb6.size; omega))
        replace HM := hid ((HM.out.below hb6 (Nat.le_refl _)).mono hb6.size)
        have c6 := bel_trans c5' hb6
        clear hb6 p0 p1 p2 p3 p4 p5 r0 r1 r2 r3 r4 r5
        obtain ⟨p0, p1, p2, p3, p4, p5⟩ := HZ.out.bx.cells6
        go_wp2_with fail
        refine (H6.out _ HZ.out A2 c2 HN.out).mono ?_
        rintro e w7 ⟨rfl, hb7⟩
        replace HN := hid ((HN.out.below hb7 (Nat.le_refl _)).mono hb7.size)
        replace HM := hid ((HM.out.below hb7 (Nat.le_refl _)).mono hb7.size)
        have c7 := bel_trans c6 hb7
        go_wp2_with fail
        refine (HI.out _ A5 A2 c5 c2 HM.out HN.out).mono ?_
        rintro e w8 ⟨rfl, hb8⟩
        go_wp2
        go_ret
        exact ⟨rfl, bel_trans c7 hb8⟩
      · skip
        have H1 := hid (fun (v : World) (h : KB w1.heap.size w1.heap.size k A cp v) => c_RepackStream_end k A cp _ v h.ps h.le hw s hk he)
        have H2 := hid (fun (v : World) (h : KB w1.heap.size w1.heap.size k A cp v) => c_sRepackStream_end k A cp _ v h.ps h.le hw s hk he)
        have H3 := hid (fun (v : World) (h : KB w1.heap.size w1.heap.size k A cp v) => c_UnpackCodes_yes k A cp _ v h.ps h.le hw s hk)
        obtain ⟨CS, hCS⟩ : ∃ CS, CS = k.uc s := ⟨_, rfl⟩
        obtain ⟨E, hE⟩ : ∃ E, E = k.ue s := ⟨_, rfl⟩
        obtain ⟨U, hU⟩ : ∃ U, U = k.uu s := ⟨_, rfl⟩
        rw [← hCS, ← hE, ← hU] at H3
        have eE : (E == 0) = false := by rw [beq_eq_false_iff_ne, hE]; exact he
        clear hk hw hsm hCS hE hU he
        go_wp2_with fail
        refine (H1.out _ HZ.out).mono ?_
        rintro e w2 ⟨rfl, hb2⟩
        replace HZ := hid (HZ.out.on hb2)
        have c2 := bel_trans c1 hb2
        clear p0 p1 p2 p3 p4 p5
        obtain ⟨p0, p1, p2, p3, p4, p5⟩ := HZ.out.bx.cells6
        go_wp2_with fail
        refine (H2.out _ HZ.out).mono ?_
        rintro e w3 ⟨rfl, hb3⟩
        replace HZ := hid (HZ.out.on hb3)
        have c3 := bel_trans c2 hb3
        clear p0 p1 p2 p3 p4 p5
        obtain ⟨p0, p1, p2, p3, p4, p5⟩ := HZ.out.bx.cells6
        go_wp2_with fail
        refine (H3.out _ HZ.out).mono ?_
        rintro e w4 ⟨A2, c2, rfl, ho4, hb4⟩
        replace HZ := hid (HZ.out.on hb4)
        have c4 := bel_trans c3 hb4
        clear p0 p1 p2 p3 p4 p5
        obtain ⟨p0, p1, p2, p3, p4, p5⟩ := HZ.out.bx.cells6
        clear ho4
        go_wp2
        go_ret
        exact ⟨rfl, by (repeat (first | with_reducible (first | assumption | exact Below.refl _ _ | refine bel_alloc ?_ _ | refine bel_drew ?_ | refine bel_drewN ?_ _ | refine bel_set ?_ (by first | omega | (simp; done) | (simp; omega)) _ | refine bel_trans ?_ (by assumption)) | assumption | refine bel_trans ?_ (by assumption)))⟩
    · skip
      have H1 := hid (fun (v : World) (h : KB w1.heap.size w1.heap.size k A cp v) => c_RepackStream_inv k A cp _ v h.ps h.le hw s hsm hk)
      have H2 := hid (fun (v : World) (h : KB w1.heap.size w1.heap.size k A cp v) => c_sRepackStream_inv k A cp _ v h.ps h.le hw s hsm hk)
      have H3 := hid (fun (v : World) (h : KB w1.heap.size w1.heap.size k A cp v) => c_UnpackCodes_no k A cp _ v h.ps h.le hw s hsm hk)
      clear hk hw hsm
      go_wp2_with fail
      refine (H1.out _ HZ.out).mono ?_
      rintro e w2 ⟨rfl, hb2⟩
      replace HZ := hid (HZ.out.on hb2)
      have c2 := bel_trans c1 hb2
      clear p0 p1 p2 p3 p4 p5
      obtain ⟨p0, p1, p2, p3, p4, p5⟩ := HZ.out.bx.cells6
      go_wp2_with fail
      refine (H2.out _ HZ.out).mono ?_
      rintro e w3 ⟨rfl, hb3⟩
      replace HZ := hid (HZ.out.on hb3)
      have c3 := bel_trans c2 hb3
      clear p0 p1 p2 p3 p4 p5
      obtain ⟨p0, p1, p2, p3, p4, p5⟩ := HZ.out.bx.cells6
      go_wp2_with fail
      refine (H3.out _ HZ.out).mono ?_
      rintro e w4 ⟨rfl, hb4⟩
      replace HZ := hid (HZ.out.on hb4)
      have c4 := bel_trans c3 hb4
      clear p0 p1 p2 p3 p4 p5
      obtain ⟨p0, p1, p2, p3, p4, p5⟩ := HZ.out.bx.cells6
      go_wp2
      go_ret
      exact ⟨rfl, by (repeat (first | with_reducible (first | assumption | exact Below.refl _ _ | refine bel_alloc ?_ _ | refine bel_drew ?_ | refine bel_drewN ?_ _ | refine bel_set ?_ (by first | omega | (simp; done) | (simp; omega)) _ | refine bel_trans ?_ (by assumption)) | assumption | refine bel_trans ?_ (by assumption)))⟩
end Go.Proofs.Ytophlgnmfhoeiaa
