/- The walk of the law on AfterWord. -/
import Derived.Test.YtoiifopjipfjhaaVa
import Derived.Test.YtoiifopjipfjhaaBf
namespace Go.Proofs.Ytoiifopjipfjhaa
open Go.ChangeShapes Go.WideShapes Go.ChangeAt Go.RowKit Go.Joins
set_option linter.unusedVariables false

theorem t12_drew {v : World} {a0 a1 a2 a3 a4 a5 a6 a7 a8 a9 a10 a11 : Addr} {x0 x1 x2 x3 x4 x5 x6 x7 x8 x9 x10 x11 : Value} (h : v.cell? a0 = some x0 ∧ v.cell? a1 = some x1 ∧ v.cell? a2 = some x2 ∧ v.cell? a3 = some x3 ∧ v.cell? a4 = some x4 ∧ v.cell? a5 = some x5 ∧ v.cell? a6 = some x6 ∧ v.cell? a7 = some x7 ∧ v.cell? a8 = some x8 ∧ v.cell? a9 = some x9 ∧ v.cell? a10 = some x10 ∧ v.cell? a11 = some x11 ∧ True) : v.drew.cell? a0 = some x0 ∧ v.drew.cell? a1 = some x1 ∧ v.drew.cell? a2 = some x2 ∧ v.drew.cell? a3 = some x3 ∧ v.drew.cell? a4 = some x4 ∧ v.drew.cell? a5 = some x5 ∧ v.drew.cell? a6 = some x6 ∧ v.drew.cell? a7 = some x7 ∧ v.drew.cell? a8 = some x8 ∧ v.drew.cell? a9 = some x9 ∧ v.drew.cell? a10 = some x10 ∧ v.drew.cell? a11 = some x11 ∧ True := h
theorem KB.cells12 {L b L2 b2 : Nat} {k R : Kn} {A A1 : Option Addr} {cp k1 : Nat} {v : World} (h : KB L b k A cp v) (g : KB L2 b2 R A1 k1 v) : v.cell? ⟨b, 0, none⟩ = some (.int .i64 k.o) ∧ v.cell? ⟨b, 1, none⟩ = some (.int .i64 k.l) ∧ v.cell? ⟨b, 2, none⟩ = some (.int .i64 k.m) ∧ v.cell? ⟨b, 3, none⟩ = some (.slice A k.ps.length cp) ∧ v.cell? ⟨b, 4, none⟩ = some (.int .i64 k.base) ∧ v.cell? ⟨b, 5, none⟩ = some (.int .i64 k.last) ∧ v.cell? ⟨b2, 0, none⟩ = some (.int .i64 R.o) ∧ v.cell? ⟨b2, 1, none⟩ = some (.int .i64 R.l) ∧ v.cell? ⟨b2, 2, none⟩ = some (.int .i64 R.m) ∧ v.cell? ⟨b2, 3, none⟩ = some (.slice A1 R.ps.length k1) ∧ v.cell? ⟨b2, 4, none⟩ = some (.int .i64 R.base) ∧ v.cell? ⟨b2, 5, none⟩ = some (.int .i64 R.last) ∧ True := by
  obtain ⟨h0, h1, h2, h3, h4, h5⟩ := h.bx.cells6
  obtain ⟨g0, g1, g2, g3, g4, g5⟩ := g.bx.cells6
  exact ⟨h0, h1, h2, h3, h4, h5, g0, g1, g2, g3, g4, g5, trivial⟩

set_option maxHeartbeats 4000000 in
set_option maxRecDepth 100000 in
theorem walk_FnAfterWord (A' : Option Addr) (n cap : Nat) (w : World) (hc : CodeAt w w.heap.size A' n cap) : Calls Try.prog 5 #[.slice A' n cap] w fun e w' => e = .returned (.bool true) ∧ Below w.heap.size w w' := by
  by_cases big : 1048576 < n
  · have h1 := hc.1
    have h2 := hc.2.1
    unfold maxLen at h2
    go_enter Try.func5, Try.ntmps5
    go_wp2_with fail
    go_ret
    exact ⟨rfl, by (repeat (first | with_reducible (first | assumption | exact Below.refl _ _ | refine bel_alloc ?_ _ | refine bel_drew ?_ | refine bel_drewN ?_ _ | refine bel_set ?_ (by first | omega | (simp; done) | (simp; omega)) _ | refine bel_trans ?_ (by assumption)) | assumption | refine bel_trans ?_ (by assumption)))⟩
  · go_enter Try.func5, Try.ntmps5
    go_wp2_with fail
    refine (c_DrawAfter _ _ _ _ hc).mono ?_
    rintro e w1 ⟨k, A, cp, x, rfl, hw, hl, hx, ho, b1⟩
    have HZ := hid (KB.new ho)
    have cc := bel_alloc b1 (.cells #[.int .i64 k.o, .int .i64 k.l, .int .i64 k.m, .slice A k.ps.length cp, .int .i64 k.base, .int .i64 k.last] 28)
    clear ho b1 hc
    obtain ⟨p0, p1, p2, p3, p4, p5⟩ := HZ.out.bx.cells6
    obtain ⟨R, b, hl0, hb, HS, HI⟩ : ∃ (R : Kn) (b : Bool), R.ps.length ≤ 1048576 ∧ (b = true → k.Ok ∧ (x = k.c ∨ k.Fol x) ∧ R = k.step x) ∧ (∀ (A : Option Addr) (cap L : Nat) (w : World), PsAt w L A cap k.ps → L ≤ w.heap.size → Calls Try.prog 44 #[.agg #[.int .i64 k.o, .int .i64 k.l, .int .i64 k.m, .slice A k.ps.length cap, .int .i64 k.base, .int .i64 k.last], .int .i64 x] w fun e w' => ∃ A' c', e = .returned (.tuple #[.agg #[.int .i64 R.o, .int .i64 R.l, .int .i64 R.m, .slice A' R.ps.length c', .int .i64 R.base, .int .i64 R.last], .bool b]) ∧ w'.ownsRow w.heap.size 41 2 (.slice A' R.ps.length c') R.ps.length (prs R.ps) ∧ Below w.heap.size w w') ∧ (∀ (A : Option Addr) (cap L : Nat) (w : World), PsAt w L A cap k.ps → L ≤ w.heap.size → Calls Try.prog 43 #[.agg #[.int .i64 k.o, .int .i64 k.l, .int .i64 k.m, .slice A k.ps.length cap, .int .i64 k.base, .int .i64 k.last], .int .i64 x] w fun e w' => ∃ A' c', e = .returned (.tuple #[.agg #[.int .i64 R.o, .int .i64 R.l, .int .i64 R.m, .slice A' R.ps.length c', .int .i64 R.base, .int .i64 R.last], .bool b]) ∧ w'.ownsRow w.heap.size 41 2 (.slice A' R.ps.length c') R.ps.length (prs R.ps) ∧ Below w.heap.size w w') := by
      by_cases hk : k.Ok
      · by_cases hc : x = k.c ∨ k.Fol x
        · refine ⟨k.step x, true, ?_, fun _ => ⟨hk, hc, rfl⟩, fun A cap L w h hL => After_yes_s k A cap L w h hL hk x hc hw, fun A cap L w h hL => After_yes_i k A cap L w h hL hk x hc hw⟩
          have := (hk.step hc).len
          omega
        · have h1 : x ≠ k.c := fun e => hc (.inl e)
          have h2 : ¬ k.Fol x := fun e => hc (.inr e)
          exact ⟨⟨0, 0, 0, [], 0, 0⟩, false, by simp, (fun h => nomatch h), fun A cap L w h hL => (c_sAfter_no k A cap L w h hL x hk h1 h2 hw).mono fun e w' ⟨q1, q2⟩ => ⟨none, 0, q1, own_ps_nil _ _ _, q2⟩, fun A cap L w h hL => (c_After_no k A cap L w h hL x hk h1 h2 hw).mono fun e w' ⟨q1, q2⟩ => ⟨none, 0, q1, own_ps_nil _ _ _, q2⟩⟩
      · exact ⟨⟨0, 0, 0, [], 0, 0⟩, false, by simp, (fun h => nomatch h), fun A cap L w h hL => (c_sAfter_bad k A cap L w h hL x hk hw).mono fun e w' ⟨q1, q2⟩ => ⟨none, 0, q1, own_ps_nil _ _ _, q2⟩, fun A cap L w h hL => (c_After_bad k A cap L w h hL x hk hw).mono fun e w' ⟨q1, q2⟩ => ⟨none, 0, q1, own_ps_nil _ _ _, q2⟩⟩
    replace HS := hid HS
    replace HI := hid HI
    have HBs := hid hb
    have HWf := hid hw
    clear hb hw
    go_wp2_with fail
    refine (HI.out _ _ _ _ HZ.out.ps HZ.out.le).mono ?_
    rintro e w2 ⟨A1, k1, rfl, ho, hq⟩
    replace HZ := hid ((HZ.out.on hq).on (bel_alloc (Below.refl _ _) (.cells #[.int .i64 R.o, .int .i64 R.l, .int .i64 R.m, .slice A1 R.ps.length k1, .int .i64 R.base, .int .i64 R.last] 28)))
    clear p0 p1 p2 p3 p4 p5
    obtain ⟨p0, p1, p2, p3, p4, p5⟩ := HZ.out.bx.cells6
    have HX := hid (KB.new (k := R) ho)
    obtain ⟨q0, q1, q2, q3, q4, q5⟩ := HX.out.bx.cells6
    replace cc := bel_alloc (bel_trans cc hq) (.cells #[.int .i64 R.o, .int .i64 R.l, .int .i64 R.m, .slice A1 R.ps.length k1, .int .i64 R.base, .int .i64 R.last] 28)
    clear ho hq
    go_wp2_with fail
    refine (HS.out _ _ _ _ HZ.out.ps HZ.out.le).mono ?_
    rintro e w3 ⟨A2, k2, rfl, ho, hq⟩
    replace HZ := hid ((HZ.out.on hq).on (bel_alloc (Below.refl _ _) (.cells #[.int .i64 R.o, .int .i64 R.l, .int .i64 R.m, .slice A2 R.ps.length k2, .int .i64 R.base, .int .i64 R.last] 28)))
    clear p0 p1 p2 p3 p4 p5
    obtain ⟨p0, p1, p2, p3, p4, p5⟩ := HZ.out.bx.cells6
    replace HX := hid ((HX.out.on hq).on (bel_alloc (Below.refl _ _) (.cells #[.int .i64 R.o, .int .i64 R.l, .int .i64 R.m, .slice A2 R.ps.length k2, .int .i64 R.base, .int .i64 R.last] 28)))
    clear q0 q1 q2 q3 q4 q5
    obtain ⟨q0, q1, q2, q3, q4, q5⟩ := HX.out.bx.cells6
    have HW := hid (KB.new (k := R) ho)
    obtain ⟨r0, r1, r2, r3, r4, r5⟩ := HW.out.bx.cells6
    replace cc := bel_alloc (bel_trans cc hq) (.cells #[.int .i64 R.o, .int .i64 R.l, .int .i64 R.m, .slice A2 R.ps.length k2, .int .i64 R.base, .int .i64 R.last] 28)
    clear ho hq
    go_wp2_with fail
    refine (c_soKnown R A1 A2 k1 k2 _ _ _ HX.out.ps HW.out.ps HX.out.le HW.out.le hl0).mono ?_
    rintro e w4 ⟨rfl, hq⟩
    replace HZ := hid (HZ.out.on hq)
    clear p0 p1 p2 p3 p4 p5
    obtain ⟨p0, p1, p2, p3, p4, p5⟩ := HZ.out.bx.cells6
    replace HX := hid (HX.out.on hq)
    clear q0 q1 q2 q3 q4 q5
    obtain ⟨q0, q1, q2, q3, q4, q5⟩ := HX.out.bx.cells6
    replace HW := hid (HW.out.on hq)
    clear r0 r1 r2 r3 r4 r5
    obtain ⟨r0, r1, r2, r3, r4, r5⟩ := HW.out.bx.cells6
    replace cc := bel_trans cc hq
    clear hq
    clear HS HI
    cases b with
    | false =>
      clear HBs HWf
      go_wp2_with fail
      refine (c_soKnown R A1 A2 k1 k2 _ _ _ HX.out.ps HW.out.ps HX.out.le HW.out.le hl0).mono ?_
      rintro e w5 ⟨rfl, hq⟩
      replace HZ := hid (HZ.out.on hq)
      clear p0 p1 p2 p3 p4 p5
      obtain ⟨p0, p1, p2, p3, p4, p5⟩ := HZ.out.bx.cells6
      replace HX := hid (HX.out.on hq)
      clear q0 q1 q2 q3 q4 q5
      obtain ⟨q0, q1, q2, q3, q4, q5⟩ := HX.out.bx.cells6
      replace HW := hid (HW.out.on hq)
      clear r0 r1 r2 r3 r4 r5
      obtain ⟨r0, r1, r2, r3, r4, r5⟩ := HW.out.bx.cells6
      replace cc := bel_trans cc hq
      clear hq
      go_wp2
      go_ret
      exact ⟨rfl, cc⟩
    | true =>
      obtain ⟨hk, hc, hR⟩ := HBs.out rfl
      have hset := hk.set
      have hRo : R.Ok := hR ▸ hk.step hc
      have hRw := hRo.wf
      have HC := hid (fun (v : World) => c_ClearCode_yes k.o k.l k.m v hset)
      have HG := hid (fun (L b : Nat) (v : World) (h : KB L b k A cp v) => c_Grows_yes k A cp _ v h.ps h.le hk HWf.out)
      have HGx := hid (fun (L b : Nat) (v : World) (h : KB L b R A1 k1 v) => c_Grows_yes R A1 k1 _ v h.ps h.le hRo hRw)
      have HVx := hid (fun (L b : Nat) (v : World) (h : KB L b R A1 k1 v) => c_KnownValid_yes R A1 k1 _ v h.ps h.le hRo hRw)
      obtain ⟨C, hC⟩ : ∃ C, C = pow2 k.l := ⟨_, rfl⟩
      rw [← hC] at HC
      have ec : k.c = C := hC.symm
      obtain ⟨G, hG⟩ : ∃ G, G = k.grows := ⟨_, rfl⟩
      rw [← hG] at HG
      have HALL := hid (And.intro hk (And.intro hc (And.intro hR (And.intro hset (And.intro hRo (And.intro hRw (And.intro hC (And.intro ec hG))))))))
      clear hk hc hR hset hRo hRw hC ec hG
      go_wp2_with fail
      refine (HG.out _ _ _ HZ.out).mono ?_
      rintro e w5 ⟨rfl, hq⟩
      replace HZ := hid (HZ.out.on hq)
      clear p0 p1 p2 p3 p4 p5
      obtain ⟨p0, p1, p2, p3, p4, p5⟩ := HZ.out.bx.cells6
      replace HX := hid (HX.out.on hq)
      clear q0 q1 q2 q3 q4 q5
      obtain ⟨q0, q1, q2, q3, q4, q5⟩ := HX.out.bx.cells6
      replace HW := hid (HW.out.on hq)
      clear r0 r1 r2 r3 r4 r5
      obtain ⟨r0, r1, r2, r3, r4, r5⟩ := HW.out.bx.cells6
      replace cc := bel_trans cc hq
      clear hq
      cases G with
      | false =>
        clear HBs HWf HALL
        go_wp2_with fail
        refine (c_soKnown R A1 A2 k1 k2 _ _ _ HX.out.ps HW.out.ps HX.out.le HW.out.le hl0).mono ?_
        rintro e w6 ⟨rfl, hq⟩
        replace HZ := hid (HZ.out.on hq)
        clear p0 p1 p2 p3 p4 p5
        obtain ⟨p0, p1, p2, p3, p4, p5⟩ := HZ.out.bx.cells6
        replace HX := hid (HX.out.on hq)
        clear q0 q1 q2 q3 q4 q5
        obtain ⟨q0, q1, q2, q3, q4, q5⟩ := HX.out.bx.cells6
        replace HW := hid (HW.out.on hq)
        clear r0 r1 r2 r3 r4 r5
        obtain ⟨r0, r1, r2, r3, r4, r5⟩ := HW.out.bx.cells6
        replace cc := bel_trans cc hq
        clear hq
        go_wp2
        go_ret
        exact ⟨rfl, cc⟩
      | true =>
        go_wp2_with fail
        refine (HC.out _).mono ?_
        rintro e w6 ⟨rfl, hq⟩
        replace HZ := hid (HZ.out.on hq)
        clear p0 p1 p2 p3 p4 p5
        obtain ⟨p0, p1, p2, p3, p4, p5⟩ := HZ.out.bx.cells6
        replace HX := hid (HX.out.on hq)
        clear q0 q1 q2 q3 q4 q5
        obtain ⟨q0, q1, q2, q3, q4, q5⟩ := HX.out.bx.cells6
        replace HW := hid (HW.out.on hq)
        clear r0 r1 r2 r3 r4 r5
        obtain ⟨r0, r1, r2, r3, r4, r5⟩ := HW.out.bx.cells6
        replace cc := bel_trans cc hq
        clear hq
        by_cases hcl : x = C
        · skip
          have e1 : (x == C) = true := eq_yes hcl
          clear HBs HWf HALL hcl
          go_wp2_with fail
          refine (c_soKnown R A1 A2 k1 k2 _ _ _ HX.out.ps HW.out.ps HX.out.le HW.out.le hl0).mono ?_
          rintro e w7 ⟨rfl, hq⟩
          replace HZ := hid (HZ.out.on hq)
          clear p0 p1 p2 p3 p4 p5
          obtain ⟨p0, p1, p2, p3, p4, p5⟩ := HZ.out.bx.cells6
          replace HX := hid (HX.out.on hq)
          clear q0 q1 q2 q3 q4 q5
          obtain ⟨q0, q1, q2, q3, q4, q5⟩ := HX.out.bx.cells6
          replace HW := hid (HW.out.on hq)
          clear r0 r1 r2 r3 r4 r5
          obtain ⟨r0, r1, r2, r3, r4, r5⟩ := HW.out.bx.cells6
          replace cc := bel_trans cc hq
          clear hq
          go_wp2
          go_ret
          exact ⟨rfl, cc⟩
        · skip
          have e1 : (x == C) = false := eq_no (by omega)
          obtain ⟨hk, hc, hR, hset, hRo, hRw, hC, ec, hG⟩ := HALL.out
          have hf : k.Fol x := hc.resolve_left (fun e => hcl (by rw [e, ec]))
          have hRa : R = k.after x := by rw [hR]; exact Kn.step_fol' hk hf
          have hg : k.grows = true := hG.symm
          have HT := hid (fun (L b : Nat) (v : World) (h : KB L b k A cp v) => c_soWord k A cp _ v h.ps h.le x hk hf HWf.out)
          have HL := hid (fun (L b : Nat) (v : World) (h : KB L b k A cp v) => c_soWord k A cp _ v h.ps h.le k.last hk (hk.last_fol hg) HWf.out)
          have HN := hid (fun (L b : Nat) (v : World) (h : KB L b k A cp v) => c_NextWord_yes k A cp _ v h.ps h.le hk HWf.out)
          have HRx := hid (fun (L b : Nat) (v : World) (h : KB L b R A1 k1 v) => c_soWord R A1 k1 _ v h.ps h.le x hRo (by rw [hRa]; exact hk.after_fol hg hf) hRw)
          have HRn := hid (fun (L b : Nat) (v : World) (h : KB L b R A1 k1 v) => c_soWord R A1 k1 _ v h.ps h.le k.next hRo (by rw [hRa]; exact hk.after_next_fol hg x) hRw)
          have hwx : R.any x = k.any x := by rw [hRa]; exact hk.after_any hg hf
          have hwn : R.any k.next = k.word k.last ++ (k.any x).take 1 := by rw [hRa]; exact hk.after_new hg hf
          have hne := hk.any_ne hf
          have hal := hk.any_len hf
          have hll := word_len _ _ hk.pairs _ (hk.lastW hg)
          have hkl := hk.len
          obtain ⟨W, hW⟩ : ∃ W, W = str (k.any x) := ⟨_, rfl⟩
          obtain ⟨LW, hLW⟩ : ∃ LW, LW = str (k.word k.last) := ⟨_, rfl⟩
          have hFn : str (R.any k.next) = LW ++ W.extract 0 1 := by rw [hwn, str_take _ 1 W hW, hLW, str_append]
          have hWe : W.toList.isEmpty = false := by
            rw [ByteArray.toList_eq, hW, str_list]
            cases hq : k.any x with
            | nil => exact absurd hq hne
            | cons a t => rfl
          have hWs : 1 ≤ W.size := by rw [hW, str_size]; exact List.length_pos_iff.2 hne
          have hWi : (1 : Int) ≤ (W.size : Int) := by omega
          have h3 : (W.extract 0 1).size ≤ 1 := by rw [str_take _ 1 W hW, str_size]; simp; omega
          have h2 : LW.size = (wd k.c k.ps k.last).length := by rw [hLW, str_size]; rfl
          have hsz : ¬ 9223372036854775807 < LW.size + (W.extract 0 1).size := by omega
          have ha1 : ∀ V, (Op.stringOp .add LW (W.extract 0 1)).run Try.prog V = .ok (.string (LW ++ W.extract 0 1)) V := fun V => run_string_add V _ _ (by omega) (by omega)
          have hxn : x = k.next → LW ++ W.extract 0 1 = W := fun e => by rw [← hFn, ← e, hwx, hW]
          rw [hwx] at HRx
          rw [hk.last_any hg] at HL
          rw [hFn] at HRn
          rw [← hW] at HT HRx
          rw [← hLW] at HL
          obtain ⟨NX, hNX⟩ : ∃ NX, NX = k.next := ⟨_, rfl⟩
          rw [← hNX] at HN HRn hxn
          have HXn := hid hxn
          have HWe := hid hWe
          clear HBs HWf HALL hk hc hR hset hRo hRw hC ec hG hcl hf hRa hg hwx hwn hne hal hll hW hLW hFn h2 h3 hxn hWe hNX
          go_wp2_with fail
          refine (HT.out _ _ _ HZ.out).mono ?_
          rintro e w7 ⟨rfl, hq⟩
          replace HZ := hid (HZ.out.on hq)
          clear p0 p1 p2 p3 p4 p5
          obtain ⟨p0, p1, p2, p3, p4, p5⟩ := HZ.out.bx.cells6
          replace HX := hid (HX.out.on hq)
          clear q0 q1 q2 q3 q4 q5
          obtain ⟨q0, q1, q2, q3, q4, q5⟩ := HX.out.bx.cells6
          replace cc := bel_trans cc hq
          clear hq
          have hS := HZ.out.cells12 HX.out
          go_wp2_with fail
          replace HZ := hid (HZ.out.on (bel_drew (Below.refl w7.heap.size w7)))
          replace HX := hid (HX.out.on (bel_drew (Below.refl w7.heap.size w7)))
          replace cc := bel_drew cc
          refine wp_region_noPanic ?_
          refine wp_region_held_drew (S := (fun v => v.cell? ⟨w1.heap.size, 0, none⟩ = some (.int .i64 k.o) ∧ v.cell? ⟨w1.heap.size, 1, none⟩ = some (.int .i64 k.l) ∧ v.cell? ⟨w1.heap.size, 2, none⟩ = some (.int .i64 k.m) ∧ v.cell? ⟨w1.heap.size, 3, none⟩ = some (.slice A k.ps.length cp) ∧ v.cell? ⟨w1.heap.size, 4, none⟩ = some (.int .i64 k.base) ∧ v.cell? ⟨w1.heap.size, 5, none⟩ = some (.int .i64 k.last) ∧ v.cell? ⟨w2.heap.size, 0, none⟩ = some (.int .i64 R.o) ∧ v.cell? ⟨w2.heap.size, 1, none⟩ = some (.int .i64 R.l) ∧ v.cell? ⟨w2.heap.size, 2, none⟩ = some (.int .i64 R.m) ∧ v.cell? ⟨w2.heap.size, 3, none⟩ = some (.slice A1 R.ps.length k1) ∧ v.cell? ⟨w2.heap.size, 4, none⟩ = some (.int .i64 R.base) ∧ v.cell? ⟨w2.heap.size, 5, none⟩ = some (.int .i64 R.last) ∧ True)) (by kernel_rfl) (t12_drew hS) (fun hHeld => ?_)
          refine tk 0 ?_
          refine tk 1 ?_
          refine wpAnyH_ready (rs := [2]) (by kernel_rfl) (by simp) ?_
          refine AllReadyH.cons (o := ?or1_2) ?ir1_2 (fun K hK => ?sr1_2) AllReadyH.nil
          case ir1_2 => (simp only [List.getElem?_toArray, List.getElem?_cons_succ, List.getElem?_cons_zero]; rfl)
          (go_simp; (go_at_call 37; refine (HN.out _ _ _ HZ.out).mono ?_; rintro e wQ ⟨rfl, hbQ⟩; replace HZ := hid (HZ.out.on hbQ); replace HX := hid (HX.out.on hbQ); replace cc := bel_trans cc hbQ; clear hbQ))
          refine hK.out _ _ ?kr1_2 (fun hHeld => ?_)
          case kr1_2 => (try dsimp only); (first | with_reducible assumption | with_reducible exact HZ.out.cells12 HX.out | exact t12_bel (by assumption) (by assumption) | assumption | exact t12_alloc (by assumption) _ | exact HZ.out.cells12 HX.out)
          clear hK K
          try simp only [Act.put, List.setIfInBounds_toArray, List.set_cons_zero, List.set_cons_succ]
          refine wpAnyH_ready (rs := [3]) (by kernel_rfl) (by simp) ?_
          refine AllReadyH.cons (o := ?or1_3) ?ir1_3 (fun K hK => ?sr1_3) AllReadyH.nil
          case ir1_3 => (simp only [List.getElem?_toArray, List.getElem?_cons_succ, List.getElem?_cons_zero]; rfl)
          (go_simp; (go_at_call 46; refine (HRn.out _ _ _ HX.out).mono ?_; rintro e wQ ⟨rfl, hbQ⟩; replace HZ := hid (HZ.out.on hbQ); replace HX := hid (HX.out.on hbQ); replace cc := bel_trans cc hbQ; clear hbQ))
          refine hK.out _ _ ?kr1_3 (fun hHeld => ?_)
          case kr1_3 => (try dsimp only); (first | with_reducible assumption | with_reducible exact HZ.out.cells12 HX.out | exact t12_bel (by assumption) (by assumption) | assumption | exact t12_alloc (by assumption) _ | exact HZ.out.cells12 HX.out)
          clear hK K
          try simp only [Act.put, List.setIfInBounds_toArray, List.set_cons_zero, List.set_cons_succ]
          refine tk 4 ?_
          refine wpAnyH_done (by kernel_rfl) ?_ _
          refine NoPanic.normal ?_
          clear hS hHeld
          have hWe := HWe.out
          by_cases hxx : x = NX
          · skip
            have hFW := HXn.out hxx
            have e2 : (x == NX) = true := eq_yes hxx
            have e3 : (x != NX) = false := by simp [hxx]
            clear hxx HXn
            have hS := HZ.out.cells12 HX.out
            go_wp2_with fail
            replace HZ := hid (HZ.out.on (bel_drew (Below.refl wQ.heap.size wQ)))
            replace HX := hid (HX.out.on (bel_drew (Below.refl wQ.heap.size wQ)))
            replace cc := bel_drew cc
            refine wp_region_noPanic ?_
            refine wp_region_held_drew (S := (fun v => v.cell? ⟨w1.heap.size, 0, none⟩ = some (.int .i64 k.o) ∧ v.cell? ⟨w1.heap.size, 1, none⟩ = some (.int .i64 k.l) ∧ v.cell? ⟨w1.heap.size, 2, none⟩ = some (.int .i64 k.m) ∧ v.cell? ⟨w1.heap.size, 3, none⟩ = some (.slice A k.ps.length cp) ∧ v.cell? ⟨w1.heap.size, 4, none⟩ = some (.int .i64 k.base) ∧ v.cell? ⟨w1.heap.size, 5, none⟩ = some (.int .i64 k.last) ∧ v.cell? ⟨w2.heap.size, 0, none⟩ = some (.int .i64 R.o) ∧ v.cell? ⟨w2.heap.size, 1, none⟩ = some (.int .i64 R.l) ∧ v.cell? ⟨w2.heap.size, 2, none⟩ = some (.int .i64 R.m) ∧ v.cell? ⟨w2.heap.size, 3, none⟩ = some (.slice A1 R.ps.length k1) ∧ v.cell? ⟨w2.heap.size, 4, none⟩ = some (.int .i64 R.base) ∧ v.cell? ⟨w2.heap.size, 5, none⟩ = some (.int .i64 R.last) ∧ True)) (by kernel_rfl) (t12_drew hS) (fun hHeld => ?_)
            refine tk 0 ?_
            refine tk 1 ?_
            refine tk 2 ?_
            refine tk 3 ?_
            refine tk 4 ?_
            refine tk 5 ?_
            refine tk 6 ?_
            refine tk 8 ?_
            refine tk 9 ?_
            refine wpAnyH_ready (rs := [7]) (by kernel_rfl) (by simp) ?_
            refine AllReadyH.cons (o := ?or2_7) ?ir2_7 (fun K hK => ?sr2_7) AllReadyH.nil
            case ir2_7 => (simp only [List.getElem?_toArray, List.getElem?_cons_succ, List.getElem?_cons_zero]; rfl)
            (go_simp; (go_at_call 46; refine (HL.out _ _ _ HZ.out).mono ?_; rintro e wQ ⟨rfl, hbQ⟩; replace HZ := hid (HZ.out.on hbQ); replace HX := hid (HX.out.on hbQ); replace cc := bel_trans cc hbQ; clear hbQ))
            refine hK.out _ _ ?kr2_7 (fun hHeld => ?_)
            case kr2_7 => (try dsimp only); (first | with_reducible assumption | with_reducible exact HZ.out.cells12 HX.out | exact t12_bel (by assumption) (by assumption) | assumption | exact t12_alloc (by assumption) _ | exact HZ.out.cells12 HX.out)
            clear hK K
            try simp only [Act.put, List.setIfInBounds_toArray, List.set_cons_zero, List.set_cons_succ]
            refine tk 10 ?_
            refine tk 11 ?_
            refine tk 12 ?_
            refine tk 13 ?_
            refine tk 14 ?_
            refine tk 15 ?_
            refine tk 17 ?_
            refine wpAnyH_ready (rs := [16]) (by kernel_rfl) (by simp) ?_
            refine AllReadyH.cons (o := ?or2_16) ?ir2_16 (fun K hK => ?sr2_16) AllReadyH.nil
            case ir2_16 => (simp only [List.getElem?_toArray, List.getElem?_cons_succ, List.getElem?_cons_zero]; rfl)
            (go_simp; (go_at_call 46; refine (HRx.out _ _ _ HX.out).mono ?_; rintro e wQ ⟨rfl, hbQ⟩; replace HZ := hid (HZ.out.on hbQ); replace HX := hid (HX.out.on hbQ); replace cc := bel_trans cc hbQ; clear hbQ))
            refine hK.out _ _ ?kr2_16 (fun hHeld => ?_)
            case kr2_16 => (try dsimp only); (first | with_reducible assumption | with_reducible exact HZ.out.cells12 HX.out | exact t12_bel (by assumption) (by assumption) | assumption | exact t12_alloc (by assumption) _ | exact HZ.out.cells12 HX.out)
            clear hK K
            try simp only [Act.put, List.setIfInBounds_toArray, List.set_cons_zero, List.set_cons_succ]
            refine tk 18 ?_
            refine tk 19 ?_
            refine tk 20 ?_
            refine tk 21 ?_
            refine tk 22 ?_
            refine wpAnyH_ready (rs := [23]) (by kernel_rfl) (by simp) ?_
            refine AllReadyH.cons (o := ?or2_23) ?ir2_23 (fun K hK => ?sr2_23) AllReadyH.nil
            case ir2_23 => (simp only [List.getElem?_toArray, List.getElem?_cons_succ, List.getElem?_cons_zero]; rfl)
            (go_simp; (go_at_call 37; refine (HN.out _ _ _ HZ.out).mono ?_; rintro e wQ ⟨rfl, hbQ⟩; replace HZ := hid (HZ.out.on hbQ); replace HX := hid (HX.out.on hbQ); replace cc := bel_trans cc hbQ; clear hbQ))
            refine hK.out _ _ ?kr2_23 (fun hHeld => ?_)
            case kr2_23 => (try dsimp only); (first | with_reducible assumption | with_reducible exact HZ.out.cells12 HX.out | exact t12_bel (by assumption) (by assumption) | assumption | exact t12_alloc (by assumption) _ | exact HZ.out.cells12 HX.out)
            clear hK K
            try simp only [Act.put, List.setIfInBounds_toArray, List.set_cons_zero, List.set_cons_succ]
            refine tk 24 ?_
            refine tk 25 ?_
            refine tk 26 ?_
            refine tk 27 ?_
            refine tk 28 ?_
            refine tk 29 ?_
            refine tk 30 ?_
            refine tk 31 ?_
            refine wpAnyH_done (by kernel_rfl) ?_ _
            refine NoPanic.normal ?_
            clear hS hHeld
            go_wp2
            go_ret
            exact ⟨rfl, cc⟩
          · skip
            have e2 : (x == NX) = false := eq_no (by omega)
            have e3 : (x != NX) = true := by simp [hxx]
            clear HXn
            have hS := HZ.out.cells12 HX.out
            go_wp2_with fail
            replace HZ := hid (HZ.out.on (bel_drew (Below.refl wQ.heap.size wQ)))
            replace HX := hid (HX.out.on (bel_drew (Below.refl wQ.heap.size wQ)))
            replace cc := bel_drew cc
            refine wp_region_noPanic ?_
            refine wp_region_held_drew (S := (fun v => v.cell? ⟨w1.heap.size, 0, none⟩ = some (.int .i64 k.o) ∧ v.cell? ⟨w1.heap.size, 1, none⟩ = some (.int .i64 k.l) ∧ v.cell? ⟨w1.heap.size, 2, none⟩ = some (.int .i64 k.m) ∧ v.cell? ⟨w1.heap.size, 3, none⟩ = some (.slice A k.ps.length cp) ∧ v.cell? ⟨w1.heap.size, 4, none⟩ = some (.int .i64 k.base) ∧ v.cell? ⟨w1.heap.size, 5, none⟩ = some (.int .i64 k.last) ∧ v.cell? ⟨w2.heap.size, 0, none⟩ = some (.int .i64 R.o) ∧ v.cell? ⟨w2.heap.size, 1, none⟩ = some (.int .i64 R.l) ∧ v.cell? ⟨w2.heap.size, 2, none⟩ = some (.int .i64 R.m) ∧ v.cell? ⟨w2.heap.size, 3, none⟩ = some (.slice A1 R.ps.length k1) ∧ v.cell? ⟨w2.heap.size, 4, none⟩ = some (.int .i64 R.base) ∧ v.cell? ⟨w2.heap.size, 5, none⟩ = some (.int .i64 R.last) ∧ True)) (by kernel_rfl) (t12_drew hS) (fun hHeld => ?_)
            refine tk 0 ?_
            refine tk 1 ?_
            refine tk 2 ?_
            refine tk 3 ?_
            refine tk 4 ?_
            refine tk 5 ?_
            refine tk 6 ?_
            refine tk 8 ?_
            refine tk 9 ?_
            refine wpAnyH_ready (rs := [7]) (by kernel_rfl) (by simp) ?_
            refine AllReadyH.cons (o := ?or3_7) ?ir3_7 (fun K hK => ?sr3_7) AllReadyH.nil
            case ir3_7 => (simp only [List.getElem?_toArray, List.getElem?_cons_succ, List.getElem?_cons_zero]; rfl)
            (go_simp; (go_at_call 46; refine (HL.out _ _ _ HZ.out).mono ?_; rintro e wQ ⟨rfl, hbQ⟩; replace HZ := hid (HZ.out.on hbQ); replace HX := hid (HX.out.on hbQ); replace cc := bel_trans cc hbQ; clear hbQ))
            refine hK.out _ _ ?kr3_7 (fun hHeld => ?_)
            case kr3_7 => (try dsimp only); (first | with_reducible assumption | with_reducible exact HZ.out.cells12 HX.out | exact t12_bel (by assumption) (by assumption) | assumption | exact t12_alloc (by assumption) _ | exact HZ.out.cells12 HX.out)
            clear hK K
            try simp only [Act.put, List.setIfInBounds_toArray, List.set_cons_zero, List.set_cons_succ]
            refine tk 10 ?_
            refine tk 11 ?_
            refine tk 12 ?_
            refine tk 13 ?_
            refine tk 14 ?_
            refine tk 15 ?_
            refine tk 17 ?_
            refine wpAnyH_ready (rs := [16]) (by kernel_rfl) (by simp) ?_
            refine AllReadyH.cons (o := ?or3_16) ?ir3_16 (fun K hK => ?sr3_16) AllReadyH.nil
            case ir3_16 => (simp only [List.getElem?_toArray, List.getElem?_cons_succ, List.getElem?_cons_zero]; rfl)
            (go_simp; (go_at_call 46; refine (HRx.out _ _ _ HX.out).mono ?_; rintro e wQ ⟨rfl, hbQ⟩; replace HZ := hid (HZ.out.on hbQ); replace HX := hid (HX.out.on hbQ); replace cc := bel_trans cc hbQ; clear hbQ))
            refine hK.out _ _ ?kr3_16 (fun hHeld => ?_)
            case kr3_16 => (try dsimp only); (first | with_reducible assumption | with_reducible exact HZ.out.cells12 HX.out | exact t12_bel (by assumption) (by assumption) | assumption | exact t12_alloc (by assumption) _ | exact HZ.out.cells12 HX.out)
            clear hK K
            try simp only [Act.put, List.setIfInBounds_toArray, List.set_cons_zero, List.set_cons_succ]
            refine tk 18 ?_
            refine tk 19 ?_
            refine tk 20 ?_
            refine tk 21 ?_
            refine tk 22 ?_
            refine wpAnyH_ready (rs := [23]) (by kernel_rfl) (by simp) ?_
            refine AllReadyH.cons (o := ?or3_23) ?ir3_23 (fun K hK => ?sr3_23) AllReadyH.nil
            case ir3_23 => (simp only [List.getElem?_toArray, List.getElem?_cons_succ, List.getElem?_cons_zero]; rfl)
            (go_simp; (go_at_call 37; refine (HN.out _ _ _ HZ.out).mono ?_; rintro e wQ ⟨rfl, hbQ⟩; replace HZ := hid (HZ.out.on hbQ); replace HX := hid (HX.out.on hbQ); replace cc := bel_trans cc hbQ; clear hbQ))
            refine hK.out _ _ ?kr3_23 (fun hHeld => ?_)
            case kr3_23 => (try dsimp only); (first | with_reducible assumption | with_reducible exact HZ.out.cells12 HX.out | exact t12_bel (by assumption) (by assumption) | assumption | exact t12_alloc (by assumption) _ | exact HZ.out.cells12 HX.out)
            clear hK K
            try simp only [Act.put, List.setIfInBounds_toArray, List.set_cons_zero, List.set_cons_succ]
            refine tk 24 ?_
            refine tk 25 ?_
            refine tu 26 ?_
            refine tu 27 ?_
            refine tu 28 ?_
            refine tk 29 ?_
            refine tk 30 ?_
            refine tk 31 ?_
            refine wpAnyH_done (by kernel_rfl) ?_ _
            refine NoPanic.normal ?_
            clear hS hHeld
            go_wp2
            go_ret
            exact ⟨rfl, cc⟩
end Go.Proofs.Ytoiifopjipfjhaa
