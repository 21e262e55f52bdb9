/- The walk of the law on After. -/
import Derived.Test.YtoiifopjipfjhaaVk
import Derived.Test.YtoiifopjipfjhaaDq
import Derived.Test.YtoiifopjipfjhaaWa
import Derived.Test.YtoiifopjipfjhaaSo
import Derived.Test.YtoiifopjipfjhaaFm
namespace Go.Proofs.Ytoiifopjipfjhaa
open Go.ChangeShapes Go.WideShapes Go.ChangeAt Go.RowKit Go.Joins
set_option linter.unusedVariables false

theorem Kn.step_fol' {k : Kn} (h : k.Ok) {code : Int} (hf : k.Fol code) : k.step code = k.after code := by
  have := (h.fol_iff code).1 hf
  simp [Kn.step, this.2.2.1]

set_option maxHeartbeats 4000000 in
set_option maxRecDepth 100000 in
theorem walk_FnAfter (A' : Option Addr) (n cap : Nat) (w : World) (hc : CodeAt w w.heap.size A' n cap) : Calls Try.prog 4 #[.slice A' n cap] w fun e w' => e = .returned (.bool true) ∧ Below w.heap.size w w' := by
  by_cases big : 1048576 < n
  · have h1 := hc.1
    have h2 := hc.2.1
    unfold maxLen at h2
    go_enter Try.func4, Try.ntmps4
    go_wp2_with fail
    go_ret
    exact ⟨rfl, by (repeat (first | with_reducible (first | assumption | exact Below.refl _ _ | refine bel_alloc ?_ _ | refine bel_drew ?_ | refine bel_drewN ?_ _ | refine bel_set ?_ (by first | omega | (simp; done) | (simp; omega)) _ | refine bel_trans ?_ (by assumption)) | assumption | refine bel_trans ?_ (by assumption)))⟩
  · go_enter Try.func4, Try.ntmps4
    go_wp2_with fail
    refine (c_DrawAfter _ _ _ _ hc).mono ?_
    rintro e w1 ⟨k, A, cp, x, rfl, hw, hl, hx, ho, b1⟩
    have HZ := hid (KB.new ho)
    have cc := bel_alloc b1 (.cells #[.int .i64 k.o, .int .i64 k.l, .int .i64 k.m, .slice A k.ps.length cp, .int .i64 k.base, .int .i64 k.last] 28)
    clear ho b1 hc
    obtain ⟨p0, p1, p2, p3, p4, p5⟩ := HZ.out.bx.cells6
    obtain ⟨R, b, hl0, hb, HS, HI⟩ : ∃ (R : Kn) (b : Bool), R.ps.length ≤ 1048576 ∧ (b = true → k.Ok ∧ (x = k.c ∨ k.Fol x) ∧ R = k.step x) ∧ (∀ (A : Option Addr) (cap L : Nat) (w : World), PsAt w L A cap k.ps → L ≤ w.heap.size → Calls Try.prog 44 #[.agg #[.int .i64 k.o, .int .i64 k.l, .int .i64 k.m, .slice A k.ps.length cap, .int .i64 k.base, .int .i64 k.last], .int .i64 x] w fun e w' => ∃ A' c', e = .returned (.tuple #[.agg #[.int .i64 R.o, .int .i64 R.l, .int .i64 R.m, .slice A' R.ps.length c', .int .i64 R.base, .int .i64 R.last], .bool b]) ∧ w'.ownsRow w.heap.size 41 2 (.slice A' R.ps.length c') R.ps.length (prs R.ps) ∧ Below w.heap.size w w') ∧ (∀ (A : Option Addr) (cap L : Nat) (w : World), PsAt w L A cap k.ps → L ≤ w.heap.size → Calls Try.prog 43 #[.agg #[.int .i64 k.o, .int .i64 k.l, .int .i64 k.m, .slice A k.ps.length cap, .int .i64 k.base, .int .i64 k.last], .int .i64 x] w fun e w' => ∃ A' c', e = .returned (.tuple #[.agg #[.int .i64 R.o, .int .i64 R.l, .int .i64 R.m, .slice A' R.ps.length c', .int .i64 R.base, .int .i64 R.last], .bool b]) ∧ w'.ownsRow w.heap.size 41 2 (.slice A' R.ps.length c') R.ps.length (prs R.ps) ∧ Below w.heap.size w w') := by
      by_cases hk : k.Ok
      · by_cases hc : x = k.c ∨ k.Fol x
        · refine ⟨k.step x, true, ?_, fun _ => ⟨hk, hc, rfl⟩, fun A cap L w h hL => After_yes_s k A cap L w h hL hk x hc hw, fun A cap L w h hL => After_yes_i k A cap L w h hL hk x hc hw⟩
          have := (hk.step hc).len
          omega
        · have h1 : x ≠ k.c := fun e => hc (.inl e)
          have h2 : ¬ k.Fol x := fun e => hc (.inr e)
          exact ⟨⟨0, 0, 0, [], 0, 0⟩, false, by simp, (fun h => nomatch h), fun A cap L w h hL => (c_sAfter_no k A cap L w h hL x hk h1 h2 hw).mono fun e w' ⟨q1, q2⟩ => ⟨none, 0, q1, own_ps_nil _ _ _, q2⟩, fun A cap L w h hL => (c_After_no k A cap L w h hL x hk h1 h2 hw).mono fun e w' ⟨q1, q2⟩ => ⟨none, 0, q1, own_ps_nil _ _ _, q2⟩⟩
      · exact ⟨⟨0, 0, 0, [], 0, 0⟩, false, by simp, (fun h => nomatch h), fun A cap L w h hL => (c_sAfter_bad k A cap L w h hL x hk hw).mono fun e w' ⟨q1, q2⟩ => ⟨none, 0, q1, own_ps_nil _ _ _, q2⟩, fun A cap L w h hL => (c_After_bad k A cap L w h hL x hk hw).mono fun e w' ⟨q1, q2⟩ => ⟨none, 0, q1, own_ps_nil _ _ _, q2⟩⟩
    replace HS := hid HS
    replace HI := hid HI
    have HBs := hid hb
    have HWf := hid hw
    clear hb hw
    go_wp2_with fail
    refine (HI.out _ _ _ _ HZ.out.ps HZ.out.le).mono ?_
    rintro e w2 ⟨A1, k1, rfl, ho, hq⟩
    replace HZ := hid ((HZ.out.on hq).on (bel_alloc (Below.refl _ _) (.cells #[.int .i64 R.o, .int .i64 R.l, .int .i64 R.m, .slice A1 R.ps.length k1, .int .i64 R.base, .int .i64 R.last] 28)))
    clear p0 p1 p2 p3 p4 p5
    obtain ⟨p0, p1, p2, p3, p4, p5⟩ := HZ.out.bx.cells6
    have HX := hid (KB.new (k := R) ho)
    obtain ⟨q0, q1, q2, q3, q4, q5⟩ := HX.out.bx.cells6
    replace cc := bel_alloc (bel_trans cc hq) (.cells #[.int .i64 R.o, .int .i64 R.l, .int .i64 R.m, .slice A1 R.ps.length k1, .int .i64 R.base, .int .i64 R.last] 28)
    clear ho hq
    go_wp2_with fail
    refine (HS.out _ _ _ _ HZ.out.ps HZ.out.le).mono ?_
    rintro e w3 ⟨A2, k2, rfl, ho, hq⟩
    replace HZ := hid ((HZ.out.on hq).on (bel_alloc (Below.refl _ _) (.cells #[.int .i64 R.o, .int .i64 R.l, .int .i64 R.m, .slice A2 R.ps.length k2, .int .i64 R.base, .int .i64 R.last] 28)))
    clear p0 p1 p2 p3 p4 p5
    obtain ⟨p0, p1, p2, p3, p4, p5⟩ := HZ.out.bx.cells6
    replace HX := hid ((HX.out.on hq).on (bel_alloc (Below.refl _ _) (.cells #[.int .i64 R.o, .int .i64 R.l, .int .i64 R.m, .slice A2 R.ps.length k2, .int .i64 R.base, .int .i64 R.last] 28)))
    clear q0 q1 q2 q3 q4 q5
    obtain ⟨q0, q1, q2, q3, q4, q5⟩ := HX.out.bx.cells6
    have HW := hid (KB.new (k := R) ho)
    obtain ⟨r0, r1, r2, r3, r4, r5⟩ := HW.out.bx.cells6
    replace cc := bel_alloc (bel_trans cc hq) (.cells #[.int .i64 R.o, .int .i64 R.l, .int .i64 R.m, .slice A2 R.ps.length k2, .int .i64 R.base, .int .i64 R.last] 28)
    clear ho hq
    go_wp2_with fail
    refine (c_soKnown R A1 A2 k1 k2 _ _ _ HX.out.ps HW.out.ps HX.out.le HW.out.le hl0).mono ?_
    rintro e w4 ⟨rfl, hq⟩
    replace HZ := hid (HZ.out.on hq)
    clear p0 p1 p2 p3 p4 p5
    obtain ⟨p0, p1, p2, p3, p4, p5⟩ := HZ.out.bx.cells6
    replace HX := hid (HX.out.on hq)
    clear q0 q1 q2 q3 q4 q5
    obtain ⟨q0, q1, q2, q3, q4, q5⟩ := HX.out.bx.cells6
    replace HW := hid (HW.out.on hq)
    clear r0 r1 r2 r3 r4 r5
    obtain ⟨r0, r1, r2, r3, r4, r5⟩ := HW.out.bx.cells6
    replace cc := bel_trans cc hq
    clear hq
    clear HS HI
    cases b with
    | false =>
      clear HBs HWf
      go_wp2_with fail
      refine (c_soKnown R A1 A2 k1 k2 _ _ _ HX.out.ps HW.out.ps HX.out.le HW.out.le hl0).mono ?_
      rintro e w5 ⟨rfl, hq⟩
      replace HZ := hid (HZ.out.on hq)
      clear p0 p1 p2 p3 p4 p5
      obtain ⟨p0, p1, p2, p3, p4, p5⟩ := HZ.out.bx.cells6
      replace HX := hid (HX.out.on hq)
      clear q0 q1 q2 q3 q4 q5
      obtain ⟨q0, q1, q2, q3, q4, q5⟩ := HX.out.bx.cells6
      replace HW := hid (HW.out.on hq)
      clear r0 r1 r2 r3 r4 r5
      obtain ⟨r0, r1, r2, r3, r4, r5⟩ := HW.out.bx.cells6
      replace cc := bel_trans cc hq
      clear hq
      go_wp2
      go_ret
      exact ⟨rfl, cc⟩
    | true =>
      obtain ⟨hk, hc, hR⟩ := HBs.out rfl
      have hset := hk.set
      have hRo : R.Ok := hR ▸ hk.step hc
      have hRw := hRo.wf
      have HC := hid (fun (v : World) => c_ClearCode_yes k.o k.l k.m v hset)
      have HG := hid (fun (L b : Nat) (v : World) (h : KB L b k A cp v) => c_Grows_yes k A cp _ v h.ps h.le hk HWf.out)
      have HGx := hid (fun (L b : Nat) (v : World) (h : KB L b R A1 k1 v) => c_Grows_yes R A1 k1 _ v h.ps h.le hRo hRw)
      have HVx := hid (fun (L b : Nat) (v : World) (h : KB L b R A1 k1 v) => c_KnownValid_yes R A1 k1 _ v h.ps h.le hRo hRw)
      obtain ⟨C, hC⟩ : ∃ C, C = pow2 k.l := ⟨_, rfl⟩
      rw [← hC] at HC
      have ec : k.c = C := hC.symm
      by_cases hcl : x = C
      · skip
        have e1 : (x == C) = true := eq_yes hcl
        have hRc : R = k.cleared := by rw [hR, hcl, ← ec]; simp [Kn.step]
        have hRR : R.step x = R := by rw [hRc, hcl, ← ec]; have : k.cleared.step k.cleared.c = k.cleared.cleared := by simp [Kn.step]
                                      exact this.trans (Kn.cleared_cleared k hk)
        have HA := hid (fun (L b : Nat) (v : World) (h : KB L b R A1 k1 v) => After_yes_i R A1 k1 _ v h.ps h.le hRo x (.inl (by rw [hRc, hcl, ← ec]; rfl)) hRw)
        have hg0 : R.grows = false := by rw [hRc]; exact Kn.cleared_no k
        have hlb : ((R.ps.length : Int) == k.base) = true := eq_yes (by rw [hRc]; exact Kn.cleared_len hk)
        have hla : (R.last == -1) = true := eq_yes (by rw [hRc]; rfl)
        have HSy := hid (fun (A3 : Option Addr) (k3 L2 L3 : Nat) (v : World) (h3 : PsAt v L3 A3 k3 R.ps) (hL3 : L3 ≤ v.heap.size) (h : PsAt v L2 A1 k1 R.ps) (hL : L2 ≤ v.heap.size) => c_soKnown R A3 A1 k3 k1 _ _ v h3 h hL3 hL hl0)
        rw [hRR] at HA
        rw [hg0] at HGx
        clear hRc hRR hR hRo hRw hc hk ec hC hcl hg0 hset HBs HWf HG
        go_wp2_with fail
        refine (HC.out _).mono ?_
        rintro e w5 ⟨rfl, hq⟩
        replace HZ := hid (HZ.out.on hq)
        clear p0 p1 p2 p3 p4 p5
        obtain ⟨p0, p1, p2, p3, p4, p5⟩ := HZ.out.bx.cells6
        replace HX := hid (HX.out.on hq)
        clear q0 q1 q2 q3 q4 q5
        obtain ⟨q0, q1, q2, q3, q4, q5⟩ := HX.out.bx.cells6
        replace HW := hid (HW.out.on hq)
        clear r0 r1 r2 r3 r4 r5
        obtain ⟨r0, r1, r2, r3, r4, r5⟩ := HW.out.bx.cells6
        replace cc := bel_trans cc hq
        clear hq
        go_wp2_with fail
        refine (HA.out _ _ _ HX.out).mono ?_
        rintro e w6 ⟨A3, k3, rfl, ho, hq⟩
        replace HZ := hid ((HZ.out.on hq).on (bel_alloc (Below.refl _ _) (.cells #[.int .i64 R.o, .int .i64 R.l, .int .i64 R.m, .slice A3 R.ps.length k3, .int .i64 R.base, .int .i64 R.last] 28)))
        clear p0 p1 p2 p3 p4 p5
        obtain ⟨p0, p1, p2, p3, p4, p5⟩ := HZ.out.bx.cells6
        replace HX := hid ((HX.out.on hq).on (bel_alloc (Below.refl _ _) (.cells #[.int .i64 R.o, .int .i64 R.l, .int .i64 R.m, .slice A3 R.ps.length k3, .int .i64 R.base, .int .i64 R.last] 28)))
        clear q0 q1 q2 q3 q4 q5
        obtain ⟨q0, q1, q2, q3, q4, q5⟩ := HX.out.bx.cells6
        replace HW := hid ((HW.out.on hq).on (bel_alloc (Below.refl _ _) (.cells #[.int .i64 R.o, .int .i64 R.l, .int .i64 R.m, .slice A3 R.ps.length k3, .int .i64 R.base, .int .i64 R.last] 28)))
        clear r0 r1 r2 r3 r4 r5
        obtain ⟨r0, r1, r2, r3, r4, r5⟩ := HW.out.bx.cells6
        have HY := hid (KB.new (k := R) ho)
        obtain ⟨s0, s1, s2, s3, s4, s5⟩ := HY.out.bx.cells6
        replace cc := bel_alloc (bel_trans cc hq) (.cells #[.int .i64 R.o, .int .i64 R.l, .int .i64 R.m, .slice A3 R.ps.length k3, .int .i64 R.base, .int .i64 R.last] 28)
        clear ho hq
        go_wp2_with fail
        refine (HVx.out _ _ _ HX.out).mono ?_
        rintro e w7 ⟨rfl, hq⟩
        replace HZ := hid (HZ.out.on hq)
        clear p0 p1 p2 p3 p4 p5
        obtain ⟨p0, p1, p2, p3, p4, p5⟩ := HZ.out.bx.cells6
        replace HX := hid (HX.out.on hq)
        clear q0 q1 q2 q3 q4 q5
        obtain ⟨q0, q1, q2, q3, q4, q5⟩ := HX.out.bx.cells6
        replace HW := hid (HW.out.on hq)
        clear r0 r1 r2 r3 r4 r5
        obtain ⟨r0, r1, r2, r3, r4, r5⟩ := HW.out.bx.cells6
        replace HY := hid (HY.out.on hq)
        clear s0 s1 s2 s3 s4 s5
        obtain ⟨s0, s1, s2, s3, s4, s5⟩ := HY.out.bx.cells6
        replace cc := bel_trans cc hq
        clear hq
        go_wp2_with fail
        refine (HGx.out _ _ _ HX.out).mono ?_
        rintro e w8 ⟨rfl, hq⟩
        replace HZ := hid (HZ.out.on hq)
        clear p0 p1 p2 p3 p4 p5
        obtain ⟨p0, p1, p2, p3, p4, p5⟩ := HZ.out.bx.cells6
        replace HX := hid (HX.out.on hq)
        clear q0 q1 q2 q3 q4 q5
        obtain ⟨q0, q1, q2, q3, q4, q5⟩ := HX.out.bx.cells6
        replace HW := hid (HW.out.on hq)
        clear r0 r1 r2 r3 r4 r5
        obtain ⟨r0, r1, r2, r3, r4, r5⟩ := HW.out.bx.cells6
        replace HY := hid (HY.out.on hq)
        clear s0 s1 s2 s3 s4 s5
        obtain ⟨s0, s1, s2, s3, s4, s5⟩ := HY.out.bx.cells6
        replace cc := bel_trans cc hq
        clear hq
        go_wp2_with fail
        refine (HSy.out A3 k3 _ _ _ HY.out.ps HY.out.le HX.out.ps HX.out.le).mono ?_
        rintro e w9 ⟨rfl, hq⟩
        replace HZ := hid (HZ.out.on hq)
        clear p0 p1 p2 p3 p4 p5
        obtain ⟨p0, p1, p2, p3, p4, p5⟩ := HZ.out.bx.cells6
        replace HX := hid (HX.out.on hq)
        clear q0 q1 q2 q3 q4 q5
        obtain ⟨q0, q1, q2, q3, q4, q5⟩ := HX.out.bx.cells6
        replace HW := hid (HW.out.on hq)
        clear r0 r1 r2 r3 r4 r5
        obtain ⟨r0, r1, r2, r3, r4, r5⟩ := HW.out.bx.cells6
        replace HY := hid (HY.out.on hq)
        clear s0 s1 s2 s3 s4 s5
        obtain ⟨s0, s1, s2, s3, s4, s5⟩ := HY.out.bx.cells6
        replace cc := bel_trans cc hq
        clear hq
        go_wp2
        go_ret
        exact ⟨rfl, cc⟩
      · skip
        have e1 : (x == C) = false := eq_no (by omega)
        have hf : k.Fol x := hc.resolve_left (fun e => hcl (by rw [e, ec]))
        have hRa : R = k.after x := by rw [hR]; exact Kn.step_fol' hk hf
        have hpre : ∀ (i : Nat) (p : Pr), k.ps[i]? = some p → R.ps[i]? = some p := by rw [hRa]; exact fun i p h => Kn.after_get k x h
        have hll : (R.last == x) = true := eq_yes (by rw [hRa]; rfl)
        have hlb : (R.base == k.base) = true := eq_yes (by rw [hRa]; rfl)
        have hlen : R.ps.length = k.ps.length + (if k.grows = true then 1 else 0) := by rw [hRa]; exact Kn.after_len k x
        have HPre := hid hpre
        have hkl := hk.len
        obtain ⟨G, hG⟩ : ∃ G, G = k.grows := ⟨_, rfl⟩
        simp only [← hG] at HG hlen
        have HLen := hid hlen
        clear hRa hR hRo hRw hc hk ec hC hcl hset HBs HWf hpre hf hG hlen
        go_wp2_with fail
        refine (HC.out _).mono ?_
        rintro e w5 ⟨rfl, hq⟩
        replace HZ := hid (HZ.out.on hq)
        clear p0 p1 p2 p3 p4 p5
        obtain ⟨p0, p1, p2, p3, p4, p5⟩ := HZ.out.bx.cells6
        replace HX := hid (HX.out.on hq)
        clear q0 q1 q2 q3 q4 q5
        obtain ⟨q0, q1, q2, q3, q4, q5⟩ := HX.out.bx.cells6
        replace HW := hid (HW.out.on hq)
        clear r0 r1 r2 r3 r4 r5
        obtain ⟨r0, r1, r2, r3, r4, r5⟩ := HW.out.bx.cells6
        replace cc := bel_trans cc hq
        clear hq
        cases G with
        | true =>
          have hm : (R.ps.length : Int) - (k.ps.length : Int) = 1 := by have := HLen.out; simp at this; omega
          have hRl : R.ps.length ≤ 1048576 := hl0
          go_wp2_with fail
          go_loopw [12] (fun i wr => ∃ n : Nat, n ≤ k.ps.length ∧ i = .int .i64 n ∧ KB w1.heap.size w1.heap.size k A cp wr ∧ KB w2.heap.size w2.heap.size R A1 k1 wr ∧ Below w.heap.size w wr) (fun i _ => k.ps.length - (intOf i).toNat)
          case atStart => exact ⟨0, Nat.zero_le _, rfl, HZ.out, HX.out, cc⟩
          case round =>
            obtain ⟨n, hn2, rfl, kZ, kX, hbl⟩ := hrel
            clear HZ HX HW p0 p1 p2 p3 p4 p5 q0 q1 q2 q3 q4 q5 r0 r1 r2 r3 r4 r5 cc
            have HZ := hid kZ
            have HX := hid kX
            have cc := hbl
            clear kZ kX hbl
            obtain ⟨p0, p1, p2, p3, p4, p5⟩ := HZ.out.bx.cells6
            obtain ⟨q0, q1, q2, q3, q4, q5⟩ := HX.out.bx.cells6
            by_cases hlt : n < k.ps.length
            · have hRn : n < R.ps.length := by have := HLen.out; omega
              obtain ⟨b1, off1, rfl, _, u0, u1⟩ := pair_at HZ.out.ps n hlt
              obtain ⟨b2, off2, rfl, _, d0, d1⟩ := pair_at HX.out.ps n hRn
              have hsame : R.ps[n] = k.ps[n] := by
                have := HPre.out n k.ps[n] (List.getElem?_eq_getElem hlt)
                rw [List.getElem?_eq_getElem hRn] at this
                exact Option.some.inj this
              rw [hsame] at d0 d1
              obtain ⟨pp, hpp⟩ : ∃ pp, pp = k.ps[n] := ⟨_, rfl⟩
              rw [← hpp] at u0 u1 d0 d1
              clear hpp hsame hm
              go_wp2_with fail
              go_quiet (fail)
              go_wp2
              go_roundw
              case rel => exact ⟨n + 1, by omega, by go_num, HZ.out.on (bel_drewN (Below.refl _ _) _), HX.out.on (bel_drewN (Below.refl _ _) _), by (repeat (first | with_reducible (first | assumption | exact Below.refl _ _ | refine bel_alloc ?_ _ | refine bel_drew ?_ | refine bel_drewN ?_ _ | refine bel_set ?_ (by first | omega | (simp; done) | (simp; omega)) _ | refine bel_trans ?_ (by assumption)) | assumption | refine bel_trans ?_ (by assumption)))⟩
              case measure => simp [intOf]; omega
            · skip
              go_wp2_with fail
              refine (HVx.out _ _ _ HX.out).mono ?_
              rintro e w7 ⟨rfl, hq⟩
              replace HZ := hid (HZ.out.on hq)
              clear p0 p1 p2 p3 p4 p5
              obtain ⟨p0, p1, p2, p3, p4, p5⟩ := HZ.out.bx.cells6
              replace HX := hid (HX.out.on hq)
              clear q0 q1 q2 q3 q4 q5
              obtain ⟨q0, q1, q2, q3, q4, q5⟩ := HX.out.bx.cells6
              replace cc := bel_trans cc hq
              clear hq
              go_wp2_with fail
              refine (HG.out _ _ _ HZ.out).mono ?_
              rintro e w8 ⟨rfl, hq⟩
              replace HZ := hid (HZ.out.on hq)
              clear p0 p1 p2 p3 p4 p5
              obtain ⟨p0, p1, p2, p3, p4, p5⟩ := HZ.out.bx.cells6
              replace HX := hid (HX.out.on hq)
              clear q0 q1 q2 q3 q4 q5
              obtain ⟨q0, q1, q2, q3, q4, q5⟩ := HX.out.bx.cells6
              replace cc := bel_trans cc hq
              clear hq
              go_wp2_with fail
              refine (HG.out _ _ _ HZ.out).mono ?_
              rintro e w9 ⟨rfl, hq⟩
              replace HZ := hid (HZ.out.on hq)
              clear p0 p1 p2 p3 p4 p5
              obtain ⟨p0, p1, p2, p3, p4, p5⟩ := HZ.out.bx.cells6
              replace HX := hid (HX.out.on hq)
              clear q0 q1 q2 q3 q4 q5
              obtain ⟨q0, q1, q2, q3, q4, q5⟩ := HX.out.bx.cells6
              replace cc := bel_trans cc hq
              clear hq
              go_wp2
              go_ret
              exact ⟨rfl, cc⟩
        | false =>
          have hm : (R.ps.length : Int) - (k.ps.length : Int) = 0 := by have := HLen.out; simp at this; omega
          have hRl : R.ps.length ≤ 1048576 := hl0
          go_wp2_with fail
          go_loopw [12] (fun i wr => ∃ n : Nat, n ≤ k.ps.length ∧ i = .int .i64 n ∧ KB w1.heap.size w1.heap.size k A cp wr ∧ KB w2.heap.size w2.heap.size R A1 k1 wr ∧ Below w.heap.size w wr) (fun i _ => k.ps.length - (intOf i).toNat)
          case atStart => exact ⟨0, Nat.zero_le _, rfl, HZ.out, HX.out, cc⟩
          case round =>
            obtain ⟨n, hn2, rfl, kZ, kX, hbl⟩ := hrel
            clear HZ HX HW p0 p1 p2 p3 p4 p5 q0 q1 q2 q3 q4 q5 r0 r1 r2 r3 r4 r5 cc
            have HZ := hid kZ
            have HX := hid kX
            have cc := hbl
            clear kZ kX hbl
            obtain ⟨p0, p1, p2, p3, p4, p5⟩ := HZ.out.bx.cells6
            obtain ⟨q0, q1, q2, q3, q4, q5⟩ := HX.out.bx.cells6
            by_cases hlt : n < k.ps.length
            · have hRn : n < R.ps.length := by have := HLen.out; omega
              obtain ⟨b1, off1, rfl, _, u0, u1⟩ := pair_at HZ.out.ps n hlt
              obtain ⟨b2, off2, rfl, _, d0, d1⟩ := pair_at HX.out.ps n hRn
              have hsame : R.ps[n] = k.ps[n] := by
                have := HPre.out n k.ps[n] (List.getElem?_eq_getElem hlt)
                rw [List.getElem?_eq_getElem hRn] at this
                exact Option.some.inj this
              rw [hsame] at d0 d1
              obtain ⟨pp, hpp⟩ : ∃ pp, pp = k.ps[n] := ⟨_, rfl⟩
              rw [← hpp] at u0 u1 d0 d1
              clear hpp hsame hm
              go_wp2_with fail
              go_quiet (fail)
              go_wp2
              go_roundw
              case rel => exact ⟨n + 1, by omega, by go_num, HZ.out.on (bel_drewN (Below.refl _ _) _), HX.out.on (bel_drewN (Below.refl _ _) _), by (repeat (first | with_reducible (first | assumption | exact Below.refl _ _ | refine bel_alloc ?_ _ | refine bel_drew ?_ | refine bel_drewN ?_ _ | refine bel_set ?_ (by first | omega | (simp; done) | (simp; omega)) _ | refine bel_trans ?_ (by assumption)) | assumption | refine bel_trans ?_ (by assumption)))⟩
              case measure => simp [intOf]; omega
            · skip
              go_wp2_with fail
              refine (HVx.out _ _ _ HX.out).mono ?_
              rintro e w7 ⟨rfl, hq⟩
              replace HZ := hid (HZ.out.on hq)
              clear p0 p1 p2 p3 p4 p5
              obtain ⟨p0, p1, p2, p3, p4, p5⟩ := HZ.out.bx.cells6
              replace HX := hid (HX.out.on hq)
              clear q0 q1 q2 q3 q4 q5
              obtain ⟨q0, q1, q2, q3, q4, q5⟩ := HX.out.bx.cells6
              replace cc := bel_trans cc hq
              clear hq
              go_wp2_with fail
              refine (HG.out _ _ _ HZ.out).mono ?_
              rintro e w8 ⟨rfl, hq⟩
              replace HZ := hid (HZ.out.on hq)
              clear p0 p1 p2 p3 p4 p5
              obtain ⟨p0, p1, p2, p3, p4, p5⟩ := HZ.out.bx.cells6
              replace HX := hid (HX.out.on hq)
              clear q0 q1 q2 q3 q4 q5
              obtain ⟨q0, q1, q2, q3, q4, q5⟩ := HX.out.bx.cells6
              replace cc := bel_trans cc hq
              clear hq
              go_wp2_with fail
              refine (HG.out _ _ _ HZ.out).mono ?_
              rintro e w9 ⟨rfl, hq⟩
              replace HZ := hid (HZ.out.on hq)
              clear p0 p1 p2 p3 p4 p5
              obtain ⟨p0, p1, p2, p3, p4, p5⟩ := HZ.out.bx.cells6
              replace HX := hid (HX.out.on hq)
              clear q0 q1 q2 q3 q4 q5
              obtain ⟨q0, q1, q2, q3, q4, q5⟩ := HX.out.bx.cells6
              replace cc := bel_trans cc hq
              clear hq
              go_wp2
              go_ret
              exact ⟨rfl, cc⟩
end Go.Proofs.Ytoiifopjipfjhaa
