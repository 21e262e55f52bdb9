/- The contract of the model's own drawing of what is known after some codes. -/
import Derived.Test.YtophlgnmfhoeiaaDk
import Derived.Test.YtophlgnmfhoeiaaFm
import Derived.Test.YtophlgnmfhoeiaaBi
import Derived.Test.YtophlgnmfhoeiaaAa
import Derived.Test.YtophlgnmfhoeiaaBh
namespace Go.Proofs.Ytophlgnmfhoeiaa
open Go.ChangeShapes Go.WideShapes Go.ChangeAt Go.RowKit Go.Joins
set_option linter.unusedVariables false

def DrawOut (w : World) (L B q : Nat) (e : Ending) (w' : World) : Prop := ∃ (k : Kn) (A : Option Addr) (cap : Nat), e = .returned (.agg #[.int .i64 k.o, .int .i64 k.l, .int .i64 k.m, .slice A k.ps.length cap, .int .i64 k.base, .int .i64 k.last]) ∧ k.Ok ∧ k.ps.length ≤ 14 ∧ w'.ownsRow w.heap.size 139 2 (.slice A k.ps.length cap) k.ps.length (prs k.ps) ∧ Rd 131 w' L B (q + 200) ∧ w.grownBy w' (some B)
/-- the drawing under way: k in box b -/
structure DrawAt (w : World) (L B q b : Nat) (k : Kn) (A : Option Addr) (cap : Nat) (wr : World) : Prop where
  ok : k.Ok
  bx : Blk wr b 32 #[.int .i64 k.o, .int .i64 k.l, .int .i64 k.m, .slice A k.ps.length cap, .int .i64 k.base, .int .i64 k.last]
  rx : Blk wr w.heap.size 32 #[.int .i64 0, .int .i64 0, .int .i64 0, .slice none 0 0, .int .i64 0, .int .i64 0]
  row : wr.ownsRow w.heap.size 139 2 (.slice A k.ps.length cap) k.ps.length (prs k.ps)
  rd : Rd 131 wr L B q
  gr : w.grownBy wr (some B)
  lt : w.heap.size < b
theorem DrawAt.on {w : World} {L B q b : Nat} {k : Kn} {A : Option Addr} {cap : Nat} {wr w' : World} (h : DrawAt w L B q b k A cap wr) (hb : Below wr.heap.size wr w') : DrawAt w L B q b k A cap w' :=
  ⟨h.ok, h.bx.on hb, h.rx.on hb, own_on h.row hb, h.rd.near hb, grown_trans h.gr (grown_below _ hb), h.lt⟩
theorem DrawAt.drew {w : World} {L B q b : Nat} {k : Kn} {A : Option Addr} {cap : Nat} {wr : World} (h : DrawAt w L B q b k A cap wr) : DrawAt w L B q b k A cap wr.drew := h.on (bel_drew (Below.refl _ _))
theorem own_grown1 {w w' : World} {B B0 : Nat} {e : TypeId} {size n : Nat} {v : Value} {xs : List Value} (h : w.ownsRow B0 e size v n xs) (hg : w.grownBy w' (some B)) (hB : B < B0) : w'.ownsRow B0 e size v n xs :=
  h.kept hg (by
    cases hv : v.ownBlock with
    | none => exact .inl rfl
    | some g => exact .inr (fun e => by simp at e; have := (h.lt g hv).1; omega))
theorem DrawAt.pick {w : World} {L B q q' b : Nat} {k : Kn} {A : Option Addr} {cap : Nat} {wr w' : World} (h : DrawAt w L B q b k A cap wr) (hB : B < w.heap.size) (hr : Rd 131 w' L B q') (hg : wr.grownBy w' (some B)) : DrawAt w L B q' b k A cap w' :=
  ⟨h.ok, h.bx.grown hg (by have := h.lt; simp; omega), h.rx.grown hg (by simp; omega), own_grown1 h.row hg hB, hr, grown_trans h.gr hg, h.lt⟩
theorem DrawAt.more {w : World} {L B q q' b : Nat} {k : Kn} {A : Option Addr} {cap : Nat} {wr : World} (h : DrawAt w L B q b k A cap wr) (hq : q ≤ q') : DrawAt w L B q' b k A cap wr := ⟨h.ok, h.bx, h.rx, h.row, h.rd.more hq, h.gr, h.lt⟩
theorem Rd.set_ {T : TypeId} {w : World} {L B q b : Nat} (h : Rd T w L B q) (hb : B < b) (i : Nat) (a : Value) : Rd T (w.setCell ⟨b, i, none⟩ a) L B q := h.grown (grown_set (grown_refl w (some b)) i a) (fun g hg => by simp at hg; omega)
theorem Rd.put6 {T : TypeId} {w : World} {L B q b : Nat} (h : Rd T w L B q) (hb : B < b) (a0 a1 a2 a3 a4 a5 : Value) : Rd T ((((((w.setCell ⟨b, 0, none⟩ a0).setCell ⟨b, 1, none⟩ a1).setCell ⟨b, 2, none⟩ a2).setCell ⟨b, 3, none⟩ a3).setCell ⟨b, 4, none⟩ a4).setCell ⟨b, 5, none⟩ a5) L B q :=
  (((((h.set_ hb 0 a0).set_ hb 1 a1).set_ hb 2 a2).set_ hb 3 a3).set_ hb 4 a4).set_ hb 5 a5
theorem grown_far {w wr : World} {B b : Nat} (h : w.grownBy wr (some B)) (hb : w.heap.size ≤ b) (i : Nat) (a : Value) : w.grownBy (wr.setCell ⟨b, i, none⟩ a) (some B) :=
  grown_own h (grown_set (grown_refl wr (some b)) i a) (fun g hg => by simp at hg; omega)
theorem grown_far6 {w wr : World} {B b : Nat} (h : w.grownBy wr (some B)) (hb : w.heap.size ≤ b) (a0 a1 a2 a3 a4 a5 : Value) : w.grownBy ((((((wr.setCell ⟨b, 0, none⟩ a0).setCell ⟨b, 1, none⟩ a1).setCell ⟨b, 2, none⟩ a2).setCell ⟨b, 3, none⟩ a3).setCell ⟨b, 4, none⟩ a4).setCell ⟨b, 5, none⟩ a5) (some B) :=
  grown_far (grown_far (grown_far (grown_far (grown_far (grown_far h hb 0 a0) hb 1 a1) hb 2 a2) hb 3 a3) hb 4 a4) hb 5 a5
/-- a new value in the box -/
theorem DrawAt.put {w : World} {L B q b B' : Nat} {k k2 : Kn} {A A2 : Option Addr} {cap cap2 : Nat} {wr : World} (h : DrawAt w L B q b k A cap wr) (hB : B < w.heap.size) (hk : k2.Ok) (ho : wr.ownsRow B' 139 2 (.slice A2 k2.ps.length cap2) k2.ps.length (prs k2.ps)) (hB' : w.heap.size ≤ B') :
    DrawAt w L B q b k2 A2 cap2 ((((((wr.setCell ⟨b, 0, none⟩ (.int .i64 k2.o)).setCell ⟨b, 1, none⟩ (.int .i64 k2.l)).setCell ⟨b, 2, none⟩ (.int .i64 k2.m)).setCell ⟨b, 3, none⟩ (.slice A2 k2.ps.length cap2)).setCell ⟨b, 4, none⟩ (.int .i64 k2.base)).setCell ⟨b, 5, none⟩ (.int .i64 k2.last)) := by
  have hl := h.lt
  refine ⟨hk, h.bx.put6 _ _ _ _ _ _, ?_, own_mono (own_put6 ho h.bx tykn_tp _ _ _ _ _ _) hB', h.rd.put6 (by omega) _ _ _ _ _ _, grown_far6 h.gr (by omega) _ _ _ _ _ _, hl⟩
  exact (((((h.rx.far 0 _ (by omega)).far 1 _ (by omega)).far 2 _ (by omega)).far 3 _ (by omega)).far 4 _ (by omega)).far 5 _ (by omega)
theorem DrawAt.base {w : World} {L B q b : Nat} {k : Kn} {A : Option Addr} {cap : Nat} {wr : World} (h : DrawAt w L B q b k A cap wr) (hB : B < w.heap.size) (hfr : k.last = -1 → k.ps.length = 0) {x : Int} (h0 : 0 ≤ x) (h1 : x ≤ k.ps.length) :
    DrawAt w L B q b { k with base := x } A cap (wr.setCell ⟨b, 4, none⟩ (.int .i64 x)) := by
  have hl := h.lt
  have hlast : HasW k.c k.last k.ps.length ∨ (k.last = -1 ∧ x = k.ps.length) := by
    rcases h.ok.lastOk with h2 | ⟨h2, _⟩
    · exact .inl h2
    · exact .inr ⟨h2, by have := hfr h2; omega⟩
  exact ⟨⟨h.ok.set, h.ok.room, h.ok.pairs, h0, h1, hlast⟩, h.bx.set_ 4 _, h.rx.far 4 _ (by omega), own_store_blk h.row h.bx tykn_tp 4 _, h.rd.set_ (by omega) 4 _, grown_far h.gr (by omega) 4 _, hl⟩
def DRel (w : World) (L B q b : Nat) (v : Value) (wr : World) : Prop := ∃ (k : Kn) (A : Option Addr) (cap m : Nat), v = .int .i64 m ∧ m ≤ 13 ∧ k.ps.length + m ≤ 13 ∧ (k.last = -1 → k.ps.length = 0) ∧ DrawAt w L B (q + 10 + 4 * (13 - m)) b k A cap wr

set_option maxHeartbeats 4000000 in
set_option maxRecDepth 100000 in
theorem c_l2Draw (L B q : Nat) (w : World) (hr : Rd 131 w L B q) (hq : q ≤ 10000000) :
    Calls Try.prog 93 #[.pointer (some ⟨B, 0, none⟩)] w (DrawOut w L B q) := by
  have hB := hr.lt
  have k0 := Blk.new w 32 #[.int .i64 0, .int .i64 0, .int .i64 0, .slice none 0 0, .int .i64 0, .int .i64 0]
  have hr0 := hr.alloc (.cells #[.int .i64 0, .int .i64 0, .int .i64 0, .slice none 0 0, .int .i64 0, .int .i64 0] 32)
  have g0 : w.grownBy (w.alloc (.cells #[.int .i64 0, .int .i64 0, .int .i64 0, .slice none 0 0, .int .i64 0, .int .i64 0] 32)) (some B) := grown_alloc (grown_refl w _) _
  clear hr
  go_enter Try.func93, Try.ntmps93
  go_wp2_with fail
  refine (c_l1Some L B q _ hr0 (by omega)).mono ?_
  rintro e w1 ⟨o, l, m, rfl, hset, hr1, hg1⟩
  have k1 := k0.grown hg1 (by simp; omega)
  have g1 := grown_trans g0 hg1
  clear hr0 k0 g0 hg1
  go_wp2_with fail
  refine (c_sStart_yes o l m _ hset).mono ?_
  rintro e w2 ⟨rfl, hb2⟩
  have k2 := k1.on hb2
  have hr2 := hr1.near hb2
  have g2 := grown_trans g1 (grown_below _ hb2)
  have z2 := g2.size
  have k2lt := k2.lt
  clear hr1 k1 g1 hb2
  go_wp2_with fail
  have k3 := Blk.new w2 32 #[.int .i64 o, .int .i64 l, .int .i64 m, .slice none 0 0, .int .i64 0, .int .i64 (-1)]
  refine (c_pick L B (q + 5) 14 _ (hr2.alloc _) (by omega) (by decide)).mono ?_
  rintro e w3 ⟨x, rfl, hx0, hx1, _, hr3, hg3⟩
  have hx2 := hx1 (by decide)
  obtain ⟨X, rfl⟩ := Int.eq_ofNat_of_zero_le hx0
  have HK : Kn.Ok ⟨o, l, m, [], 0, -1⟩ := by
    obtain ⟨s1, ⟨s2, s3⟩, s4, s5⟩ := setOk_iff.1 hset
    refine ⟨hset, ?_, fun i p hp => by simp at hp, Int.le_refl _, by simp, .inr ⟨rfl, rfl⟩⟩
    have e1 : ∀ a : Int, 0 ≤ a → pow2 a = ((2 ^ a.toNat : Nat) : Int) := fun a _ => by simp [pow2]
    have hm : (2 : Nat) ^ (l.toNat + 2) ≤ 2 ^ m.toNat := Nat.pow_le_pow_right (by omega) (by omega)
    have hl : (2 : Nat) ^ 1 ≤ 2 ^ l.toNat := Nat.pow_le_pow_right (by omega) (by omega)
    rw [Nat.pow_add] at hm
    show ((0 : Nat) : Int) ≤ pow2 m - 1 - (pow2 l + 1)
    rw [e1 _ (by omega), e1 _ (by omega)]
    omega
  have HI : Hid (DRel w L B q w2.heap.size (.int .i64 X) w3) := hid ⟨⟨o, l, m, [], 0, -1⟩, none, 0, X, rfl, by omega, by simp; omega, fun _ => rfl, HK, k3.grown hg3 (by simp; omega), (k2.alloc _).grown hg3 (by simp; omega), own_ps_nil _ _ _, hr3.more (by omega), grown_trans (grown_alloc g2 _) hg3, by omega⟩
  clear hr2 k2 g2 hr3 hg3 k3 HK hx1 hset hx0
  go_wp2_with fail
  obtain ⟨b, hb⟩ : ∃ b, b = w2.heap.size := ⟨_, rfl⟩
  rw [← hb] at HI ⊢
  have hbw : w.heap.size < b := by omega
  clear hb
  go_loopw [5] (fun v wr => DRel w L B q b v wr) (fun v _ => (intOf v).toNat)
  case atStart => exact HI.out
  case round =>
    obtain ⟨k, A4, c4, n, rfl, hn, hkn, hfr, hD⟩ := hrel
    clear HI
    have HD := hid hD
    have HKo := hid hD.ok
    have HFr := hid hfr
    clear hD hfr
    obtain ⟨p0, p1, p2, p3, p4, p5⟩ := HD.out.bx.cells6
    by_cases hlt : 0 < n
    · skip
      go_wp2_with fail
      go_region_with (first | (go_at_call 95; refine (c_l2Pick L B _ k A4 c4 _ HD.out.drew.rd (by omega) HKo.out).mono ?_; rintro e w5 ⟨code, rfl, hfol, hr5, hg5⟩; have HD5 := hid (HD.out.drew.pick hB hr5 hg5); obtain ⟨q0, q1, q2, q3, q4, q5⟩ := HD5.out.bx.cells6) | (go_at_call 149; refine (c_l2After k A4 c4 _ _ (own_ps_at HD5.out.row) (Nat.le_refl _) HKo.out code hfol).mono ?_; rintro e w6 ⟨A6, c6, rfl, ho6, hb6⟩; have HD6 := hid (HD5.out.on hb6); obtain ⟨s0, s1, s2, s3, s4, s5⟩ := HD6.out.bx.cells6; obtain ⟨f0, f1, f2, f3, f4, f5⟩ := HD6.out.bx.free6))
      all_goals
        have HLn := hid (Kn.after_len k code)
        have HCd := hid (show 0 ≤ code from ((HKo.out.fol_iff code).1 hfol).1)
        have HF := hid ((HD6.out.put hB (HKo.out.after hfol) ho6 (by have := HD5.out.gr.size; exact this)).more (show _ ≤ q + 10 + 4 * (13 - (n - 1)) by omega))
        go_wp2
        go_roundw
        case rel => exact ⟨k.after code, A6, c6, n - 1, by go_num, by omega, by have := HLn.out; split at this <;> omega, fun h => absurd h (by have := HCd.out; show ¬ code = -1; omega), HF.out⟩
        case measure => simp [intOf]; omega
    · have hn0 : n = 0 := by omega
      subst hn0
      have hkl : k.ps.length ≤ 13 := by omega
      go_wp2_with fail
      refine (c_pick L B _ 5 _ HD.out.rd (by omega) (by decide)).mono ?_
      rintro e w4 ⟨x4, rfl, h40, h41, _, hr4, hg4⟩
      have HD4 := hid (HD.out.pick hB hr4 hg4)
      clear h41 hr4 hg4 HD p0 p1 p2 p3 p4 p5
      obtain ⟨p0, p1, p2, p3, p4, p5⟩ := HD4.out.bx.cells6
      by_cases c4' : x4 = 0
      · have e4 : (x4 == 0) = true := eq_yes c4'
        clear c4'
        go_wp2_with fail
        refine (c_pick L B _ ((k.ps.length : Int) + 1) _ HD4.out.rd (by omega) (by omega)).mono ?_
        rintro e w5 ⟨x5, rfl, h50, h51, _, hr5, hg5⟩
        have hx5 := h51 (by omega)
        have HD5 := hid (HD4.out.pick hB hr5 hg5)
        have HDb := hid (show DrawAt w L B _ b ⟨k.o, k.l, k.m, k.ps, x5, k.last⟩ A4 c4 _ from HD5.out.base hB HFr.out h50 (by omega))
        clear h51 hr5 hg5 HD4 p0 p1 p2 p3 p4 p5
        obtain ⟨p0, p1, p2, p3, p4, p5⟩ := HD5.out.bx.cells6
        have f4 := HD5.out.bx.frozen 4
        go_wp2_with fail
        refine (c_pick L B _ 5 _ HDb.out.rd (by omega) (by decide)).mono ?_
        rintro e w6 ⟨x6, rfl, h60, h61, _, hr6, hg6⟩
        have HD6 := hid (HDb.out.pick hB hr6 hg6)
        clear h61 hr6 hg6 HDb
        obtain ⟨p0, p1, p2, p3, p4, p5⟩ := HD6.out.bx.cells6
        by_cases c6 : x6 = 0
        · have e6 : (x6 == 0) = true := eq_yes c6
          clear c6
          have HLn := hid (show (Kn.cleared (⟨k.o, k.l, k.m, k.ps, x5, k.last⟩ : Kn)).ps.length ≤ 14 by simp only [Kn.cleared, List.length_take]; omega)
          have HOc := hid (HD6.out.ok.cleared)
          go_wp2_with fail
          refine (c_l2Cleared (⟨k.o, k.l, k.m, k.ps, x5, k.last⟩ : Kn) A4 c4 _ _ (own_ps_at HD6.out.row) (Nat.le_refl _) HD6.out.ok).mono ?_
          rintro e w7 ⟨A7, c7, rfl, ho7, hb7⟩
          have HD7 := hid (HD6.out.on hb7)
          have HDp := hid (show DrawAt w L B _ b (Kn.cleared (⟨k.o, k.l, k.m, k.ps, x5, k.last⟩ : Kn)) A7 c7 ((((((w7.setCell ⟨b, 0, none⟩ (.int .i64 k.o)).setCell ⟨b, 1, none⟩ (.int .i64 k.l)).setCell ⟨b, 2, none⟩ (.int .i64 k.m)).setCell ⟨b, 3, none⟩ (.slice A7 (Kn.cleared (⟨k.o, k.l, k.m, k.ps, x5, k.last⟩ : Kn)).ps.length c7)).setCell ⟨b, 4, none⟩ (.int .i64 x5)).setCell ⟨b, 5, none⟩ (.int .i64 (Kn.cleared (⟨k.o, k.l, k.m, k.ps, x5, k.last⟩ : Kn)).last)) from HD7.out.put hB HOc.out ho7 (by have := HD6.out.gr.size; exact this))
          clear p0 p1 p2 p3 p4 p5
          obtain ⟨p0, p1, p2, p3, p4, p5⟩ := HD7.out.bx.cells6
          obtain ⟨m0, m1, m2, m3, m4, m5⟩ := HD7.out.bx.free6
          obtain ⟨q0, q1, q2, q3, q4, q5⟩ := (show Blk _ b 32 #[.int .i64 k.o, .int .i64 k.l, .int .i64 k.m, .slice A7 (Kn.cleared (⟨k.o, k.l, k.m, k.ps, x5, k.last⟩ : Kn)).ps.length c7, .int .i64 x5, .int .i64 (Kn.cleared (⟨k.o, k.l, k.m, k.ps, x5, k.last⟩ : Kn)).last] from HDp.out.bx).cells6
          clear HD6 HD7 ho7 hb7
          have HRx := hid HDp.out.rx
          obtain ⟨r0, r1, r2, r3, r4, r5⟩ := HRx.out.cells6
          obtain ⟨f0, f1, f2, f3, f4, f5⟩ := HRx.out.free6
          obtain ⟨j0, j1, j2, j3, j4, j5⟩ := (HRx.out.put6 (.int .i64 k.o) (.int .i64 k.l) (.int .i64 k.m) (.slice A7 (Kn.cleared (⟨k.o, k.l, k.m, k.ps, x5, k.last⟩ : Kn)).ps.length c7) (.int .i64 x5) (.int .i64 (Kn.cleared (⟨k.o, k.l, k.m, k.ps, x5, k.last⟩ : Kn)).last)).cells6
          have HZ := hid (show DrawOut w L B q (.returned (.agg #[.int .i64 k.o, .int .i64 k.l, .int .i64 k.m, .slice A7 (Kn.cleared (⟨k.o, k.l, k.m, k.ps, x5, k.last⟩ : Kn)).ps.length c7, .int .i64 x5, .int .i64 (Kn.cleared (⟨k.o, k.l, k.m, k.ps, x5, k.last⟩ : Kn)).last])) _ from ⟨(Kn.cleared (⟨k.o, k.l, k.m, k.ps, x5, k.last⟩ : Kn)), A7, c7, rfl, HOc.out, HLn.out, own_put6 HDp.out.row HRx.out tykn_tp (.int .i64 k.o) (.int .i64 k.l) (.int .i64 k.m) (.slice A7 (Kn.cleared (⟨k.o, k.l, k.m, k.ps, x5, k.last⟩ : Kn)).ps.length c7) (.int .i64 x5) (.int .i64 (Kn.cleared (⟨k.o, k.l, k.m, k.ps, x5, k.last⟩ : Kn)).last), (HDp.out.rd.put6 hB (.int .i64 k.o) (.int .i64 k.l) (.int .i64 k.m) (.slice A7 (Kn.cleared (⟨k.o, k.l, k.m, k.ps, x5, k.last⟩ : Kn)).ps.length c7) (.int .i64 x5) (.int .i64 (Kn.cleared (⟨k.o, k.l, k.m, k.ps, x5, k.last⟩ : Kn)).last)).more (by omega), grown_far6 HDp.out.gr (Nat.le_refl _) (.int .i64 k.o) (.int .i64 k.l) (.int .i64 k.m) (.slice A7 (Kn.cleared (⟨k.o, k.l, k.m, k.ps, x5, k.last⟩ : Kn)).ps.length c7) (.int .i64 x5) (.int .i64 (Kn.cleared (⟨k.o, k.l, k.m, k.ps, x5, k.last⟩ : Kn)).last)⟩)
          go_wp2
          exact bodyPost_ret (v := .agg #[.int .i64 k.o, .int .i64 k.l, .int .i64 k.m, .slice A7 (Kn.cleared (⟨k.o, k.l, k.m, k.ps, x5, k.last⟩ : Kn)).ps.length c7, .int .i64 x5, .int .i64 (Kn.cleared (⟨k.o, k.l, k.m, k.ps, x5, k.last⟩ : Kn)).last]) (by simp [results, Try.results93, go_sem, j0, j1, j2, j3, j4, j5]) rfl HZ.out
        · have e6 : (x6 == 0) = false := eq_no (by omega)
          have HRx := hid HD6.out.rx
          obtain ⟨r0, r1, r2, r3, r4, r5⟩ := HRx.out.cells6
          obtain ⟨f0, f1, f2, f3, f4, f5⟩ := HRx.out.free6
          obtain ⟨j0, j1, j2, j3, j4, j5⟩ := (HRx.out.put6 (.int .i64 k.o) (.int .i64 k.l) (.int .i64 k.m) (.slice A4 k.ps.length c4) (.int .i64 x5) (.int .i64 k.last)).cells6
          have HZ := hid (show DrawOut w L B q (.returned (.agg #[.int .i64 k.o, .int .i64 k.l, .int .i64 k.m, .slice A4 k.ps.length c4, .int .i64 x5, .int .i64 k.last])) _ from ⟨(⟨k.o, k.l, k.m, k.ps, x5, k.last⟩ : Kn), A4, c4, rfl, HD6.out.ok, by show k.ps.length ≤ 14; omega, own_put6 HD6.out.row HRx.out tykn_tp (.int .i64 k.o) (.int .i64 k.l) (.int .i64 k.m) (.slice A4 k.ps.length c4) (.int .i64 x5) (.int .i64 k.last), (HD6.out.rd.put6 hB (.int .i64 k.o) (.int .i64 k.l) (.int .i64 k.m) (.slice A4 k.ps.length c4) (.int .i64 x5) (.int .i64 k.last)).more (by omega), grown_far6 HD6.out.gr (Nat.le_refl _) (.int .i64 k.o) (.int .i64 k.l) (.int .i64 k.m) (.slice A4 k.ps.length c4) (.int .i64 x5) (.int .i64 k.last)⟩)
          go_wp2
          exact bodyPost_ret (v := .agg #[.int .i64 k.o, .int .i64 k.l, .int .i64 k.m, .slice A4 k.ps.length c4, .int .i64 x5, .int .i64 k.last]) (by simp [results, Try.results93, go_sem, j0, j1, j2, j3, j4, j5]) rfl HZ.out
      · have e4 : (x4 == 0) = false := eq_no (by omega)
        go_wp2_with fail
        refine (c_pick L B _ 5 _ HD4.out.rd (by omega) (by decide)).mono ?_
        rintro e w6 ⟨x6, rfl, h60, h61, _, hr6, hg6⟩
        have HD6 := hid (HD4.out.pick hB hr6 hg6)
        clear h61 hr6 hg6 HD4
        obtain ⟨p0, p1, p2, p3, p4, p5⟩ := HD6.out.bx.cells6
        by_cases c6 : x6 = 0
        · have e6 : (x6 == 0) = true := eq_yes c6
          clear c6
          have HLn := hid (show (Kn.cleared k).ps.length ≤ 14 by simp only [Kn.cleared, List.length_take]; omega)
          have HOc := hid (HD6.out.ok.cleared)
          go_wp2_with fail
          refine (c_l2Cleared k A4 c4 _ _ (own_ps_at HD6.out.row) (Nat.le_refl _) HD6.out.ok).mono ?_
          rintro e w7 ⟨A7, c7, rfl, ho7, hb7⟩
          have HD7 := hid (HD6.out.on hb7)
          have HDp := hid (show DrawAt w L B _ b (Kn.cleared k) A7 c7 ((((((w7.setCell ⟨b, 0, none⟩ (.int .i64 k.o)).setCell ⟨b, 1, none⟩ (.int .i64 k.l)).setCell ⟨b, 2, none⟩ (.int .i64 k.m)).setCell ⟨b, 3, none⟩ (.slice A7 (Kn.cleared k).ps.length c7)).setCell ⟨b, 4, none⟩ (.int .i64 k.base)).setCell ⟨b, 5, none⟩ (.int .i64 (Kn.cleared k).last)) from HD7.out.put hB HOc.out ho7 (by have := HD6.out.gr.size; exact this))
          clear p0 p1 p2 p3 p4 p5
          obtain ⟨p0, p1, p2, p3, p4, p5⟩ := HD7.out.bx.cells6
          obtain ⟨m0, m1, m2, m3, m4, m5⟩ := HD7.out.bx.free6
          obtain ⟨q0, q1, q2, q3, q4, q5⟩ := (show Blk _ b 32 #[.int .i64 k.o, .int .i64 k.l, .int .i64 k.m, .slice A7 (Kn.cleared k).ps.length c7, .int .i64 k.base, .int .i64 (Kn.cleared k).last] from HDp.out.bx).cells6
          clear HD6 HD7 ho7 hb7
          have HRx := hid HDp.out.rx
          obtain ⟨r0, r1, r2, r3, r4, r5⟩ := HRx.out.cells6
          obtain ⟨f0, f1, f2, f3, f4, f5⟩ := HRx.out.free6
          obtain ⟨j0, j1, j2, j3, j4, j5⟩ := (HRx.out.put6 (.int .i64 k.o) (.int .i64 k.l) (.int .i64 k.m) (.slice A7 (Kn.cleared k).ps.length c7) (.int .i64 k.base) (.int .i64 (Kn.cleared k).last)).cells6
          have HZ := hid (show DrawOut w L B q (.returned (.agg #[.int .i64 k.o, .int .i64 k.l, .int .i64 k.m, .slice A7 (Kn.cleared k).ps.length c7, .int .i64 k.base, .int .i64 (Kn.cleared k).last])) _ from ⟨(Kn.cleared k), A7, c7, rfl, HOc.out, HLn.out, own_put6 HDp.out.row HRx.out tykn_tp (.int .i64 k.o) (.int .i64 k.l) (.int .i64 k.m) (.slice A7 (Kn.cleared k).ps.length c7) (.int .i64 k.base) (.int .i64 (Kn.cleared k).last), (HDp.out.rd.put6 hB (.int .i64 k.o) (.int .i64 k.l) (.int .i64 k.m) (.slice A7 (Kn.cleared k).ps.length c7) (.int .i64 k.base) (.int .i64 (Kn.cleared k).last)).more (by omega), grown_far6 HDp.out.gr (Nat.le_refl _) (.int .i64 k.o) (.int .i64 k.l) (.int .i64 k.m) (.slice A7 (Kn.cleared k).ps.length c7) (.int .i64 k.base) (.int .i64 (Kn.cleared k).last)⟩)
          go_wp2
          exact bodyPost_ret (v := .agg #[.int .i64 k.o, .int .i64 k.l, .int .i64 k.m, .slice A7 (Kn.cleared k).ps.length c7, .int .i64 k.base, .int .i64 (Kn.cleared k).last]) (by simp [results, Try.results93, go_sem, j0, j1, j2, j3, j4, j5]) rfl HZ.out
        · have e6 : (x6 == 0) = false := eq_no (by omega)
          have HRx := hid HD6.out.rx
          obtain ⟨r0, r1, r2, r3, r4, r5⟩ := HRx.out.cells6
          obtain ⟨f0, f1, f2, f3, f4, f5⟩ := HRx.out.free6
          obtain ⟨j0, j1, j2, j3, j4, j5⟩ := (HRx.out.put6 (.int .i64 k.o) (.int .i64 k.l) (.int .i64 k.m) (.slice A4 k.ps.length c4) (.int .i64 k.base) (.int .i64 k.last)).cells6
          have HZ := hid (show DrawOut w L B q (.returned (.agg #[.int .i64 k.o, .int .i64 k.l, .int .i64 k.m, .slice A4 k.ps.length c4, .int .i64 k.base, .int .i64 k.last])) _ from ⟨k, A4, c4, rfl, HD6.out.ok, by show k.ps.length ≤ 14; omega, own_put6 HD6.out.row HRx.out tykn_tp (.int .i64 k.o) (.int .i64 k.l) (.int .i64 k.m) (.slice A4 k.ps.length c4) (.int .i64 k.base) (.int .i64 k.last), (HD6.out.rd.put6 hB (.int .i64 k.o) (.int .i64 k.l) (.int .i64 k.m) (.slice A4 k.ps.length c4) (.int .i64 k.base) (.int .i64 k.last)).more (by omega), grown_far6 HD6.out.gr (Nat.le_refl _) (.int .i64 k.o) (.int .i64 k.l) (.int .i64 k.m) (.slice A4 k.ps.length c4) (.int .i64 k.base) (.int .i64 k.last)⟩)
          go_wp2
          exact bodyPost_ret (v := .agg #[.int .i64 k.o, .int .i64 k.l, .int .i64 k.m, .slice A4 k.ps.length c4, .int .i64 k.base, .int .i64 k.last]) (by simp [results, Try.results93, go_sem, j0, j1, j2, j3, j4, j5]) rfl HZ.out
end Go.Proofs.Ytophlgnmfhoeiaa
