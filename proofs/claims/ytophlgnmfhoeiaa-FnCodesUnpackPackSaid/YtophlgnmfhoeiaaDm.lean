/- Contracts of the model's own drawing of what may be known or not. -/
import Derived.Test.YtophlgnmfhoeiaaDl
import Derived.Test.YtophlgnmfhoeiaaGo
namespace Go.Proofs.Ytophlgnmfhoeiaa
open Go.ChangeShapes Go.WideShapes Go.ChangeAt Go.RowKit Go.Joins
set_option linter.unusedVariables false

def BadOut (w : World) (B0 L B q : Nat) (e : Ending) (w' : World) : Prop := ∃ (k : Kn) (A : Option Addr) (cap : Nat), e = .returned (.agg #[.int .i64 k.o, .int .i64 k.l, .int .i64 k.m, .slice A k.ps.length cap, .int .i64 k.base, .int .i64 k.last]) ∧ k.Wf ∧ k.ps.length ≤ 1000 ∧ w'.ownsRow B0 139 2 (.slice A k.ps.length cap) k.ps.length (prs k.ps) ∧ Rd 131 w' L B (q + 50) ∧ w.grownBy w' (some B)
theorem BadOut.mk {w : World} {B0 L B q : Nat} (k : Kn) {A : Option Addr} {cap NL : Nat} {w' : World} (hNL : NL = k.ps.length) (hw : k.Wf) (hl : k.ps.length ≤ 1000) (hr : w'.ownsRow B0 139 2 (.slice A NL cap) NL (prs k.ps)) (hd : Rd 131 w' L B (q + 50)) (hg : w.grownBy w' (some B)) :
    BadOut w B0 L B q (.returned (.agg #[.int .i64 k.o, .int .i64 k.l, .int .i64 k.m, .slice A NL cap, .int .i64 k.base, .int .i64 k.last])) w' := by
  subst hNL
  exact ⟨k, A, cap, rfl, hw, hl, hr, hd, hg⟩
/-- the drawing under way -/
structure BadAt (w : World) (B0 L B q : Nat) (k : Kn) (A : Option Addr) (cap : Nat) (wr : World) : Prop where
  bx : Blk wr w.heap.size 32 #[.int .i64 k.o, .int .i64 k.l, .int .i64 k.m, .slice A k.ps.length cap, .int .i64 k.base, .int .i64 k.last]
  rx : Blk wr (w.heap.size + 1) 32 #[.int .i64 0, .int .i64 0, .int .i64 0, .slice none 0 0, .int .i64 0, .int .i64 0]
  row : wr.ownsRow B0 139 2 (.slice A k.ps.length cap) k.ps.length (prs k.ps)
  rd : Rd 131 wr L B q
  gr : w.grownBy wr (some B)
section
variable {w : World} {B0 L B q q' : Nat} {k : Kn} {A : Option Addr} {cap : Nat} {wr w' : World}
theorem BadAt.on (h : BadAt w B0 L B q k A cap wr) (hb : Below wr.heap.size wr w') : BadAt w B0 L B q k A cap w' :=
  ⟨h.bx.on hb, h.rx.on hb, own_on h.row hb, h.rd.near hb, grown_trans h.gr (grown_below _ hb)⟩
theorem BadAt.pick (h : BadAt w B0 L B q k A cap wr) (hB : B < B0) (hB0 : B0 ≤ w.heap.size) (hr : Rd 131 w' L B q') (hg : wr.grownBy w' (some B)) : BadAt w B0 L B q' k A cap w' :=
  ⟨h.bx.grown hg (by simp; omega), h.rx.grown hg (by simp; omega), own_grown1 h.row hg hB, hr, grown_trans h.gr hg⟩
end
theorem own_new (W : World) : (W.alloc (.cells #[] 139)).ownsRow W.heap.size 139 2 (.slice (some ⟨W.heap.size, 0, none⟩) 0 0) 0 (prs []) := World.ownsRow_made (e := 139) (size := 2) (base := W.heap.size) W #[] 0 (Nat.le_refl _) (by simp [maxLen]) rfl
/-- the drawing under way, while a new slice grows above block N -/
structure BR (w : World) (L B q : Nat) (k : Kn) (A : Option Addr) (cap N : Nat) (wr : World) : Prop where
  bx : Blk wr w.heap.size 32 #[.int .i64 k.o, .int .i64 k.l, .int .i64 k.m, .slice A k.ps.length cap, .int .i64 k.base, .int .i64 k.last]
  rx : Blk wr (w.heap.size + 1) 32 #[.int .i64 0, .int .i64 0, .int .i64 0, .slice none 0 0, .int .i64 0, .int .i64 0]
  ps : PsAt wr N A cap k.ps
  rd : Rd 131 wr L B q
  gr : w.grownBy wr (some B)
  le : N ≤ wr.heap.size
  ge : w.heap.size + 2 ≤ N
  lt : B < w.heap.size
theorem Rd.near2 {T : TypeId} {w w' : World} {L B q N : Nat} (h : Rd T w L B q) (hb : Below N w w') (hB : B < N) : Rd T w' L B q := by
  obtain ⟨A, n, cap, p, hb1, hc, hn, hL, h0, h1⟩ := h
  exact ⟨A, n, cap, p, hb1.below hb hB, hc.keep (fun k hk => hb.block k (by omega)), hn, hL, h0, h1⟩
theorem grown_near {a b c : World} {row : Option Nat} {N : Nat} (h : a.grownBy b row) (hb : Below N b c) (hN : a.heap.size ≤ N) : a.grownBy c row :=
  ⟨hb.os.trans h.os, hb.tape.trans h.tape, hb.output.trans h.output, Nat.le_trans h.size hb.size, fun i hi hr => (hb.block i (by omega)).trans (h.block i hi hr)⟩
theorem PsAt.grown_ne {w w' : World} {N cap : Nat} {A : Option Addr} {ps : List Pr} {row : Option Nat} (h : PsAt w N A cap ps) (hg : w.grownBy w' row) (hN : N ≤ w.heap.size) (hp : ∀ g off, A = some ⟨g, off, none⟩ → some g ≠ row) : PsAt w' N A cap ps :=
  ⟨h.1, h.2.1, h.2.2.1, fun hn => by
    obtain ⟨b, off, e, hb, hc⟩ := h.2.2.2 hn
    have hk : w'.heap[b]? = w.heap[b]? := hg.block b (by omega) (hp b off e)
    refine ⟨b, off, e, hb, fun i p hi => ?_⟩
    have h1 := hc i p hi
    exact ⟨(World.cell?_of_block (a := ⟨b, off + i * 2, none⟩) hk).trans h1.1, (World.cell?_of_block (a := ⟨b, off + i * 2 + 1, none⟩) hk).trans h1.2⟩⟩
section
variable {w : World} {L B B0 q q' N : Nat} {k : Kn} {A : Option Addr} {cap : Nat} {wr w' : World}
theorem BR.on (h : BR w L B q k A cap N wr) (hb : Below N wr w') : BR w L B q k A cap N w' := by
  have h1 := h.ge
  have h2 := h.lt
  exact ⟨h.bx.below hb (by omega), h.rx.below hb (by omega), h.ps.below hb (Nat.le_refl _), h.rd.near2 hb (by omega), grown_near h.gr hb (by omega), Nat.le_trans h.le hb.size, h.ge, h.lt⟩
theorem BR.on' (h : BR w L B q k A cap N wr) (hb : Below wr.heap.size wr w') : BR w L B q k A cap N w' := h.on (hb.mono h.le)
theorem BR.al (h : BR w L B q k A cap N wr) (o : Obj) : BR w L B q k A cap N (wr.alloc o) := h.on' (bel_alloc (Below.refl _ _) o)
theorem BR.pick (h : BR w L B q k A cap N wr) (hr : Rd 131 w' L B q') (hg : wr.grownBy w' (some B)) (hp : ∀ g off, A = some ⟨g, off, none⟩ → g ≠ B) : BR w L B q' k A cap N w' := by
  have h1 := h.ge
  have h2 := h.lt
  exact ⟨h.bx.grown hg (by simp; omega), h.rx.grown hg (by simp; omega), h.ps.grown_ne hg h.le (fun g off e1 e2 => hp g off e1 (by simpa using e2)), hr, grown_trans h.gr hg, Nat.le_trans h.le hg.size, h.ge, h.lt⟩
theorem BadAt.own_ne (h : BadAt w B0 L B q k A cap wr) (hB : B < B0) : ∀ g off, A = some ⟨g, off, none⟩ → g ≠ B := by
  intro g off e1 e2
  subst e2
  obtain ⟨A2, c2, e3, _, _, h4⟩ := own_ps h.row
  obtain ⟨rfl, _⟩ : A = A2 ∧ cap = c2 := by simpa using e3
  rcases h4 with h5 | ⟨g2, h5, h6, _⟩
  · rw [e1] at h5; cases h5
  · rw [e1] at h5
    have : g = g2 := by simpa using congrArg (fun o => (o.map Addr.block).getD 0) h5
    omega
theorem BadAt.br (h : BadAt w B0 L B q k A cap wr) (hB : B < w.heap.size) (hz : w.heap.size + 2 ≤ wr.heap.size) : BR w L B q k A cap wr.heap.size wr :=
  ⟨h.bx, h.rx, own_ps_at h.row, h.rd, h.gr, Nat.le_refl _, hz, hB⟩
end
theorem own_snocB {w' : World} {B : Nat} {e : TypeId} {v : Value} {ps : List Pr} {p : Pr} (h : w'.ownsRow B e 2 v (0 + ps.length + [p].length) (prs ([] ++ ps ++ [p]))) : ∃ A c NL, NL = (ps ++ [p]).length ∧ v = .slice A NL c ∧ w'.ownsRow B e 2 (.slice A NL c) NL (prs (ps ++ [p])) := by
  rw [List.nil_append] at h
  obtain ⟨A, c, rfl, _, hn, _⟩ := own_ps h
  exact ⟨A, c, _, rfl, rfl, hn ▸ h⟩
theorem psB_snoc {ps : List Pr} {p : Pr} (h : PsB ps) (h1 : -9223372036854775808 ≤ p.1 ∧ p.1 ≤ 9223372036854775807) (h2 : -9223372036854775808 ≤ p.2 ∧ p.2 ≤ 9223372036854775807) : PsB (ps ++ [p]) := by
  intro i q hq
  rcases Nat.lt_or_ge i ps.length with hi | hi
  · rw [List.getElem?_append_left hi] at hq; exact h i q hq
  · rw [List.getElem?_append_right hi] at hq
    have hi0 := get_lt hq
    have : i - ps.length = 0 := by simp at hi0; omega
    rw [this] at hq
    simp at hq
    subst hq
    exact ⟨h1, h2⟩

set_option maxHeartbeats 8000000 in
set_option maxRecDepth 100000 in
theorem c_l2Bad (L B q B0 : Nat) (k : Kn) (A : Option Addr) (cap : Nat) (w : World) (hr : Rd 131 w L B q) (hq : q ≤ 10000000) (hrow : w.ownsRow B0 139 2 (.slice A k.ps.length cap) k.ps.length (prs k.ps)) (hB : B < B0) (hB0 : B0 ≤ w.heap.size) (hk : k.Ok) (hl : k.ps.length ≤ 14) :
    Calls Try.prog 98 #[.pointer (some ⟨B, 0, none⟩), .agg #[.int .i64 k.o, .int .i64 k.l, .int .i64 k.m, .slice A k.ps.length cap, .int .i64 k.base, .int .i64 k.last]] w (BadOut w B0 L B q) := by
  have hcb := hk.cbd
  have hnx := hk.next_le
  have hnp : 0 ≤ k.next := by unfold Kn.next; omega
  obtain ⟨_, ⟨hl1, hl2⟩, hm1, hm2⟩ := setOk_iff.1 hk.set
  have HN := hid (fun (v : World) => c_l2Next k A cap v hk)
  have HE := hid (fun (v : World) => c_l1End k.o k.l k.m v (by omega) (by omega))
  have HC := hid (fun (v : World) => c_l1Clear k.o k.l k.m v (by omega) (by omega))
  obtain ⟨C, hC⟩ : ∃ C, C = pow2 k.l := ⟨_, rfl⟩
  obtain ⟨X, hX⟩ : ∃ X, X = k.next := ⟨_, rfl⟩
  simp only [← hX] at HN hnx hnp
  rw [← hC] at HE HC
  have hCb : 2 ≤ C ∧ C ≤ 256 := by unfold Kn.c at hcb; omega
  have hXb : 0 ≤ X ∧ X ≤ 2000 := by omega
  have HSt := hid hk.set
  have HW := hid hk.wf
  have HZ0 := hid (show BadAt w B0 L B q k A cap ((w.alloc (.cells #[.int .i64 k.o, .int .i64 k.l, .int .i64 k.m, .slice A k.ps.length cap, .int .i64 k.base, .int .i64 k.last] 32)).alloc (.cells #[.int .i64 0, .int .i64 0, .int .i64 0, .slice none 0 0, .int .i64 0, .int .i64 0] 32)) from ⟨(Blk.new w _ _).alloc _, Blk.top w _ _ _, (hrow.alloc _).alloc _, (hr.alloc _).alloc _, grown_alloc (grown_alloc (grown_refl w _) _) _⟩)
  obtain ⟨W1, hW1⟩ : ∃ W1, W1 = (w.alloc (.cells #[.int .i64 k.o, .int .i64 k.l, .int .i64 k.m, .slice A k.ps.length cap, .int .i64 k.base, .int .i64 k.last] 32)).alloc (.cells #[.int .i64 0, .int .i64 0, .int .i64 0, .slice none 0 0, .int .i64 0, .int .i64 0] 32) := ⟨_, rfl⟩
  rw [← hW1] at HZ0
  clear hr hrow hk hC hX hcb hnx hnp
  go_enter Try.func98, Try.ntmps98
  go_wp2_with fail
  rw [← hW1]
  clear hW1
  refine (c_pick L B q 40 _ HZ0.out.rd (by omega) (by decide)).mono ?_
  rintro e w1 ⟨x, rfl, hx0, hx1, _, hr1, hg1⟩
  have HZ := hid (HZ0.out.pick hB hB0 hr1 hg1)
  clear hx1 hr1 hg1 HZ0
  obtain ⟨p0, p1, p2, p3, p4, p5⟩ := HZ.out.bx.cells6
  obtain ⟨f0, f1, f2, f3, f4, f5⟩ := HZ.out.bx.free6
  by_cases c0 : x = 0
  · skip
    have e0 : (x == 0) = true := eq_yes (by omega)
    clear c0
    go_wp2_with fail
    refine (c_l1Bad L B _ k.o k.l k.m _ HZ.out.rd (by omega) HSt.out).mono ?_
    rintro e w2 ⟨o2, l2, m2, rfl, ho2, hl2', hm2', hr2, hg2⟩
    have HY := hid (HZ.out.pick hB hB0 hr2 hg2)
    clear hr2 hg2 HZ p0 p1 p2 p3 p4 p5 f0 f1 f2 f3 f4 f5
    obtain ⟨p0, p1, p2, p3, p4, p5⟩ := HY.out.bx.cells6
    obtain ⟨f0, f1, f2, f3, f4, f5⟩ := HY.out.bx.free6
    have HRx := hid (((HY.out.rx.far (R := w.heap.size) 0 (.int .i64 o2) (by omega)).far (R := w.heap.size) 1 (.int .i64 l2) (by omega)).far (R := w.heap.size) 2 (.int .i64 m2) (by omega))
    have HBx := hid (((HY.out.bx.set_ 0 (.int .i64 o2)).set_ 1 (.int .i64 l2)).set_ 2 (.int .i64 m2))
    obtain ⟨r0, r1, r2, r3, r4, r5⟩ := HRx.out.cells6
    obtain ⟨b0, b1, b2, b3, b4, b5⟩ := HBx.out.cells6
    obtain ⟨g0, g1, g2, g3, g4, g5⟩ := HRx.out.free6
    obtain ⟨j0, j1, j2, j3, j4, j5⟩ := (HRx.out.put6 (.int .i64 o2) (.int .i64 l2) (.int .i64 m2) (.slice A k.ps.length cap) (.int .i64 k.base) (.int .i64 k.last)).cells6
    have Hrow := own_put6 (own_store_blk (own_store_blk (own_store_blk HY.out.row HY.out.bx tykn_tp 0 (.int .i64 o2)) (HY.out.bx.set_ 0 _) tykn_tp 1 (.int .i64 l2)) ((HY.out.bx.set_ 0 _).set_ 1 _) tykn_tp 2 (.int .i64 m2)) HRx.out tykn_tp (.int .i64 o2) (.int .i64 l2) (.int .i64 m2) (.slice A k.ps.length cap) (.int .i64 k.base) (.int .i64 k.last)
    have Hrd := ((((HY.out.rd.set_ (b := w.heap.size) (by omega) 0 (.int .i64 o2)).set_ (b := w.heap.size) (by omega) 1 (.int .i64 l2)).set_ (b := w.heap.size) (by omega) 2 (.int .i64 m2)).put6 (b := w.heap.size + 1) (by omega) (.int .i64 o2) (.int .i64 l2) (.int .i64 m2) (.slice A k.ps.length cap) (.int .i64 k.base) (.int .i64 k.last)).more (show _ ≤ q + 50 by omega)
    have Hgr := grown_far6 (b := w.heap.size + 1) (grown_far (grown_far (grown_far HY.out.gr (Nat.le_refl _) 0 (.int .i64 o2)) (Nat.le_refl _) 1 (.int .i64 l2)) (Nat.le_refl _) 2 (.int .i64 m2)) (by omega) (.int .i64 o2) (.int .i64 l2) (.int .i64 m2) (.slice A k.ps.length cap) (.int .i64 k.base) (.int .i64 k.last)
    have HF := hid (show BadOut w B0 L B q (.returned (.agg #[.int .i64 o2, .int .i64 l2, .int .i64 m2, .slice A k.ps.length cap, .int .i64 k.base, .int .i64 k.last])) _ from BadOut.mk (⟨o2, l2, m2, k.ps, k.base, k.last⟩ : Kn) rfl ⟨HW.out.pairs, HW.out.base, HW.out.last, HW.out.len⟩ (by show k.ps.length ≤ 1000; omega) Hrow Hrd Hgr)
    clear Hrow Hrd Hgr
    go_wp2
    exact bodyPost_ret (v := .agg #[.int .i64 o2, .int .i64 l2, .int .i64 m2, .slice A k.ps.length cap, .int .i64 k.base, .int .i64 k.last]) (by simp [results, Try.results98, go_sem, j0, j1, j2, j3, j4, j5]) rfl HF.out
  · skip
    have e0 : (x == 0) = false := eq_no (by omega)
    by_cases c1 : x = 1
    · skip
      have e1 : (x == 1) = true := eq_yes (by omega)
      clear c1
      go_wp2_with fail
      refine (c_num L B _ w1.heap.size 3 [-1, (k.ps.length : Int) + 1, 9223372036854775807] _ (HZ.out.rd.alloc _) (by omega) (by exact intsAt_new w1 _ _) rfl (by decide) (by decide) (by have := HZ.out.rd.lt; omega)).mono ?_
      rintro e w2 ⟨y, rfl, hy, hr2, hg2⟩
      have HY := hid ((HZ.out.on (bel_alloc (Below.refl _ _) _)).pick hB hB0 hr2 hg2)
      have hyb : -9223372036854775808 ≤ y ∧ y ≤ 9223372036854775807 := by simp at hy; omega
      clear hy hr2 hg2 HZ p0 p1 p2 p3 p4 p5 f0 f1 f2 f3 f4 f5
      obtain ⟨p0, p1, p2, p3, p4, p5⟩ := HY.out.bx.cells6
      obtain ⟨f0, f1, f2, f3, f4, f5⟩ := HY.out.bx.free6
      have HRx := hid (HY.out.rx.far (R := w.heap.size) 4 (.int .i64 y) (by omega))
      have HBx := hid (HY.out.bx.set_ 4 (.int .i64 y))
      obtain ⟨r0, r1, r2, r3, r4, r5⟩ := HRx.out.cells6
      obtain ⟨b0, b1, b2, b3, b4, b5⟩ := HBx.out.cells6
      obtain ⟨g0, g1, g2, g3, g4, g5⟩ := HRx.out.free6
      obtain ⟨j0, j1, j2, j3, j4, j5⟩ := (HRx.out.put6 (.int .i64 k.o) (.int .i64 k.l) (.int .i64 k.m) (.slice A k.ps.length cap) (.int .i64 y) (.int .i64 k.last)).cells6
      have Hrow := own_put6 (own_store_blk HY.out.row HY.out.bx tykn_tp 4 (.int .i64 y)) HRx.out tykn_tp (.int .i64 k.o) (.int .i64 k.l) (.int .i64 k.m) (.slice A k.ps.length cap) (.int .i64 y) (.int .i64 k.last)
      have Hrd := ((HY.out.rd.set_ (b := w.heap.size) (by omega) 4 (.int .i64 y)).put6 (b := w.heap.size + 1) (by omega) (.int .i64 k.o) (.int .i64 k.l) (.int .i64 k.m) (.slice A k.ps.length cap) (.int .i64 y) (.int .i64 k.last)).more (show _ ≤ q + 50 by omega)
      have Hgr := grown_far6 (b := w.heap.size + 1) (grown_far HY.out.gr (Nat.le_refl _) 4 (.int .i64 y)) (by omega) (.int .i64 k.o) (.int .i64 k.l) (.int .i64 k.m) (.slice A k.ps.length cap) (.int .i64 y) (.int .i64 k.last)
      have HF := hid (show BadOut w B0 L B q (.returned (.agg #[.int .i64 k.o, .int .i64 k.l, .int .i64 k.m, .slice A k.ps.length cap, .int .i64 y, .int .i64 k.last])) _ from BadOut.mk (⟨k.o, k.l, k.m, k.ps, y, k.last⟩ : Kn) rfl ⟨HW.out.pairs, hyb, HW.out.last, HW.out.len⟩ (by show k.ps.length ≤ 1000; omega) Hrow Hrd Hgr)
      clear Hrow Hrd Hgr
      go_wp2
      exact bodyPost_ret (v := .agg #[.int .i64 k.o, .int .i64 k.l, .int .i64 k.m, .slice A k.ps.length cap, .int .i64 y, .int .i64 k.last]) (by simp [results, Try.results98, go_sem, j0, j1, j2, j3, j4, j5]) rfl HF.out
    · skip
      have e1 : (x == 1) = false := eq_no (by omega)
      by_cases c2 : x = 2
      · skip
        have e2 : (x == 2) = true := eq_yes (by omega)
        clear c2
        have hS : w1.cell? ⟨w.heap.size, 0, none⟩ = some (.int .i64 k.o) ∧ w1.cell? ⟨w.heap.size, 1, none⟩ = some (.int .i64 k.l) ∧ w1.cell? ⟨w.heap.size, 2, none⟩ = some (.int .i64 k.m) ∧ w1.cell? ⟨w.heap.size, 3, none⟩ = some (.slice A k.ps.length cap) ∧ w1.cell? ⟨w.heap.size, 4, none⟩ = some (.int .i64 k.base) ∧ w1.cell? ⟨w.heap.size, 5, none⟩ = some (.int .i64 k.last) ∧ True := ⟨p0, p1, p2, p3, p4, p5, trivial⟩
        go_wp2_with fail
        replace HZ := hid (HZ.out.on (bel_drew (Below.refl w1.heap.size w1)))
        refine wp_region_noPanic ?_
        refine zb (T := (fun v => v.cell? ⟨w.heap.size, 0, none⟩ = some (.int .i64 k.o) ∧ v.cell? ⟨w.heap.size, 1, none⟩ = some (.int .i64 k.l) ∧ v.cell? ⟨w.heap.size, 2, none⟩ = some (.int .i64 k.m) ∧ v.cell? ⟨w.heap.size, 3, none⟩ = some (.slice A k.ps.length cap) ∧ v.cell? ⟨w.heap.size, 4, none⟩ = some (.int .i64 k.base) ∧ v.cell? ⟨w.heap.size, 5, none⟩ = some (.int .i64 k.last) ∧ True)) 12 (by kernel_rfl) (t6_drew hS) (fun hHeld => ?_)
        refine zk 0 ?_
        refine zk 1 ?_
        refine zk 2 ?_
        refine zk 4 ?_
        refine zk 5 ?_
        refine zk 7 ?_
        refine zr (rs := [3]) ?_
        refine AllUp.cons (o := ?oz1_3) ?iz1_3 (fun K hK => ?sz1_3) AllUp.nil
        case iz1_3 => (simp only [List.getElem?_toArray, List.getElem?_cons_succ, List.getElem?_cons_zero]; rfl)
        (go_simp; (go_at_call 127; refine (HC.out _).mono ?_; rintro e wC ⟨rfl, hbC⟩; replace HZ := hid (HZ.out.on hbC)))
        refine hK.out _ _ (fun _ => ?kz1_3) (fun hHeld0 => ?_)
        case kz1_3 => (try dsimp only); (first | with_reducible assumption | with_reducible exact HZ.out.bx.cells6t | with_reducible exact (HZ.out.bx.alloc _).cells6t | exact t6_bel (by assumption) (by assumption) | assumption | exact t6_alloc (by assumption) _ | exact HZ.out.bx.cells6t | exact (HZ.out.bx.alloc _).cells6t)
        (try clear hHeld)
        have hHeld := hHeld0 (by decide)
        clear hHeld0 hK K
        try simp only [Act.put, List.setIfInBounds_toArray, List.set_cons_zero, List.set_cons_succ]
        refine zr (rs := [6]) ?_
        refine AllUp.cons (o := ?oz1_6) ?iz1_6 (fun K hK => ?sz1_6) AllUp.nil
        case iz1_6 => (simp only [List.getElem?_toArray, List.getElem?_cons_succ, List.getElem?_cons_zero]; rfl)
        (go_simp; (go_at_call 126; refine (HE.out _).mono ?_; rintro e wE ⟨rfl, hbE⟩; replace HZ := hid (HZ.out.on hbE)))
        refine hK.out _ _ (fun _ => ?kz1_6) (fun hHeld0 => ?_)
        case kz1_6 => (try dsimp only); (first | with_reducible assumption | with_reducible exact HZ.out.bx.cells6t | with_reducible exact (HZ.out.bx.alloc _).cells6t | exact t6_bel (by assumption) (by assumption) | assumption | exact t6_alloc (by assumption) _ | exact HZ.out.bx.cells6t | exact (HZ.out.bx.alloc _).cells6t)
        (try clear hHeld)
        have hHeld := hHeld0 (by decide)
        clear hHeld0 hK K
        try simp only [Act.put, List.setIfInBounds_toArray, List.set_cons_zero, List.set_cons_succ]
        refine zr (rs := [8]) ?_
        refine AllUp.cons (o := ?oz1_8) ?iz1_8 (fun K hK => ?sz1_8) AllUp.nil
        case iz1_8 => (simp only [List.getElem?_toArray, List.getElem?_cons_succ, List.getElem?_cons_zero]; rfl)
        (go_simp; (go_at_call 151; refine (HN.out _).mono ?_; rintro e wN ⟨rfl, hbN⟩; replace HZ := hid (HZ.out.on hbN)))
        refine hK.out _ _ (fun _ => ?kz1_8) (fun hHeld0 => ?_)
        case kz1_8 => (try dsimp only); (first | with_reducible assumption | with_reducible exact HZ.out.bx.cells6t | with_reducible exact (HZ.out.bx.alloc _).cells6t | exact t6_bel (by assumption) (by assumption) | assumption | exact t6_alloc (by assumption) _ | exact HZ.out.bx.cells6t | exact (HZ.out.bx.alloc _).cells6t)
        (try clear hHeld)
        have hHeld := hHeld0 (by decide)
        clear hHeld0 hK K
        try simp only [Act.put, List.setIfInBounds_toArray, List.set_cons_zero, List.set_cons_succ]
        refine zr (rs := [9]) ?_
        refine AllUp.cons (o := ?oz1_9) ?iz1_9 (fun K hK => ?sz1_9) AllUp.nil
        case iz1_9 => (simp only [List.getElem?_toArray, List.getElem?_cons_succ, List.getElem?_cons_zero]; rfl)
        (go_simp; (skip))
        refine hK.out _ _ (fun _ => ?kz1_9) (fun hHeld0 => ?_)
        case kz1_9 => (try dsimp only); (first | with_reducible assumption | with_reducible exact HZ.out.bx.cells6t | with_reducible exact (HZ.out.bx.alloc _).cells6t | exact t6_bel (by assumption) (by assumption) | assumption | exact t6_alloc (by assumption) _ | exact HZ.out.bx.cells6t | exact (HZ.out.bx.alloc _).cells6t)
        (try clear hHeld)
        have hHeld := hHeld0 (by decide)
        clear hHeld0 hK K
        try simp only [Act.put, List.setIfInBounds_toArray, List.set_cons_zero, List.set_cons_succ]
        refine zr (rs := [10]) ?_
        refine AllUp.cons (o := ?oz1_10) ?iz1_10 (fun K hK => ?sz1_10) AllUp.nil
        case iz1_10 => (simp only [List.getElem?_toArray, List.getElem?_cons_succ, List.getElem?_cons_zero]; rfl)
        (go_simp; (go_at_call 83; refine (c_num L B _ wN.heap.size 6 [-1, -2, C, C + 1, X, 9223372036854775807] _ (HZ.out.rd.alloc _) (by omega) (by exact intsAt_new wN _ _) rfl (by decide) (by decide) (by have := HZ.out.rd.lt; omega)).mono ?_; rintro e w2 ⟨y, rfl, hy, hr2, hg2⟩; replace HZ := hid ((HZ.out.on (bel_alloc (Below.refl _ _) _)).pick hB hB0 hr2 hg2); clear p0 p1 p2 p3 p4 p5 f0 f1 f2 f3 f4 f5; obtain ⟨p0, p1, p2, p3, p4, p5⟩ := HZ.out.bx.cells6; obtain ⟨f0, f1, f2, f3, f4, f5⟩ := HZ.out.bx.free6))
        refine hK.out _ _ (fun _ => ?kz1_10) (fun hHeld0 => ?_)
        case kz1_10 => (try dsimp only); (first | with_reducible assumption | with_reducible exact HZ.out.bx.cells6t | with_reducible exact (HZ.out.bx.alloc _).cells6t | exact t6_bel (by assumption) (by assumption) | assumption | exact t6_alloc (by assumption) _ | exact HZ.out.bx.cells6t | exact (HZ.out.bx.alloc _).cells6t)
        (try clear hHeld)
        have hHeld := hHeld0 (by decide)
        clear hHeld0 hK K
        try simp only [Act.put, List.setIfInBounds_toArray, List.set_cons_zero, List.set_cons_succ]
        refine zk 11 ?_
        refine zr (rs := [12]) ?_
        refine AllUp.cons (o := ?oz1_12) ?iz1_12 (fun K hK => ?sz1_12) AllUp.nil
        case iz1_12 => (simp only [List.getElem?_toArray, List.getElem?_cons_succ, List.getElem?_cons_zero]; rfl)
        (go_simp; (skip))
        refine hK.out _ _ (fun h => absurd rfl h) (fun _ => ?_)
        (try clear hHeld)
        clear hK K
        try simp only [Act.put, List.setIfInBounds_toArray, List.set_cons_zero, List.set_cons_succ]
        refine zd (by kernel_rfl) ?_ _
        refine NoPanic.normal ?_
        have hyb : -9223372036854775808 ≤ y ∧ y ≤ 9223372036854775807 := by simp at hy; omega
        clear hy hr2 hg2
        have HRx := hid (HZ.out.rx.far (R := w.heap.size) 5 (.int .i64 y) (by omega))
        have HBx := hid (HZ.out.bx.set_ 5 (.int .i64 y))
        obtain ⟨r0, r1, r2, r3, r4, r5⟩ := HRx.out.cells6
        obtain ⟨b0, b1, b2, b3, b4, b5⟩ := HBx.out.cells6
        obtain ⟨g0, g1, g2, g3, g4, g5⟩ := HRx.out.free6
        obtain ⟨j0, j1, j2, j3, j4, j5⟩ := (HRx.out.put6 (.int .i64 k.o) (.int .i64 k.l) (.int .i64 k.m) (.slice A k.ps.length cap) (.int .i64 k.base) (.int .i64 y)).cells6
        have Hrow := own_put6 (own_store_blk HZ.out.row HZ.out.bx tykn_tp 5 (.int .i64 y)) HRx.out tykn_tp (.int .i64 k.o) (.int .i64 k.l) (.int .i64 k.m) (.slice A k.ps.length cap) (.int .i64 k.base) (.int .i64 y)
        have Hrd := ((HZ.out.rd.set_ (b := w.heap.size) (by omega) 5 (.int .i64 y)).put6 (b := w.heap.size + 1) (by omega) (.int .i64 k.o) (.int .i64 k.l) (.int .i64 k.m) (.slice A k.ps.length cap) (.int .i64 k.base) (.int .i64 y)).more (show _ ≤ q + 50 by omega)
        have Hgr := grown_far6 (b := w.heap.size + 1) (grown_far HZ.out.gr (Nat.le_refl _) 5 (.int .i64 y)) (by omega) (.int .i64 k.o) (.int .i64 k.l) (.int .i64 k.m) (.slice A k.ps.length cap) (.int .i64 k.base) (.int .i64 y)
        have HF := hid (show BadOut w B0 L B q (.returned (.agg #[.int .i64 k.o, .int .i64 k.l, .int .i64 k.m, .slice A k.ps.length cap, .int .i64 k.base, .int .i64 y])) _ from BadOut.mk (⟨k.o, k.l, k.m, k.ps, k.base, y⟩ : Kn) rfl ⟨HW.out.pairs, HW.out.base, hyb, HW.out.len⟩ (by show k.ps.length ≤ 1000; omega) Hrow Hrd Hgr)
        clear Hrow Hrd Hgr
        go_wp2
        exact bodyPost_ret (v := .agg #[.int .i64 k.o, .int .i64 k.l, .int .i64 k.m, .slice A k.ps.length cap, .int .i64 k.base, .int .i64 y]) (by simp [results, Try.results98, go_sem, j0, j1, j2, j3, j4, j5]) rfl HF.out
      · skip
        have e2 : (x == 2) = false := eq_no (by omega)
        by_cases c3 : x = 3
        · skip
          have e3 : (x == 3) = true := eq_yes (by omega)
          clear c3
          have hS : w1.cell? ⟨w.heap.size, 0, none⟩ = some (.int .i64 k.o) ∧ w1.cell? ⟨w.heap.size, 1, none⟩ = some (.int .i64 k.l) ∧ w1.cell? ⟨w.heap.size, 2, none⟩ = some (.int .i64 k.m) ∧ w1.cell? ⟨w.heap.size, 3, none⟩ = some (.slice A k.ps.length cap) ∧ w1.cell? ⟨w.heap.size, 4, none⟩ = some (.int .i64 k.base) ∧ w1.cell? ⟨w.heap.size, 5, none⟩ = some (.int .i64 k.last) ∧ True := ⟨p0, p1, p2, p3, p4, p5, trivial⟩
          have hz1 : w.heap.size + 2 ≤ w1.heap.size := HZ.out.rx.lt
          have hAB : ∀ g off, A = some ⟨g, off, none⟩ → g ≠ B := HZ.out.own_ne hB
          replace HZ := hid (HZ.out.br (by omega) hz1)
          go_wp2_with fail
          replace HZ := hid (HZ.out.on' (bel_drew (Below.refl w1.heap.size w1)))
          refine wp_region_noPanic ?_
          refine zb (T := (fun v => v.cell? ⟨w.heap.size, 0, none⟩ = some (.int .i64 k.o) ∧ v.cell? ⟨w.heap.size, 1, none⟩ = some (.int .i64 k.l) ∧ v.cell? ⟨w.heap.size, 2, none⟩ = some (.int .i64 k.m) ∧ v.cell? ⟨w.heap.size, 3, none⟩ = some (.slice A k.ps.length cap) ∧ v.cell? ⟨w.heap.size, 4, none⟩ = some (.int .i64 k.base) ∧ v.cell? ⟨w.heap.size, 5, none⟩ = some (.int .i64 k.last) ∧ True)) 10 (by kernel_rfl) (t6_drew hS) (fun hHeld => ?_)
          refine zk 1 ?_
          refine zk 2 ?_
          refine zk 4 ?_
          refine zr (rs := [0]) ?_
          refine AllUp.cons (o := ?oz2_0) ?iz2_0 (fun K hK => ?sz2_0) AllUp.nil
          case iz2_0 => (simp only [List.getElem?_toArray, List.getElem?_cons_zero]; rfl)
          (go_simp; (replace HZ := hid (HZ.out.al (.cells #[] 139)); have HS := hid (show (w1.drew.alloc (.cells #[] 139)).ownsRow w1.heap.size 139 2 (.slice (some ⟨w1.heap.size, 0, none⟩) 0 0) 0 (prs []) from own_new w1.drew)))
          refine hK.out _ _ (fun _ => ?kz2_0) (fun hHeld0 => ?_)
          case kz2_0 => (try dsimp only); (first | with_reducible assumption | with_reducible exact HZ.out.bx.cells6t | with_reducible exact (HZ.out.bx.alloc _).cells6t | exact t6_bel (by assumption) (by assumption) | assumption | exact t6_alloc (by assumption) _ | exact HZ.out.bx.cells6t | exact (HZ.out.bx.alloc _).cells6t)
          (try clear hHeld)
          have hHeld := hHeld0 (by decide)
          clear hHeld0 hK K
          try simp only [Act.put, List.setIfInBounds_toArray, List.set_cons_zero, List.set_cons_succ]
          refine zr (rs := [3]) ?_
          refine AllUp.cons (o := ?oz2_3) ?iz2_3 (fun K hK => ?sz2_3) AllUp.nil
          case iz2_3 => (simp only [List.getElem?_toArray, List.getElem?_cons_succ, List.getElem?_cons_zero]; rfl)
          (refine step_pairs (by rfl) (.tmp 40) (.tmp 42) 30 (by rfl) w1.heap.size 139 Try.underlying30 Try.info_pair _ 0 [] (by rfl) HS.out A cap _ k.ps.length k.ps HZ.out.ps rfl (by rfl) (by simp; omega) HZ.out.le ?_; intro v9 w9 ho9 hb9 hg9; replace HZ := hid (HZ.out.on hb9); replace HS := hid ho9)
          refine hK.out _ _ (fun _ => ?kz2_3) (fun hHeld0 => ?_)
          case kz2_3 => (try dsimp only); (first | with_reducible assumption | with_reducible exact HZ.out.bx.cells6t | with_reducible exact (HZ.out.bx.alloc _).cells6t | exact t6_bel (by assumption) (by assumption) | assumption | exact t6_alloc (by assumption) _ | exact HZ.out.bx.cells6t | exact (HZ.out.bx.alloc _).cells6t)
          (try clear hHeld)
          have hHeld := hHeld0 (by decide)
          clear hHeld0 hK K
          try simp only [Act.put, List.setIfInBounds_toArray, List.set_cons_zero, List.set_cons_succ]
          refine zr (rs := [5]) ?_
          refine AllUp.cons (o := ?oz2_5) ?iz2_5 (fun K hK => ?sz2_5) AllUp.nil
          case iz2_5 => (simp only [List.getElem?_toArray, List.getElem?_cons_succ, List.getElem?_cons_zero]; rfl)
          (go_simp; (go_at_call 151; refine (HN.out _).mono ?_; rintro e wqN ⟨rfl, hbqN⟩; replace HZ := hid (HZ.out.on' hbqN); replace HS := hid (own_on HS.out hbqN)))
          refine hK.out _ _ (fun _ => ?kz2_5) (fun hHeld0 => ?_)
          case kz2_5 => (try dsimp only); (first | with_reducible assumption | with_reducible exact HZ.out.bx.cells6t | with_reducible exact (HZ.out.bx.alloc _).cells6t | exact t6_bel (by assumption) (by assumption) | assumption | exact t6_alloc (by assumption) _ | exact HZ.out.bx.cells6t | exact (HZ.out.bx.alloc _).cells6t)
          (try clear hHeld)
          have hHeld := hHeld0 (by decide)
          clear hHeld0 hK K
          try simp only [Act.put, List.setIfInBounds_toArray, List.set_cons_zero, List.set_cons_succ]
          refine zk 6 ?_
          refine zr (rs := [7]) ?_
          refine AllUp.cons (o := ?oz2_7) ?iz2_7 (fun K hK => ?sz2_7) AllUp.nil
          case iz2_7 => (simp only [List.getElem?_toArray, List.getElem?_cons_succ, List.getElem?_cons_zero]; rfl)
          (go_simp; (have HE := hid (ps_new wqN X 0 139); replace HS := hid (HS.out.alloc (.cells #[.int .i64 X, .int .i64 0] 139)); replace HZ := hid (HZ.out.al (.cells #[.int .i64 X, .int .i64 0] 139))))
          refine hK.out _ _ (fun _ => ?kz2_7) (fun hHeld0 => ?_)
          case kz2_7 => (try dsimp only); (first | with_reducible assumption | with_reducible exact HZ.out.bx.cells6t | with_reducible exact (HZ.out.bx.alloc _).cells6t | exact t6_bel (by assumption) (by assumption) | assumption | exact t6_alloc (by assumption) _ | exact HZ.out.bx.cells6t | exact (HZ.out.bx.alloc _).cells6t)
          (try clear hHeld)
          have hHeld := hHeld0 (by decide)
          clear hHeld0 hK K
          try simp only [Act.put, List.setIfInBounds_toArray, List.set_cons_zero, List.set_cons_succ]
          refine zr (rs := [8]) ?_
          refine AllUp.cons (o := ?oz2_8) ?iz2_8 (fun K hK => ?sz2_8) AllUp.nil
          case iz2_8 => (simp only [List.getElem?_toArray, List.getElem?_cons_succ, List.getElem?_cons_zero]; rfl)
          (refine step_pairs (by rfl) (.tmp 43) (.tmp 47) 30 (by rfl) w1.heap.size 139 Try.underlying30 Try.info_pair v9 (0 + k.ps.length) ([] ++ k.ps) (by rfl) HS.out (some ⟨wqN.heap.size, 0, none⟩) 1 _ 1 [(X, 0)] HE.out rfl (by rfl) (by simp; omega) HZ.out.le ?_; intro v8 w8 ho8r hb8 hg8; obtain ⟨A8, c8, NL, hNL, rfl, ho8⟩ := own_snocB ho8r; have HNL := hid hNL; clear hNL; replace HZ := hid (HZ.out.on hb8); clear p0 p1 p2 p3 p4 p5 f0 f1 f2 f3 f4 f5; obtain ⟨p0, p1, p2, p3, p4, p5⟩ := HZ.out.bx.cells6; obtain ⟨f0, f1, f2, f3, f4, f5⟩ := HZ.out.bx.free6)
          refine hK.out _ _ (fun _ => ?kz2_8) (fun hHeld0 => ?_)
          case kz2_8 => (try dsimp only); (first | with_reducible assumption | with_reducible exact HZ.out.bx.cells6t | with_reducible exact (HZ.out.bx.alloc _).cells6t | exact t6_bel (by assumption) (by assumption) | assumption | exact t6_alloc (by assumption) _ | exact HZ.out.bx.cells6t | exact (HZ.out.bx.alloc _).cells6t)
          (try clear hHeld)
          have hHeld := hHeld0 (by decide)
          clear hHeld0 hK K
          try simp only [Act.put, List.setIfInBounds_toArray, List.set_cons_zero, List.set_cons_succ]
          refine zk 9 ?_
          refine zr (rs := [10]) ?_
          refine AllUp.cons (o := ?oz2_10) ?iz2_10 (fun K hK => ?sz2_10) AllUp.nil
          case iz2_10 => (simp only [List.getElem?_toArray, List.getElem?_cons_succ, List.getElem?_cons_zero]; rfl)
          (go_simp; (skip))
          refine hK.out _ _ (fun h => absurd rfl h) (fun _ => ?_)
          (try clear hHeld)
          clear hK K
          try simp only [Act.put, List.setIfInBounds_toArray, List.set_cons_zero, List.set_cons_succ]
          refine zd (by kernel_rfl) ?_ _
          refine NoPanic.normal ?_
          have HRx := hid (HZ.out.rx.far (R := w.heap.size) 3 (.slice A8 NL c8) (by omega))
          have HBx := hid (HZ.out.bx.set_ 3 (.slice A8 NL c8))
          obtain ⟨r0, r1, r2, r3, r4, r5⟩ := HRx.out.cells6
          obtain ⟨b0, b1, b2, b3, b4, b5⟩ := HBx.out.cells6
          obtain ⟨g0, g1, g2, g3, g4, g5⟩ := HRx.out.free6
          obtain ⟨j0, j1, j2, j3, j4, j5⟩ := (HRx.out.put6 (.int .i64 k.o) (.int .i64 k.l) (.int .i64 k.m) (.slice A8 NL c8) (.int .i64 k.base) (.int .i64 k.last)).cells6
          have Hrow := own_put6 (own_store_blk (own_mono ho8 (show B0 ≤ w1.heap.size by omega)) HZ.out.bx tykn_tp 3 (.slice A8 NL c8)) HRx.out tykn_tp (.int .i64 k.o) (.int .i64 k.l) (.int .i64 k.m) (.slice A8 NL c8) (.int .i64 k.base) (.int .i64 k.last)
          have Hrd := ((HZ.out.rd.set_ (b := w.heap.size) (by omega) 3 (.slice A8 NL c8)).put6 (b := w.heap.size + 1) (by omega) (.int .i64 k.o) (.int .i64 k.l) (.int .i64 k.m) (.slice A8 NL c8) (.int .i64 k.base) (.int .i64 k.last)).more (show _ ≤ q + 50 by omega)
          have Hgr := grown_far6 (b := w.heap.size + 1) (grown_far HZ.out.gr (Nat.le_refl _) 3 (.slice A8 NL c8)) (by omega) (.int .i64 k.o) (.int .i64 k.l) (.int .i64 k.m) (.slice A8 NL c8) (.int .i64 k.base) (.int .i64 k.last)
          have HF := hid (show BadOut w B0 L B q (.returned (.agg #[.int .i64 k.o, .int .i64 k.l, .int .i64 k.m, .slice A8 NL c8, .int .i64 k.base, .int .i64 k.last])) _ from BadOut.mk (⟨k.o, k.l, k.m, k.ps ++ [(X, 0)], k.base, k.last⟩ : Kn) HNL.out ⟨psB_snoc HW.out.pairs (by show _ ≤ (X : Int) ∧ (X : Int) ≤ _; omega) (by show _ ≤ (0 : Int) ∧ (0 : Int) ≤ _; omega), HW.out.base, HW.out.last, by show (k.ps ++ [((X, 0) : Pr)]).length ≤ _; simp; omega⟩ (by show (k.ps ++ [((X, 0) : Pr)]).length ≤ 1000; simp; omega) Hrow Hrd Hgr)
          clear Hrow Hrd Hgr
          clear ho8 ho8r hg8 hb8 hg9 hb9 ho9 hS hAB HS HE HC HN HNL HW HSt
          go_wp2
          exact bodyPost_ret (v := .agg #[.int .i64 k.o, .int .i64 k.l, .int .i64 k.m, .slice A8 NL c8, .int .i64 k.base, .int .i64 k.last]) (by simp [results, Try.results98, go_sem, j0, j1, j2, j3, j4, j5]) rfl HF.out
        · skip
          have e3 : (x == 3) = false := eq_no (by omega)
          by_cases c4 : x = 4
          · skip
            have e4 : (x == 4) = true := eq_yes (by omega)
            clear c4
            have hS : w1.cell? ⟨w.heap.size, 0, none⟩ = some (.int .i64 k.o) ∧ w1.cell? ⟨w.heap.size, 1, none⟩ = some (.int .i64 k.l) ∧ w1.cell? ⟨w.heap.size, 2, none⟩ = some (.int .i64 k.m) ∧ w1.cell? ⟨w.heap.size, 3, none⟩ = some (.slice A k.ps.length cap) ∧ w1.cell? ⟨w.heap.size, 4, none⟩ = some (.int .i64 k.base) ∧ w1.cell? ⟨w.heap.size, 5, none⟩ = some (.int .i64 k.last) ∧ True := ⟨p0, p1, p2, p3, p4, p5, trivial⟩
            have hz1 : w.heap.size + 2 ≤ w1.heap.size := HZ.out.rx.lt
            have hAB : ∀ g off, A = some ⟨g, off, none⟩ → g ≠ B := HZ.out.own_ne hB
            replace HZ := hid (HZ.out.br (by omega) hz1)
            go_wp2_with fail
            replace HZ := hid (HZ.out.on' (bel_drew (Below.refl w1.heap.size w1)))
            refine wp_region_noPanic ?_
            refine zb (T := (fun v => v.cell? ⟨w.heap.size, 0, none⟩ = some (.int .i64 k.o) ∧ v.cell? ⟨w.heap.size, 1, none⟩ = some (.int .i64 k.l) ∧ v.cell? ⟨w.heap.size, 2, none⟩ = some (.int .i64 k.m) ∧ v.cell? ⟨w.heap.size, 3, none⟩ = some (.slice A k.ps.length cap) ∧ v.cell? ⟨w.heap.size, 4, none⟩ = some (.int .i64 k.base) ∧ v.cell? ⟨w.heap.size, 5, none⟩ = some (.int .i64 k.last) ∧ True)) 14 (by kernel_rfl) (t6_drew hS) (fun hHeld => ?_)
            refine zk 1 ?_
            refine zk 2 ?_
            refine zk 4 ?_
            refine zk 5 ?_
            refine zk 6 ?_
            refine zr (rs := [0]) ?_
            refine AllUp.cons (o := ?oz3_0) ?iz3_0 (fun K hK => ?sz3_0) AllUp.nil
            case iz3_0 => (simp only [List.getElem?_toArray, List.getElem?_cons_zero]; rfl)
            (go_simp; (replace HZ := hid (HZ.out.al (.cells #[] 139)); have HS := hid (show (w1.drew.alloc (.cells #[] 139)).ownsRow w1.heap.size 139 2 (.slice (some ⟨w1.heap.size, 0, none⟩) 0 0) 0 (prs []) from own_new w1.drew)))
            refine hK.out _ _ (fun _ => ?kz3_0) (fun hHeld0 => ?_)
            case kz3_0 => (try dsimp only); (first | with_reducible assumption | with_reducible exact HZ.out.bx.cells6t | with_reducible exact (HZ.out.bx.alloc _).cells6t | exact t6_bel (by assumption) (by assumption) | assumption | exact t6_alloc (by assumption) _ | exact HZ.out.bx.cells6t | exact (HZ.out.bx.alloc _).cells6t)
            (try clear hHeld)
            have hHeld := hHeld0 (by decide)
            clear hHeld0 hK K
            try simp only [Act.put, List.setIfInBounds_toArray, List.set_cons_zero, List.set_cons_succ]
            refine zr (rs := [3]) ?_
            refine AllUp.cons (o := ?oz3_3) ?iz3_3 (fun K hK => ?sz3_3) AllUp.nil
            case iz3_3 => (simp only [List.getElem?_toArray, List.getElem?_cons_succ, List.getElem?_cons_zero]; rfl)
            (refine step_pairs (by rfl) (.tmp 52) (.tmp 54) 30 (by rfl) w1.heap.size 139 Try.underlying30 Try.info_pair _ 0 [] (by rfl) HS.out A cap _ k.ps.length k.ps HZ.out.ps rfl (by rfl) (by simp; omega) HZ.out.le ?_; intro v9 w9 ho9 hb9 hg9; replace HZ := hid (HZ.out.on hb9); replace HS := hid ho9)
            refine hK.out _ _ (fun _ => ?kz3_3) (fun hHeld0 => ?_)
            case kz3_3 => (try dsimp only); (first | with_reducible assumption | with_reducible exact HZ.out.bx.cells6t | with_reducible exact (HZ.out.bx.alloc _).cells6t | exact t6_bel (by assumption) (by assumption) | assumption | exact t6_alloc (by assumption) _ | exact HZ.out.bx.cells6t | exact (HZ.out.bx.alloc _).cells6t)
            (try clear hHeld)
            have hHeld := hHeld0 (by decide)
            clear hHeld0 hK K
            try simp only [Act.put, List.setIfInBounds_toArray, List.set_cons_zero, List.set_cons_succ]
            refine zr (rs := [7]) ?_
            refine AllUp.cons (o := ?oz3_7) ?iz3_7 (fun K hK => ?sz3_7) AllUp.nil
            case iz3_7 => (simp only [List.getElem?_toArray, List.getElem?_cons_succ, List.getElem?_cons_zero]; rfl)
            (go_simp; (go_at_call 127; refine (HC.out _).mono ?_; rintro e wqC ⟨rfl, hbqC⟩; replace HZ := hid (HZ.out.on' hbqC); replace HS := hid (own_on HS.out hbqC)))
            refine hK.out _ _ (fun _ => ?kz3_7) (fun hHeld0 => ?_)
            case kz3_7 => (try dsimp only); (first | with_reducible assumption | with_reducible exact HZ.out.bx.cells6t | with_reducible exact (HZ.out.bx.alloc _).cells6t | exact t6_bel (by assumption) (by assumption) | assumption | exact t6_alloc (by assumption) _ | exact HZ.out.bx.cells6t | exact (HZ.out.bx.alloc _).cells6t)
            (try clear hHeld)
            have hHeld := hHeld0 (by decide)
            clear hHeld0 hK K
            try simp only [Act.put, List.setIfInBounds_toArray, List.set_cons_zero, List.set_cons_succ]
            refine zr (rs := [8]) ?_
            refine AllUp.cons (o := ?oz3_8) ?iz3_8 (fun K hK => ?sz3_8) AllUp.nil
            case iz3_8 => (simp only [List.getElem?_toArray, List.getElem?_cons_succ, List.getElem?_cons_zero]; rfl)
            (go_simp; (skip))
            refine hK.out _ _ (fun _ => ?kz3_8) (fun hHeld0 => ?_)
            case kz3_8 => (try dsimp only); (first | with_reducible assumption | with_reducible exact HZ.out.bx.cells6t | with_reducible exact (HZ.out.bx.alloc _).cells6t | exact t6_bel (by assumption) (by assumption) | assumption | exact t6_alloc (by assumption) _ | exact HZ.out.bx.cells6t | exact (HZ.out.bx.alloc _).cells6t)
            (try clear hHeld)
            have hHeld := hHeld0 (by decide)
            clear hHeld0 hK K
            try simp only [Act.put, List.setIfInBounds_toArray, List.set_cons_zero, List.set_cons_succ]
            refine zr (rs := [9]) ?_
            refine AllUp.cons (o := ?oz3_9) ?iz3_9 (fun K hK => ?sz3_9) AllUp.nil
            case iz3_9 => (simp only [List.getElem?_toArray, List.getElem?_cons_succ, List.getElem?_cons_zero]; rfl)
            (go_simp; (go_at_call 83; refine (c_num L B _ wqC.heap.size 2 [-1, C] _ (HZ.out.rd.alloc _) (by omega) (by exact intsAt_new wqC _ _) rfl (by decide) (by decide) (by have := HZ.out.rd.lt; omega)).mono ?_; rintro e w2 ⟨y, rfl, hy, hr2, hg2⟩; replace HZ := hid ((HZ.out.al _).pick hr2 hg2 hAB); replace HS := hid (own_grown1 (HS.out.alloc _) hg2 (by omega))))
            refine hK.out _ _ (fun _ => ?kz3_9) (fun hHeld0 => ?_)
            case kz3_9 => (try dsimp only); (first | with_reducible assumption | with_reducible exact HZ.out.bx.cells6t | with_reducible exact (HZ.out.bx.alloc _).cells6t | exact t6_bel (by assumption) (by assumption) | assumption | exact t6_alloc (by assumption) _ | exact HZ.out.bx.cells6t | exact (HZ.out.bx.alloc _).cells6t)
            (try clear hHeld)
            have hHeld := hHeld0 (by decide)
            clear hHeld0 hK K
            try simp only [Act.put, List.setIfInBounds_toArray, List.set_cons_zero, List.set_cons_succ]
            refine zk 10 ?_
            refine zr (rs := [11]) ?_
            refine AllUp.cons (o := ?oz3_11) ?iz3_11 (fun K hK => ?sz3_11) AllUp.nil
            case iz3_11 => (simp only [List.getElem?_toArray, List.getElem?_cons_succ, List.getElem?_cons_zero]; rfl)
            (go_simp; (have HE := hid (ps_new w2 0 y 139); replace HS := hid (HS.out.alloc (.cells #[.int .i64 0, .int .i64 y] 139)); replace HZ := hid (HZ.out.al (.cells #[.int .i64 0, .int .i64 y] 139))))
            refine hK.out _ _ (fun _ => ?kz3_11) (fun hHeld0 => ?_)
            case kz3_11 => (try dsimp only); (first | with_reducible assumption | with_reducible exact HZ.out.bx.cells6t | with_reducible exact (HZ.out.bx.alloc _).cells6t | exact t6_bel (by assumption) (by assumption) | assumption | exact t6_alloc (by assumption) _ | exact HZ.out.bx.cells6t | exact (HZ.out.bx.alloc _).cells6t)
            (try clear hHeld)
            have hHeld := hHeld0 (by decide)
            clear hHeld0 hK K
            try simp only [Act.put, List.setIfInBounds_toArray, List.set_cons_zero, List.set_cons_succ]
            refine zr (rs := [12]) ?_
            refine AllUp.cons (o := ?oz3_12) ?iz3_12 (fun K hK => ?sz3_12) AllUp.nil
            case iz3_12 => (simp only [List.getElem?_toArray, List.getElem?_cons_succ, List.getElem?_cons_zero]; rfl)
            (refine step_pairs (by rfl) (.tmp 55) (.tmp 63) 30 (by rfl) w1.heap.size 139 Try.underlying30 Try.info_pair v9 (0 + k.ps.length) ([] ++ k.ps) (by rfl) HS.out (some ⟨w2.heap.size, 0, none⟩) 1 _ 1 [(0, y)] HE.out rfl (by rfl) (by simp; omega) HZ.out.le ?_; intro v8 w8 ho8r hb8 hg8; obtain ⟨A8, c8, NL, hNL, rfl, ho8⟩ := own_snocB ho8r; have HNL := hid hNL; clear hNL; replace HZ := hid (HZ.out.on hb8); clear p0 p1 p2 p3 p4 p5 f0 f1 f2 f3 f4 f5; obtain ⟨p0, p1, p2, p3, p4, p5⟩ := HZ.out.bx.cells6; obtain ⟨f0, f1, f2, f3, f4, f5⟩ := HZ.out.bx.free6)
            refine hK.out _ _ (fun _ => ?kz3_12) (fun hHeld0 => ?_)
            case kz3_12 => (try dsimp only); (first | with_reducible assumption | with_reducible exact HZ.out.bx.cells6t | with_reducible exact (HZ.out.bx.alloc _).cells6t | exact t6_bel (by assumption) (by assumption) | assumption | exact t6_alloc (by assumption) _ | exact HZ.out.bx.cells6t | exact (HZ.out.bx.alloc _).cells6t)
            (try clear hHeld)
            have hHeld := hHeld0 (by decide)
            clear hHeld0 hK K
            try simp only [Act.put, List.setIfInBounds_toArray, List.set_cons_zero, List.set_cons_succ]
            refine zk 13 ?_
            refine zr (rs := [14]) ?_
            refine AllUp.cons (o := ?oz3_14) ?iz3_14 (fun K hK => ?sz3_14) AllUp.nil
            case iz3_14 => (simp only [List.getElem?_toArray, List.getElem?_cons_succ, List.getElem?_cons_zero]; rfl)
            (go_simp; (skip))
            refine hK.out _ _ (fun h => absurd rfl h) (fun _ => ?_)
            (try clear hHeld)
            clear hK K
            try simp only [Act.put, List.setIfInBounds_toArray, List.set_cons_zero, List.set_cons_succ]
            refine zd (by kernel_rfl) ?_ _
            refine NoPanic.normal ?_
            have hyb : -9223372036854775808 ≤ y ∧ y ≤ 9223372036854775807 := by simp at hy; omega
            have HRx := hid (HZ.out.rx.far (R := w.heap.size) 3 (.slice A8 NL c8) (by omega))
            have HBx := hid (HZ.out.bx.set_ 3 (.slice A8 NL c8))
            obtain ⟨r0, r1, r2, r3, r4, r5⟩ := HRx.out.cells6
            obtain ⟨b0, b1, b2, b3, b4, b5⟩ := HBx.out.cells6
            obtain ⟨g0, g1, g2, g3, g4, g5⟩ := HRx.out.free6
            obtain ⟨j0, j1, j2, j3, j4, j5⟩ := (HRx.out.put6 (.int .i64 k.o) (.int .i64 k.l) (.int .i64 k.m) (.slice A8 NL c8) (.int .i64 k.base) (.int .i64 k.last)).cells6
            have Hrow := own_put6 (own_store_blk (own_mono ho8 (show B0 ≤ w1.heap.size by omega)) HZ.out.bx tykn_tp 3 (.slice A8 NL c8)) HRx.out tykn_tp (.int .i64 k.o) (.int .i64 k.l) (.int .i64 k.m) (.slice A8 NL c8) (.int .i64 k.base) (.int .i64 k.last)
            have Hrd := ((HZ.out.rd.set_ (b := w.heap.size) (by omega) 3 (.slice A8 NL c8)).put6 (b := w.heap.size + 1) (by omega) (.int .i64 k.o) (.int .i64 k.l) (.int .i64 k.m) (.slice A8 NL c8) (.int .i64 k.base) (.int .i64 k.last)).more (show _ ≤ q + 50 by omega)
            have Hgr := grown_far6 (b := w.heap.size + 1) (grown_far HZ.out.gr (Nat.le_refl _) 3 (.slice A8 NL c8)) (by omega) (.int .i64 k.o) (.int .i64 k.l) (.int .i64 k.m) (.slice A8 NL c8) (.int .i64 k.base) (.int .i64 k.last)
            have HF := hid (show BadOut w B0 L B q (.returned (.agg #[.int .i64 k.o, .int .i64 k.l, .int .i64 k.m, .slice A8 NL c8, .int .i64 k.base, .int .i64 k.last])) _ from BadOut.mk (⟨k.o, k.l, k.m, k.ps ++ [(0, y)], k.base, k.last⟩ : Kn) HNL.out ⟨psB_snoc HW.out.pairs (by show _ ≤ (0 : Int) ∧ (0 : Int) ≤ _; omega) (by show _ ≤ (y : Int) ∧ (y : Int) ≤ _; omega), HW.out.base, HW.out.last, by show (k.ps ++ [((0, y) : Pr)]).length ≤ _; simp; omega⟩ (by show (k.ps ++ [((0, y) : Pr)]).length ≤ 1000; simp; omega) Hrow Hrd Hgr)
            clear Hrow Hrd Hgr
            clear ho8 ho8r hg8 hb8 hg9 hb9 ho9 hS hAB HS HE HC HN HNL HW HSt
            go_wp2
            exact bodyPost_ret (v := .agg #[.int .i64 k.o, .int .i64 k.l, .int .i64 k.m, .slice A8 NL c8, .int .i64 k.base, .int .i64 k.last]) (by simp [results, Try.results98, go_sem, j0, j1, j2, j3, j4, j5]) rfl HF.out
          · skip
            have e4 : (x == 4) = false := eq_no (by omega)
            have HRx := hid (HZ.out.rx)
            have HBx := hid (HZ.out.bx)
            obtain ⟨r0, r1, r2, r3, r4, r5⟩ := HRx.out.cells6
            obtain ⟨b0, b1, b2, b3, b4, b5⟩ := HBx.out.cells6
            obtain ⟨g0, g1, g2, g3, g4, g5⟩ := HRx.out.free6
            obtain ⟨j0, j1, j2, j3, j4, j5⟩ := (HRx.out.put6 (.int .i64 k.o) (.int .i64 k.l) (.int .i64 k.m) (.slice A k.ps.length cap) (.int .i64 k.base) (.int .i64 k.last)).cells6
            have Hrow := own_put6 (HZ.out.row) HRx.out tykn_tp (.int .i64 k.o) (.int .i64 k.l) (.int .i64 k.m) (.slice A k.ps.length cap) (.int .i64 k.base) (.int .i64 k.last)
            have Hrd := ((HZ.out.rd).put6 (b := w.heap.size + 1) (by omega) (.int .i64 k.o) (.int .i64 k.l) (.int .i64 k.m) (.slice A k.ps.length cap) (.int .i64 k.base) (.int .i64 k.last)).more (show _ ≤ q + 50 by omega)
            have Hgr := grown_far6 (b := w.heap.size + 1) (HZ.out.gr) (by omega) (.int .i64 k.o) (.int .i64 k.l) (.int .i64 k.m) (.slice A k.ps.length cap) (.int .i64 k.base) (.int .i64 k.last)
            have HF := hid (show BadOut w B0 L B q (.returned (.agg #[.int .i64 k.o, .int .i64 k.l, .int .i64 k.m, .slice A k.ps.length cap, .int .i64 k.base, .int .i64 k.last])) _ from BadOut.mk (k : Kn) rfl HW.out (by omega) Hrow Hrd Hgr)
            clear Hrow Hrd Hgr
            go_wp2
            exact bodyPost_ret (v := .agg #[.int .i64 k.o, .int .i64 k.l, .int .i64 k.m, .slice A k.ps.length cap, .int .i64 k.base, .int .i64 k.last]) (by simp [results, Try.results98, go_sem, j0, j1, j2, j3, j4, j5]) rfl HF.out
end Go.Proofs.Ytophlgnmfhoeiaa
