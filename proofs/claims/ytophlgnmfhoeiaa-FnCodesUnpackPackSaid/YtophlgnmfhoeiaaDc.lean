/- The contract of the model's own drawing of codes that can follow each other. -/
import Derived.Test.YtophlgnmfhoeiaaDn
import Derived.Test.YtophlgnmfhoeiaaGd
namespace Go.Proofs.Ytophlgnmfhoeiaa
open Go.ChangeShapes Go.WideShapes Go.ChangeAt Go.RowKit Go.Joins
set_option linter.unusedVariables false

def CodesOut (k : Kn) (most : Nat) (w : World) (L B q : Nat) (e : Ending) (w' : World) : Prop := ∃ (cs : List Int) (A : Option Addr) (cap : Nat), e = .returned (.slice A cs.length cap) ∧ k.good 0 cs = true ∧ cs.length ≤ most + 1 ∧ (∀ c ∈ cs, 0 ≤ c ∧ c ≤ 1023) ∧ w'.ownsRow w.heap.size 3 1 (.slice A cs.length cap) cs.length (cs.map iv) ∧ Rd 131 w' L B (q + 6 * most + 10) ∧ w.grownBy w' (some B)
/-- the drawing of codes under way -/
structure CdAt (w : World) (L B B0 q : Nat) (k0 : Kn) (cs : List Int) (k : Kn) (A : Option Addr) (cap : Nat) (v : Value) (wr : World) : Prop where
  bx : Blk wr w.heap.size 32 #[.int .i64 k.o, .int .i64 k.l, .int .i64 k.m, .slice A k.ps.length cap, .int .i64 k.base, .int .i64 k.last]
  row : wr.ownsRow B0 139 2 (.slice A k.ps.length cap) k.ps.length (prs k.ps)
  cd : wr.ownsRow (w.heap.size + 1) 3 1 v cs.length (cs.map iv)
  rd : Rd 131 wr L B q
  gr : w.grownBy wr (some B)
  dr : Drawn k0 cs
  eq : k = k0.runs cs
  bd : ∀ c ∈ cs, 0 ≤ c ∧ c ≤ 1023
section
variable {w : World} {L B B0 q q' : Nat} {k0 k k2 : Kn} {cs : List Int} {A A2 : Option Addr} {cap cap2 : Nat} {v v' : Value} {wr w' : World}
theorem CdAt.on (h : CdAt w L B B0 q k0 cs k A cap v wr) (hb : Below wr.heap.size wr w') : CdAt w L B B0 q k0 cs k A cap v w' :=
  ⟨h.bx.on hb, own_on h.row hb, own_on h.cd hb, h.rd.near hb, grown_trans h.gr (grown_below _ hb), h.dr, h.eq, h.bd⟩
theorem CdAt.pick (h : CdAt w L B B0 q k0 cs k A cap v wr) (hB : B < B0) (hBw : B < w.heap.size) (hr : Rd 131 w' L B q') (hg : wr.grownBy w' (some B)) : CdAt w L B B0 q' k0 cs k A cap v w' :=
  ⟨h.bx.grown hg (by simp; omega), own_grown1 h.row hg hB, own_grown1 h.cd hg (by omega), hr, grown_trans h.gr hg, h.dr, h.eq, h.bd⟩
theorem CdAt.more (h : CdAt w L B B0 q k0 cs k A cap v wr) (hq : q ≤ q') : CdAt w L B B0 q' k0 cs k A cap v wr := ⟨h.bx, h.row, h.cd, h.rd.more hq, h.gr, h.dr, h.eq, h.bd⟩
/-- a code more, not followed yet: what is known lags behind -/
structure CdMid (w : World) (L B B0 q : Nat) (k0 : Kn) (cs : List Int) (c : Int) (k : Kn) (A : Option Addr) (cap : Nat) (v : Value) (wr : World) : Prop where
  bx : Blk wr w.heap.size 32 #[.int .i64 k.o, .int .i64 k.l, .int .i64 k.m, .slice A k.ps.length cap, .int .i64 k.base, .int .i64 k.last]
  row : wr.ownsRow B0 139 2 (.slice A k.ps.length cap) k.ps.length (prs k.ps)
  cd : wr.ownsRow (w.heap.size + 1) 3 1 v (cs ++ [c]).length ((cs ++ [c]).map iv)
  rd : Rd 131 wr L B q
  gr : w.grownBy wr (some B)
  dr : Drawn k0 (cs ++ [c])
  eq : k.step c = k0.runs (cs ++ [c])
  bd : ∀ x ∈ cs ++ [c], 0 ≤ x ∧ x ≤ 1023
theorem CdAt.app {c : Int} (h : CdAt w L B B0 q k0 cs k A cap v wr) (hBw : B < w.heap.size) (hk : k.Ok) (hc : c = k.c ∨ k.Fol c) (ho : w'.ownsRow (w.heap.size + 1) 3 1 v' (cs.length + 1) ((cs ++ [c]).map iv)) (hb : Below (w.heap.size + 1) wr w') (hg : wr.grownBy w' v.ownBlock) :
    CdMid w L B B0 q k0 cs c k A cap v' w' := by
  have h2 := h
  have hz := h.gr.size
  have ec : k.c = k0.c := by rw [h.eq, Kn.runs_c]
  have hne : ∀ g, v.ownBlock = some g → w.heap.size + 1 ≤ g := fun g e => (h2.cd.lt g e).1
  refine ⟨h2.bx.below hb (by omega), h2.row.kept hg (own_apart h2.row h2.cd (by decide)), ?_, h2.rd.grown hg (fun g e => by have := hne g e; omega), grown_near h2.gr hb (by omega), h.dr.snoc (by rw [← h.eq]; exact hc), by rw [Kn.runs_snoc, ← h.eq], ?_⟩
  · rw [show (cs ++ [c]).length = cs.length + 1 from by simp]; exact ho
  · intro x hx
    rcases List.mem_append.1 hx with hx | hx
    · exact h.bd x hx
    · have : x = c := by simpa using hx
      subst this
      have hcb := hk.cbd
      have hgb := hk.great_bd
      rcases hc with rfl | hf
      · omega
      · have := (hk.fol_iff x).1 hf; omega
theorem CdMid.on {c : Int} (h : CdMid w L B B0 q k0 cs c k A cap v wr) (hb : Below wr.heap.size wr w') : CdMid w L B B0 q k0 cs c k A cap v w' :=
  ⟨h.bx.on hb, own_on h.row hb, own_on h.cd hb, h.rd.near hb, grown_trans h.gr (grown_below _ hb), h.dr, h.eq, h.bd⟩
theorem CdMid.put {c : Int} (h : CdMid w L B B0 q k0 cs c k A cap v wr) (hBw : B < w.heap.size) (ho : wr.ownsRow B0 139 2 (.slice A2 (k.step c).ps.length cap2) (k.step c).ps.length (prs (k.step c).ps)) :
    CdAt w L B B0 q k0 (cs ++ [c]) (k.step c) A2 cap2 v ((((((wr.setCell ⟨w.heap.size, 0, none⟩ (.int .i64 k.o)).setCell ⟨w.heap.size, 1, none⟩ (.int .i64 k.l)).setCell ⟨w.heap.size, 2, none⟩ (.int .i64 k.m)).setCell ⟨w.heap.size, 3, none⟩ (.slice A2 (k.step c).ps.length cap2)).setCell ⟨w.heap.size, 4, none⟩ (.int .i64 k.base)).setCell ⟨w.heap.size, 5, none⟩ (.int .i64 (k.step c).last)) := by
  refine ⟨?_, own_put6 ho h.bx tykn_tp _ _ _ _ _ _, own_put6 h.cd h.bx tykn_ti _ _ _ _ _ _, h.rd.put6 hBw _ _ _ _ _ _, grown_far6 h.gr (Nat.le_refl _) _ _ _ _ _ _, h.dr, h.eq, h.bd⟩
  have := h.bx.put6 (.int .i64 k.o) (.int .i64 k.l) (.int .i64 k.m) (.slice A2 (k.step c).ps.length cap2) (.int .i64 k.base) (.int .i64 (k.step c).last)
  rw [Kn.step_o, Kn.step_l, Kn.step_m, Kn.step_base]
  exact this
end
theorem CdAt.ends {w : World} {L B B0 q : Nat} {k0 k : Kn} {cs : List Int} {A : Option Addr} {cap : Nat} {v v' : Value} {wr w' : World} {c : Int} (h : CdAt w L B B0 q k0 cs k A cap v wr) (hBw : B < w.heap.size) (ho : w'.ownsRow (w.heap.size + 1) 3 1 v' (cs.length + 1) ((cs ++ [c]).map iv)) (hb : Below (w.heap.size + 1) wr w') (hg : wr.grownBy w' v.ownBlock) :
    w'.ownsRow w.heap.size 3 1 v' (cs ++ [c]).length ((cs ++ [c]).map iv) ∧ Rd 131 w' L B q ∧ w.grownBy w' (some B) := by
  have h2 := h
  have hne : ∀ g, v.ownBlock = some g → w.heap.size + 1 ≤ g := fun g e => (h2.cd.lt g e).1
  refine ⟨?_, h2.rd.grown hg (fun g e => by have := hne g e; omega), grown_near h2.gr hb (by omega)⟩
  rw [show (cs ++ [c]).length = cs.length + 1 from by simp]; exact own_mono ho (by omega)
theorem Drawn.fine {k : Kn} {cs : List Int} (hk : k.Ok) (hl : k.ps.length ≤ 14) (h : Drawn k cs) (hn : cs.length ≤ 24) : k.good 0 cs = true ∧ k.good 0 (cs ++ [k.c + 1]) = true := by
  have h1 := (h.sz hk 38 (by omega)).1
  have h2 : 0 + k.szs cs ≤ 2000 := by
    have : cs.length * 40 ≤ 24 * 40 := Nat.mul_le_mul_right _ hn
    omega
  refine ⟨?_, ?_⟩
  · have := h.good (t := []) hk 0 h2
    rw [List.append_nil] at this
    rw [this, Kn.good]
  · have := h.good (t := [k.c + 1]) hk 0 h2
    rw [this, ← Kn.runs_c k cs, Kn.good_end]; rfl
def CRel (w : World) (L B B0 q most : Nat) (k0 : Kn) (v m : Value) (wr : World) : Prop := ∃ (cs : List Int) (k : Kn) (A : Option Addr) (cap j : Nat), m = .int .i64 j ∧ cs.length + j ≤ most ∧ CdAt w L B B0 (q + 1 + 6 * cs.length) k0 cs k A cap v wr

set_option maxHeartbeats 8000000 in
set_option maxRecDepth 100000 in
theorem c_l2Codes (L B q B0 most : Nat) (k0 : Kn) (A0 : Option Addr) (cap0 : Nat) (w : World) (hr : Rd 131 w L B q) (hq : q ≤ 1000000) (hm : most ≤ 24) (hrow : w.ownsRow B0 139 2 (.slice A0 k0.ps.length cap0) k0.ps.length (prs k0.ps)) (hB : B < B0) (hB0 : B0 ≤ w.heap.size) (hk : k0.Ok) (hl : k0.ps.length ≤ 14) :
    Calls Try.prog 123 #[.pointer (some ⟨B, 0, none⟩), .agg #[.int .i64 k0.o, .int .i64 k0.l, .int .i64 k0.m, .slice A0 k0.ps.length cap0, .int .i64 k0.base, .int .i64 k0.last], .int .i64 (most : Int)] w (CodesOut k0 most w L B q) := by
  have hBw := hr.lt
  have HK := hid hk
  have HI := hid (show CdAt w L B B0 q k0 [] k0 A0 cap0 (.slice (some ⟨w.heap.size + 1, 0, none⟩) 0 0) ((w.alloc (.cells #[.int .i64 k0.o, .int .i64 k0.l, .int .i64 k0.m, .slice A0 k0.ps.length cap0, .int .i64 k0.base, .int .i64 k0.last] 32)).alloc (.cells #[] 3)) from ⟨(Blk.new w _ _).alloc _, (hrow.alloc _).alloc _, by have := World.ownsRow_made (e := 3) (size := 1) (base := w.heap.size + 1) (w.alloc (.cells #[.int .i64 k0.o, .int .i64 k0.l, .int .i64 k0.m, .slice A0 k0.ps.length cap0, .int .i64 k0.base, .int .i64 k0.last] 32)) #[] 0 (by simp) (by simp [maxLen]) rfl; simpa using this, (hr.alloc _).alloc _, grown_alloc (grown_alloc (grown_refl w _) _) _, trivial, rfl, by simp⟩)
  clear hr hrow hk
  obtain ⟨W1, hW1⟩ : ∃ W1, W1 = (w.alloc (.cells #[.int .i64 k0.o, .int .i64 k0.l, .int .i64 k0.m, .slice A0 k0.ps.length cap0, .int .i64 k0.base, .int .i64 k0.last] 32)).alloc (.cells #[] 3) := ⟨_, rfl⟩
  rw [← hW1] at HI
  go_enter Try.func123, Try.ntmps123
  go_wp2_with fail
  rw [← hW1]
  clear hW1
  refine (c_pick L B q (most + 1) _ HI.out.rd (by omega) (by omega)).mono ?_
  rintro e w1 ⟨x, rfl, hx0, hx1, _, hr1, hg1⟩
  have hx2 := hx1 (by omega)
  obtain ⟨X, rfl⟩ := Int.eq_ofNat_of_zero_le hx0
  replace HI := hid (HI.out.pick hB hBw hr1 hg1)
  have HR := hid (show CRel w L B B0 q most k0 (.slice (some ⟨w.heap.size + 1, 0, none⟩) 0 0) (.int .i64 (X : Int)) w1 from ⟨[], k0, A0, cap0, X, rfl, by simp; omega, HI.out.more (by simp)⟩)
  clear hx1 hr1 hg1 HI
  go_wp2_with fail
  go_loopw [7, 8] (fun v m wr => CRel w L B B0 q most k0 v m wr) (fun _ m _ => (intOf m).toNat)
  case atStart => exact HR.out
  case round =>
    obtain ⟨cs, k, A, cap, j, rfl, hj, hD⟩ := hrel
    clear HR
    have HKk := hid (show k.Ok by rw [hD.eq]; exact hD.dr.ok HK.out)
    have HD := hid hD
    clear hD
    obtain ⟨p0, p1, p2, p3, p4, p5⟩ := HD.out.bx.cells6
    by_cases hlt : 0 < j
    · skip
      go_wp2_with fail
      refine (c_l2Pick L B _ k A cap _ HD.out.rd (by omega) HKk.out).mono ?_
      rintro e w2 ⟨code, rfl, hf, hr2, hg2⟩
      replace HD := hid (HD.out.pick hB hBw hr2 hg2)
      have HF := hid hf
      clear hr2 hg2 hf p0 p1 p2 p3 p4 p5
      obtain ⟨p0, p1, p2, p3, p4, p5⟩ := HD.out.bx.cells6
      go_wp2_with fail
      refine (c_pick L B _ 12 _ HD.out.rd (by omega) (by decide)).mono ?_
      rintro e w3 ⟨y, rfl, hy0, hy1, _, hr3, hg3⟩
      replace HD := hid (HD.out.pick hB hBw hr3 hg3)
      clear hr3 hg3 hy1 p0 p1 p2 p3 p4 p5
      obtain ⟨p0, p1, p2, p3, p4, p5⟩ := HD.out.bx.cells6
      by_cases hy : y = 0
      · skip
        have e0 : (y == 0) = true := eq_yes hy
        clear hy
        have HCl := hid (fun (v : World) => c_l1Clear k.o k.l k.m v (by have := (setOk_iff.1 HKk.out.set); omega) (by have := (setOk_iff.1 HKk.out.set); omega))
        have hcl : pow2 k.l = k.c ∨ k.Fol (pow2 k.l) := .inl rfl
        obtain ⟨C, hC⟩ : ∃ C, C = pow2 k.l := ⟨_, rfl⟩
        rw [← hC] at HCl hcl
        have HFc := hid hcl
        clear hC hcl
        go_wp2_with fail
        refine (HCl.out _).mono ?_
        rintro e w4 ⟨rfl, hb4⟩
        replace HD := hid (HD.out.on hb4)
        clear hb4 p0 p1 p2 p3 p4 p5
        obtain ⟨p0, p1, p2, p3, p4, p5⟩ := HD.out.bx.cells6
        go_wp2_with (at_builtin; go_loud (refine app_int rfl (.tmp 28) (.tmp 30) 43 rfl (w.heap.size + 1) 3 Try.underlying43 Try.info_int _ cs.length cs rfl HD.out.cd C _ rfl 1 rfl (by omega) (by have := HD.out.bx.lt; omega) ?_; intro v7 w7 hown7 hb7 hg7; have HM := hid (HD.out.app hBw HKk.out HFc.out hown7 hb7 hg7); clear hown7 hb7 hg7 HD p0 p1 p2 p3 p4 p5; obtain ⟨p0, p1, p2, p3, p4, p5⟩ := HM.out.bx.cells6))
        refine (c_l2Step k A cap _ _ (own_ps_at HM.out.row) (Nat.le_refl _) HKk.out C HFc.out).mono ?_
        rintro e w8 ⟨A8, c8, rfl, ho8, hb8⟩
        have hz8 := HM.out.gr.size
        have HO8 := hid (own_mono ho8 (show B0 ≤ w7.heap.size by omega))
        replace HM := hid (HM.out.on hb8)
        clear ho8 hb8 p0 p1 p2 p3 p4 p5
        obtain ⟨p0, p1, p2, p3, p4, p5⟩ := HM.out.bx.cells6
        obtain ⟨f0, f1, f2, f3, f4, f5⟩ := HM.out.bx.free6
        have HP := hid (HM.out.put hBw HO8.out)
        clear HM HO8 HF HFc
        go_wp2
        go_roundw
        case rel => exact ⟨cs ++ [C], k.step C, A8, c8, j - 1, by go_num, by simp; omega, HP.out.more (by simp; omega)⟩
        case measure => simp [intOf]; omega
      · skip
        have e0 : (y == 0) = false := eq_no (by omega)
        clear hy
        have HFc := hid (show code = k.c ∨ k.Fol code from .inr HF.out)
        go_wp2_with (at_builtin; go_loud (refine app_int rfl (.tmp 28) (.tmp 30) 43 rfl (w.heap.size + 1) 3 Try.underlying43 Try.info_int _ cs.length cs rfl HD.out.cd code _ rfl 1 rfl (by omega) (by have := HD.out.bx.lt; omega) ?_; intro v7 w7 hown7 hb7 hg7; have HM := hid (HD.out.app hBw HKk.out HFc.out hown7 hb7 hg7); clear hown7 hb7 hg7 HD p0 p1 p2 p3 p4 p5; obtain ⟨p0, p1, p2, p3, p4, p5⟩ := HM.out.bx.cells6))
        refine (c_l2Step k A cap _ _ (own_ps_at HM.out.row) (Nat.le_refl _) HKk.out code HFc.out).mono ?_
        rintro e w8 ⟨A8, c8, rfl, ho8, hb8⟩
        have hz8 := HM.out.gr.size
        have HO8 := hid (own_mono ho8 (show B0 ≤ w7.heap.size by omega))
        replace HM := hid (HM.out.on hb8)
        clear ho8 hb8 p0 p1 p2 p3 p4 p5
        obtain ⟨p0, p1, p2, p3, p4, p5⟩ := HM.out.bx.cells6
        obtain ⟨f0, f1, f2, f3, f4, f5⟩ := HM.out.bx.free6
        have HP := hid (HM.out.put hBw HO8.out)
        clear HM HO8 HF HFc
        go_wp2
        go_roundw
        case rel => exact ⟨cs ++ [code], k.step code, A8, c8, j - 1, by go_num, by simp; omega, HP.out.more (by simp; omega)⟩
        case measure => simp [intOf]; omega
    · skip
      go_wp2_with fail
      refine (c_pick L B _ 5 _ HD.out.rd (by omega) (by decide)).mono ?_
      rintro e w2 ⟨y, rfl, hy0, hy1, _, hr2, hg2⟩
      replace HD := hid (HD.out.pick hB hBw hr2 hg2)
      clear hr2 hg2 hy1 p0 p1 p2 p3 p4 p5
      obtain ⟨p0, p1, p2, p3, p4, p5⟩ := HD.out.bx.cells6
      have hfine := HD.out.dr.fine HK.out hl (by omega)
      by_cases hy : 0 < y
      · skip
        have hec : k.c = k0.c := by rw [HD.out.eq, Kn.runs_c]
        have HEn := hid (fun (v : World) => c_l1End k.o k.l k.m v (by have := (setOk_iff.1 HKk.out.set); omega) (by have := (setOk_iff.1 HKk.out.set); omega))
        have hce : pow2 k.l + 1 = k0.c + 1 := by rw [← hec]; rfl
        have hcb := HK.out.cbd
        obtain ⟨C, hC⟩ : ∃ C, C = pow2 k.l := ⟨_, rfl⟩
        rw [← hC] at HEn hce
        have HX := hid (And.intro hce (And.intro hfine.2 hcb))
        clear hC hce hec hfine hcb
        go_wp2_with fail
        refine (HEn.out _).mono ?_
        rintro e w4 ⟨rfl, hb4⟩
        replace HD := hid (HD.out.on hb4)
        clear hb4 p0 p1 p2 p3 p4 p5
        obtain ⟨p0, p1, p2, p3, p4, p5⟩ := HD.out.bx.cells6
        go_wp2_with (at_builtin; go_loud (refine app_int rfl (.tmp 38) (.tmp 42) 43 rfl (w.heap.size + 1) 3 Try.underlying43 Try.info_int _ cs.length cs rfl HD.out.cd (C + 1) _ rfl 1 rfl (by omega) (by have := HD.out.bx.lt; omega) ?_; intro v7 w7 hown7 hb7 hg7; obtain ⟨A7, c7, rfl⟩ := own_sl hown7; have HM := hid (HD.out.ends hBw hown7 hb7 hg7)))
        go_wp2
        go_ret
        obtain ⟨x1, x2, x3⟩ := HM.out
        obtain ⟨y1, y2, y3⟩ := HX.out
        rw [y1] at x1
        refine ⟨cs ++ [k0.c + 1], A7, c7, by simp, y2, by simp; omega, ?_, ?_, x2.more (by omega), x3⟩
        · intro c hc
          rcases List.mem_append.1 hc with hc | hc
          · exact HD.out.bd c hc
          · have : c = k0.c + 1 := by simpa using hc
            omega
        · simpa using x1
      · skip
        go_wp2
        go_ret
        obtain ⟨A9, c9, hv⟩ := own_sl HD.out.cd
        exact ⟨cs, A9, c9, (by first | exact congrArg Ending.returned hv | simp [hv] | (simp; exact hv)), hfine.1, by omega, HD.out.bd, hv ▸ own_mono HD.out.cd (show w.heap.size ≤ w.heap.size + 1 by omega), HD.out.rd.more (by omega), HD.out.gr⟩
end Go.Proofs.Ytophlgnmfhoeiaa
