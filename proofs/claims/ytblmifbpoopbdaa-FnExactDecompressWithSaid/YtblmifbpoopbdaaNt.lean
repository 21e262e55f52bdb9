/- The contract of newFinder. No condition but that what is known is valid. -/
import Derived.Test.YtblmifbpoopbdaaNs
namespace Go.Proofs.Ytblmifbpoopbdaa
open Go.ChangeShapes Go.WideShapes Go.ChangeAt Go.RowKit Go.Joins
set_option linter.unusedVariables false

/-- the nodes of the first codes, ahead of all pairs -/
def nup (c : Int) (N : Nat → Nat) (i : Nat) : List Value := (List.range i).map (nodeAt c [] N)
theorem nup_succ (c : Int) (N : Nat → Nat) (i : Nat) : nup c N (i + 1) = nup c N i ++ [nodeAt c [] N i] := by simp [nup, List.range_succ]
theorem nup_same {c : Int} (hc : c ≤ 256) (N : Nat → Nat) (i g : Nat) : nup c (addN N i g) i = nup c N i := by
  unfold nup
  refine List.map_congr_left (fun j hj => ?_)
  have hj := List.mem_range.1 hj
  rcases Int.lt_or_le (j : Int) c with h | h
  · rw [nodeAt_lit hc _ h, nodeAt_lit hc _ h, addN_other (by omega)]
  · rw [nodeAt_mid _ h, nodeAt_mid _ h]
/-- the finder while its first nodes come in -/
structure NF (L fb : Nat) (k : Kn) (A : Option Addr) (cap : Nat) (A2 : Option Addr) (c2 i : Nat) (N : Nat → Nat) (bm : Nat) (wr : World) : Prop where
  bx : Blk wr fb 146 #[.int .i64 k.o, .int .i64 k.l, .int .i64 k.m, .slice A k.ps.length cap, .int .i64 k.base, .int .i64 k.last, .slice A2 i c2, .map (some bm)]
  row : wr.ownsRow L 182 2 (.slice A k.ps.length cap) k.ps.length (prs k.ps)
  nds : wr.ownsRow L 186 1 (.slice A2 i c2) i (nup k.c N i)
  node : ∀ r : Nat, r < i → (r : Int) < k.c → Blk wr (N r) 189 #[.int .i64 (r : Int), .pointer none] ∧ L ≤ N r
  mp : MapIs wr bm 0 (fun _ _ => none)
  lb : L ≤ fb
  mge : L ≤ bm
section
variable {L fb : Nat} {k : Kn} {A : Option Addr} {cap : Nat} {A2 : Option Addr} {c2 i : Nat} {N N' : Nat → Nat} {bm : Nat} {W w' w7 : World}
theorem NF.on (h : NF L fb k A cap A2 c2 i N bm W) (hb : Below W.heap.size W w') : NF L fb k A cap A2 c2 i N bm w' :=
  ⟨h.bx.on hb, own_on h.row hb, own_on h.nds hb, fun r h1 h2 => ⟨(h.node r h1 h2).1.on hb, (h.node r h1 h2).2⟩, h.mp.kept (grown_below none hb) (by simp), h.lb, h.mge⟩
theorem NF.bx7 (h : NF L fb k A cap A2 c2 i N bm W) (hg : W.grownBy w7 (Value.slice A2 i c2).ownBlock) : Blk w7 fb 146 #[.int .i64 k.o, .int .i64 k.l, .int .i64 k.m, .slice A k.ps.length cap, .int .i64 k.base, .int .i64 k.last, .slice A2 i c2, .map (some bm)] := by
  refine h.bx.grown hg (fun e => ?_)
  rcases own_apart_blk h.nds h.bx (by decide) with h1 | h1
  · rw [h1] at e; cases e
  · exact h1 e.symm
theorem NF.step (h : NF L fb k A cap A2 c2 i N bm W) (hN : nup k.c N' i = nup k.c N i) {X : Option Addr} (hX : nodeAt k.c [] N' i = .pointer X) (hnode : ∀ r : Nat, r < i + 1 → (r : Int) < k.c → Blk W (N' r) 189 #[.int .i64 (r : Int), .pointer none] ∧ L ≤ N' r) {A3 : Option Addr} {c3 : Nat}
    (hown : w7.ownsRow L 186 1 (.slice A3 (i + 1) c3) (i + 1) (nup k.c N i ++ [.pointer X])) (hg : W.grownBy w7 (Value.slice A2 i c2).ownBlock) : NF L fb k A cap A3 c3 (i + 1) N' bm (w7.setCell ⟨fb, 6, none⟩ (.slice A3 (i + 1) c3)) := by
  have hb := h.bx7 hg
  have hr7 := h.row.kept hg (own_apart h.row h.nds (by decide))
  have hne : some bm ≠ (Value.slice A2 i c2).ownBlock := by
    rcases own_ne_map h.nds h.mp with h1 | h1
    · rw [h1]; simp
    · exact fun e => h1 e.symm
  have hm7 := h.mp.kept hg hne
  refine ⟨hb.set_ 6 _, own_store_blk hr7 hb (by decide) 6 _, ?_, fun r h1 h2 => ?_, hm7.kept (grown_set (grown_refl w7 (some fb)) 6 _) (fun e => hb.ne_map hm7 (Option.some.inj e).symm), h.lb, h.mge⟩
  · rw [nup_succ, hN, hX]
    exact own_store_blk hown hb (by decide) 6 _
  · obtain ⟨h3, h4⟩ := hnode r h1 h2
    have h5 : Blk w7 (N' r) 189 #[.int .i64 (r : Int), .pointer none] := h3.grown hg (fun e => by
      rcases own_apart_blk h.nds h3 (by decide) with h6 | h6
      · rw [h6] at e; cases e
      · exact h6 e.symm)
    exact ⟨h5.far 6 _ (h5.ne_type hb (by decide)), h4⟩
/-- all first nodes are there -/
theorem NF.fq (hc : 0 ≤ k.c ∧ k.c ≤ 256) {nb : Nat} (h : NF L fb k A cap (some ⟨nb, 0, none⟩) c2 (k.c.toNat + 2) N bm W) : FQ L fb k A cap nb c2 (k.ps.take 0) N (fun _ => none) bm 0 W := by
  have e : top k.c (k.ps.take 0) = k.c.toNat + 2 := by simp [top]
  have hlt : ∀ r : Nat, Lst k.c (k.ps.take 0) r → (r : Int) < k.c := fun r hr => by
    have := hr.has
    unfold HasW at this
    simp at this
    omega
  refine ⟨by rw [e]; exact h.bx, h.row, ?_, ⟨fun r hr => ?_, fun r hr => (h.node r (by have := hlt r hr; omega) (hlt r hr)).2, fun r g hr hl => (by cases hl), fun r hr hl x hx => ?_, fun r r' g hr hr' hl => (by cases hl), ?_, h.mge⟩, h.lb⟩
  · rw [e]
    have h1 := h.nds
    have e2 : nodesL k.c (k.ps.take 0) N = nup k.c N (k.c.toNat + 2) := by rw [nodesL, e]; rfl
    rw [e2]; exact h1
  · exact (h.node r (by have := hlt r hr; omega) (hlt r hr)).1
  · refine fnd_no (fun j hj e3 => ?_)
    have h4 := congrArg List.length e3
    have h5 := hlt r hr
    have h8 : (r : Int) < k.c + 2 := by omega
    rw [List.length_append, word_lit _ _ _ h8] at h4
    have h6 : HasW k.c j 0 := by simpa using hj
    unfold HasW at h6
    have h7 : j < k.c + 2 := by omega
    rw [word_lit _ _ _ h7] at h4
    simp at h4
  · exact h.mp.same (fun r x _ _ => inMap_kept (by simp) N r x)
end
theorem NF.kat {L fb : Nat} {k : Kn} {A : Option Addr} {cap : Nat} {A2 : Option Addr} {c2 i : Nat} {N : Nat → Nat} {bm : Nat} {W : World} (h : NF L fb k A cap A2 c2 i N bm W) : KAt W fb k (.slice A k.ps.length cap) := by
  obtain ⟨p0, p1, p2, p3, p4, p5, _⟩ := h.bx.cells8
  exact ⟨h.bx.lt, p0, p1, p2, p3, p4, p5⟩
theorem Blk.row7 {w w7 : World} {b : Nat} {t e : TypeId} {cs : Array Value} {B size n : Nat} {v : Value} {xs : List Value} (h : Blk w b t cs) (ho : w.ownsRow B e size v n xs) (hg : w.grownBy w7 v.ownBlock) (ht : t ≠ e) : Blk w7 b t cs := h.grown hg (fun e1 => by
  rcases own_apart_blk ho h ht with h1 | h1
  · rw [h1] at e1; cases e1
  · exact h1 e1.symm)

set_option maxHeartbeats 4000000 in
set_option maxRecDepth 100000 in
theorem c_newFinder (k : Kn) (A0 : Option Addr) (cap0 L0 : Nat) (w : World) (hk : k.Ok) (hps : PsAt w L0 A0 cap0 k.ps) (hL0 : L0 ≤ w.heap.size) :
    Calls Try.prog 112 #[.agg #[.int .i64 k.o, .int .i64 k.l, .int .i64 k.m, .slice A0 k.ps.length cap0, .int .i64 k.base, .int .i64 k.last]] w fun e w' => Below w.heap.size w w' ∧ ∃ fb A cap nb cap2 N Lo bm n, e = .returned (.pointer (some ⟨fb, 0, none⟩)) ∧ n ≤ k.ps.length ∧ FQ w.heap.size fb k A cap nb cap2 k.ps N Lo bm n w' := by
  have hcb := hk.cbd
  have hlen := hk.len
  have hset := hk.set
  have HOC := hid (fun (v : World) (hb : Below w.heap.size w v) => c_ownCopy k A0 cap0 L0 v (hps.below hb hL0) (Nat.le_trans hL0 hb.size) (by omega))
  have HFw := hid (fun (fb : Nat) (A : Option Addr) (cap : Nat) (v : World) (hv : KAt v fb k (.slice A k.ps.length cap)) => c_firstWord fb k A cap v hk hv)
  have HIs := hid (fun (n : Int) (v : World) => c_isLiteral k.o k.l k.m n v hset)
  have ec : k.c = pow2 k.l := rfl
  obtain ⟨C, hC⟩ : ∃ C : Nat, (C : Int) = pow2 k.l := ⟨k.c.toNat, by omega⟩
  have HC := hid (show k.c = (C : Int) from ec.trans hC.symm)
  rw [← hC] at HFw HIs
  rw [HC.out] at hcb
  have HK := hid hk
  have HKN := hid (Blk.new w 27 #[.int .i64 k.o, .int .i64 k.l, .int .i64 k.m, .slice A0 k.ps.length cap0, .int .i64 k.base, .int .i64 k.last])
  clear hC ec hk hset hps
  obtain ⟨p0, p1, p2, p3, p4, p5⟩ := HKN.out.cells6
  go_enter Try.func112, Try.ntmps112
  go_wp2_with fail
  refine (HOC.out _ (by (repeat (first | with_reducible (first | assumption | exact Below.refl _ _ | refine bel_alloc ?_ _ | refine bel_drew ?_ | refine bel_drewN ?_ _ | refine bel_set ?_ (by first | omega | (simp; done) | (simp; omega)) _ | refine bel_trans ?_ (by assumption)) | assumption | refine bel_trans ?_ (by assumption))))).mono ?_
  rintro e w1 ⟨A, cap, rfl, hown, hb1⟩
  have HK1 := hid (HKN.out.on hb1)
  have B1 : Below w.heap.size w w1 := by (repeat (first | with_reducible (first | assumption | exact Below.refl _ _ | refine bel_alloc ?_ _ | refine bel_drew ?_ | refine bel_drewN ?_ _ | refine bel_set ?_ (by first | omega | (simp; done) | (simp; omega)) _ | refine bel_trans ?_ (by assumption)) | assumption | refine bel_trans ?_ (by assumption)))
  have HO1 := hid hown
  clear hb1 p0 p1 p2 p3 p4 p5 hown
  have hmk : (Instr.makeMap 144 none).run Try.prog w1 = .ok (.map (some w1.heap.size)) (w1.alloc (.map #[] 0)) := rfl
  have hb1m : Below w1.heap.size w1 ((w1.alloc (.map #[] 0)).alloc (.cells #[.int .i64 k.o, .int .i64 k.l, .int .i64 k.m, .slice A k.ps.length cap, .int .i64 k.base, .int .i64 k.last, .slice none 0 0, .map (some w1.heap.size)] 146)) := by (repeat (first | with_reducible (first | assumption | exact Below.refl _ _ | refine bel_alloc ?_ _ | refine bel_drew ?_ | refine bel_drewN ?_ _ | refine bel_set ?_ (by first | omega | (simp; done) | (simp; omega)) _ | refine bel_trans ?_ (by assumption)) | assumption | refine bel_trans ?_ (by assumption)))
  have HN0 := hid (show NF w.heap.size (w1.heap.size + 1) k A cap none 0 0 (fun _ => 0) w1.heap.size ((w1.alloc (.map #[] 0)).alloc (.cells #[.int .i64 k.o, .int .i64 k.l, .int .i64 k.m, .slice A k.ps.length cap, .int .i64 k.base, .int .i64 k.last, .slice none 0 0, .map (some w1.heap.size)] 146)) from
    ⟨Blk.top w1 (.map #[] 0) 146 #[.int .i64 k.o, .int .i64 k.l, .int .i64 k.m, .slice A k.ps.length cap, .int .i64 k.base, .int .i64 k.last, .slice none 0 0, .map (some w1.heap.size)], own_mono (own_on HO1.out hb1m) (by simp), World.ownsRow_nil _ _ _ 1, fun r hr => absurd hr (by omega), (MapIs.new w1).kept (grown_below none (bel_alloc (Below.refl _ _) _)) (by simp), by have := B1.size; omega, B1.size⟩)
  have HK2 := hid (HK1.out.on hb1m)
  have B2 : Below w.heap.size w ((w1.alloc (.map #[] 0)).alloc (.cells #[.int .i64 k.o, .int .i64 k.l, .int .i64 k.m, .slice A k.ps.length cap, .int .i64 k.base, .int .i64 k.last, .slice none 0 0, .map (some w1.heap.size)] 146)) := by (repeat (first | with_reducible (first | assumption | exact Below.refl _ _ | refine bel_alloc ?_ _ | refine bel_drew ?_ | refine bel_drewN ?_ _ | refine bel_set ?_ (by first | omega | (simp; done) | (simp; omega)) _ | refine bel_trans ?_ (by assumption)) | assumption | refine bel_trans ?_ (by assumption)))
  obtain ⟨p0, p1, p2, p3, p4, p5⟩ := HK1.out.cells6
  obtain ⟨u0, u1, u2, u3, u4, u5, u6, u7⟩ := HN0.out.bx.cells8
  go_wp2_with fail
  refine (HFw.out _ _ _ _ HN0.out.kat).mono ?_
  rintro e w3 ⟨rfl, hb3⟩
  have HN3 := hid (HN0.out.on hb3)
  have HK3 := hid (HK2.out.on hb3)
  have B3 : Below w.heap.size w w3 := bel_trans B2 hb3
  obtain ⟨fb, hfb⟩ : ∃ fb, fb = w1.heap.size + 1 := ⟨_, rfl⟩
  obtain ⟨bm, hbm⟩ : ∃ bm, bm = w1.heap.size := ⟨_, rfl⟩
  rw [← hfb] at HN3 ⊢
  rw [← hbm] at HN3
  clear hmk hb1m HN0 HK2 B2 hb3 hfb hbm p0 p1 p2 p3 p4 p5 u0 u1 u2 u3 u4 u5 u6 u7 HK1 HO1 HKN HOC HFw B1
  go_wp2_with fail
  go_loopw [15] (fun v wr => ∃ (i : Nat) (A2 : Option Addr) (c2 : Nat) (N : Nat → Nat), v = .int .i64 (i : Int) ∧ i ≤ C + 2 ∧ Hid (NF w.heap.size fb k A cap A2 c2 i N bm wr) ∧ Hid (Blk wr w.heap.size 27 #[.int .i64 k.o, .int .i64 k.l, .int .i64 k.m, .slice A0 k.ps.length cap0, .int .i64 k.base, .int .i64 k.last]) ∧ Below w.heap.size w wr) (fun v _ => C + 2 - (intOf v).toNat)
  case atStart => exact ⟨0, none, 0, _, rfl, by omega, HN3, HK3, B3⟩
  case round =>
    obtain ⟨i, A2, c2, N, rfl, hi, HN, HKw, hbel⟩ := hrel
    clear HN3 HK3 B3
    obtain ⟨p0, p1, p2, p3, p4, p5⟩ := HKw.out.cells6
    by_cases hlt : i < C + 2
    · skip
      by_cases hl : i < C
      · skip
        have HI := hid (fun (v : World) => HIs.out (i : Int) v)
        have hdec : decide (0 ≤ (i : Int) ∧ (i : Int) < (C : Int)) = true := decide_eq_true ⟨by omega, by omega⟩
        simp only [hdec] at HI
        clear hdec
        go_wp2_with fail
        refine (HI.out _).mono ?_
        rintro e wI ⟨rfl, hbI⟩
        have hal := bel_alloc (Below.refl _ wI) (.cells #[.int .i64 (i : Int), .pointer none] 189)
        have HNI := hid (HN.out.on hbI)
        have HN4 := hid (HNI.out.on hal)
        have HG := hid (Blk.new wI 189 #[.int .i64 (i : Int), .pointer none])
        have HK4 := hid ((HKw.out.on hbI).on hal)
        have bW : Below w.heap.size w (wI.alloc (.cells #[.int .i64 (i : Int), .pointer none] 189)) := bel_alloc (bel_trans hbel hbI) _
        have hzW := bW.size
        have hzI := (bel_trans hbel hbI).size
        have hzf := HNI.out.bx.lt
        clear p0 p1 p2 p3 p4 p5 hbI
        obtain ⟨p0, p1, p2, p3, p4, p5, p6, p7⟩ := HNI.out.bx.cells8
        obtain ⟨u0, u1, u2, u3, u4, u5, u6, u7⟩ := HN4.out.bx.cells8
        go_wp2_with (at_builtin; go_loud (refine app_ptr rfl (.tmp 29) (.tmp 31) 143 rfl w.heap.size 186 Try.underlying143 Try.info_ptr _ i (nup k.c N i) rfl HN4.out.nds (some ⟨wI.heap.size, 0, none⟩) 1 (by rw [World.size_alloc]; rfl) (by omega) hzW ?_; intro v7 w7 hown7 hb7 hg7; obtain ⟨A7, c7, rfl⟩ := own_sl hown7; have f7 := (HN4.out.bx7 hg7).frozen 6; have q7 := (HN4.out.bx7 hg7).cell 6))
        go_wp2
        go_roundw
        case rel =>
          have hlk : (i : Int) < k.c := by rw [HC.out]; omega
          have hck : k.c ≤ 256 := by rw [HC.out]; omega
          refine ⟨i + 1, A7, c7, addN N i wI.heap.size, by go_num, by omega, hid (HN4.out.step (nup_same hck N i _) (by rw [nodeAt_lit hck _ hlk, addN_same]; rfl) (fun r hr hrc => ?_) hown7 hg7), hid (((HK4.out.row7 HN4.out.nds hg7 (by decide)).far 6 _ ((HK4.out.row7 HN4.out.nds hg7 (by decide)).ne_type (HN4.out.bx7 hg7) (by decide)))), (bW.trans hb7).setCell HN4.out.lb _⟩
          by_cases hri : r = i
          · subst hri; rw [addN_same]; exact ⟨HG.out, hzI⟩
          · rw [addN_other hri]; exact HN4.out.node r (by omega) hrc
        case measure => simp [intOf]; omega
      · skip
        have HI := hid (fun (v : World) => HIs.out (i : Int) v)
        have hdec : decide (0 ≤ (i : Int) ∧ (i : Int) < (C : Int)) = false := decide_eq_false (by omega)
        simp only [hdec] at HI
        clear hdec
        go_wp2_with fail
        refine (HI.out _).mono ?_
        rintro e wI ⟨rfl, hbI⟩
        have HNI := hid (HN.out.on hbI)
        have HK4 := hid (HKw.out.on hbI)
        have bW : Below w.heap.size w wI := bel_trans hbel hbI
        have hzW := bW.size
        clear p0 p1 p2 p3 p4 p5 hbI
        obtain ⟨p0, p1, p2, p3, p4, p5, p6, p7⟩ := HNI.out.bx.cells8
        go_wp2_with (at_builtin; go_loud (refine app_ptr rfl (.tmp 29) (.tmp 31) 143 rfl w.heap.size 186 Try.underlying143 Try.info_ptr _ i (nup k.c N i) rfl HNI.out.nds none 1 rfl (by omega) hzW ?_; intro v7 w7 hown7 hb7 hg7; obtain ⟨A7, c7, rfl⟩ := own_sl hown7; have f7 := (HNI.out.bx7 hg7).frozen 6; have q7 := (HNI.out.bx7 hg7).cell 6))
        go_wp2
        go_roundw
        case rel =>
          have hlk : k.c ≤ (i : Int) := by rw [HC.out]; omega
          refine ⟨i + 1, A7, c7, N, by go_num, by omega, hid (HNI.out.step rfl (by rw [nodeAt_mid _ hlk]; rfl) (fun r hr hrc => HNI.out.node r (by omega) hrc) hown7 hg7), hid (((HK4.out.row7 HNI.out.nds hg7 (by decide)).far 6 _ ((HK4.out.row7 HNI.out.nds hg7 (by decide)).ne_type (HNI.out.bx7 hg7) (by decide)))), (bW.trans hb7).setCell HNI.out.lb _⟩
        case measure => simp [intOf]; omega
    · skip
      have hie : i = k.c.toNat + 2 := by rw [HC.out]; omega
      have hii : i = C + 2 := by omega
      have HN5 := hid HN.out
      obtain ⟨nb, hA2⟩ : ∃ nb, A2 = some ⟨nb, 0, none⟩ := by
        obtain ⟨g, cp, e, _⟩ := own_form HN.out.nds (by omega)
        simp at e
        exact ⟨g, e.1⟩
      subst hA2
      have HCu := hid (show Calls Try.prog 181 #[.pointer (some ⟨fb, 0, none⟩)] wr fun e w' => e = .returned (.tuple #[]) ∧ Below w.heap.size wr w' ∧ Calm wr w' ∧ ∃ nb' cap2' N' Lo' n', n' ≤ k.ps.length ∧ FQ w.heap.size fb k A cap nb' cap2' k.ps N' Lo' bm n' w' from
        c_catchUp w.heap.size fb k A cap nb c2 N (fun _ => none) bm 0 0 wr HK.out (Nat.zero_le _) hbel.size (Nat.le_refl _) (NF.fq (by rw [HC.out]; omega) (by have := HN.out; rw [hie] at this; exact this)))
      clear hie HN5 HN p0 p1 p2 p3 p4 p5
      subst hii
      go_wp2_with fail
      refine HCu.out.mono ?_
      rintro e w5 ⟨rfl, hb5, _, nb', cap2', N', Lo', n', hn', hF'⟩
      have HF' := hid hF'
      clear hF'
      go_wp2
      exact bodyPost_ret (v := .pointer (some ⟨fb, 0, none⟩)) (by simp [results, Try.results112, go_sem]) rfl ⟨hbel.trans hb5, fb, A, cap, nb', cap2', N', Lo', bm, n', rfl, hn', HF'.out⟩
end Go.Proofs.Ytblmifbpoopbdaa
