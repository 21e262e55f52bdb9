/- The contract of follow at a code with a word. No condition but that what is known is valid. -/
import Derived.Test.YtoiifopjipfjhaaFw
import Derived.Deep.RegionLaw
namespace Go.Proofs.Ytoiifopjipfjhaa
open Go.ChangeShapes Go.WideShapes Go.ChangeAt Go.RowKit Go.Joins
set_option linter.unusedVariables false

theorem KAt.blk {w w' : World} {b : Nat} {t : TypeId} {cs : Array Value} {k : Kn} {sl : Value} (hk : Blk w b t cs) (h : KAt w b k sl) (hk' : Blk w' b t cs) : KAt w' b k sl := by
  obtain ⟨_, q0, q1, q2, q3, q4, q5⟩ := h
  rw [hk.cell] at q0 q1 q2 q3 q4 q5
  exact ⟨hk'.lt, (hk'.cell 0).trans q0, (hk'.cell 1).trans q1, (hk'.cell 2).trans q2, (hk'.cell 3).trans q3, (hk'.cell 4).trans q4, (hk'.cell 5).trans q5⟩
theorem set_same {α : Type} {cs : Array α} {i : Nat} {v : α} (h : cs[i]? = some v) : cs.setIfInBounds i v = cs := by
  apply Array.ext_getElem?
  intro j
  rw [Array.getElem?_setIfInBounds]
  split
  · rename_i e; subst e; rw [h]; simp [(Array.getElem?_eq_some_iff.1 h).1]
  · rfl

theorem own_not_blk {w : World} {B : Nat} {e t : TypeId} {size m n cap b : Nat} {A : Option Addr} {xs : List Value} {cs : Array Value} (h : w.ownsRow B e size (.slice A m cap) n xs) (hk : Blk w b t cs) (ht : t ≠ e) : (Value.slice A m cap).ownBlock = none ∨ (Value.slice A m cap).ownBlock ≠ some b := by
  rcases h.2 with ⟨e1, _⟩ | ⟨g, cap', cur, e1, _, hh, _⟩
  · simp at e1
    rw [e1.1]
    exact Or.inl rfl
  · simp at e1
    rw [e1.1]
    refine Or.inr (fun e2 => ht ?_)
    have e3 : g = b := by simpa [Value.ownBlock] using e2
    subst e3
    have e4 := hk.symm.trans hh
    simp at e4
    exact e4.2

set_option maxHeartbeats 4000000 in
set_option maxRecDepth 100000 in
theorem c_follow_code (b B : Nat) (t : TypeId) (cs : Array Value) (k : Kn) (A : Option Addr) (cap : Nat) (w : World) (h : k.Ok) (hB : Blk w b t cs) (hk : KAt w b k (.slice A k.ps.length cap)) (hps : PsAt w w.heap.size A cap k.ps) (hown : w.ownsRow B 41 2 (.slice A k.ps.length cap) k.ps.length (prs k.ps)) (hBw : B ≤ w.heap.size) (hne : ∀ g, A = some ⟨g, 0, none⟩ → g ≠ b) (ht : t ≠ 41) (code : Int) (hc : k.Fol code) :
    Calls Try.prog 111 #[.pointer (some ⟨b, 0, none⟩), .int .i64 code] w fun e w' => e = .returned (.tuple #[]) ∧ ∃ A' cap', Blk w' b t ((cs.setIfInBounds 3 (.slice A' (k.after code).ps.length cap')).setIfInBounds 5 (.int .i64 (k.after code).last)) ∧ w'.ownsRow B 41 2 (.slice A' (k.after code).ps.length cap') (k.after code).ps.length (prs (k.after code).ps) ∧ Near w w' b (Value.slice A k.ps.length cap).ownBlock := by
  have hlen := h.len
  have hcb := h.cbd
  have hfi := (h.fol_iff code).1 hc
  have HCl := hid (fun (v : World) => c_ClearCode_yes k.o k.l k.m v h.set)
  have HG := hid (fun (v : World) (hv : KAt v b k (.slice A k.ps.length cap)) => c_grows b k A cap v h hv)
  have HF := hid (fun (v : World) (hv : KAt v b k (.slice A k.ps.length cap)) (hb : Below w.heap.size w v) => c_firstByte b k A cap w.heap.size v h hv (hps.below hb (Nat.le_refl _)) hb.size code hc)
  have hne2 : (code == pow2 k.l) = false := by rw [beq_eq_false_iff_ne]; exact hfi.2.2.1
  have hA : A = none ∨ ∃ g, A = some ⟨g, 0, none⟩ ∧ B ≤ g ∧ g < w.heap.size := by
    obtain ⟨A2, c2, e1, _, _, e2⟩ := own_ps hown
    simp at e1
    rw [e1.1]; exact e2
  have HK := hid hB
  have HT := hid hk
  have HO := hid hown
  have hb := hk.1
  have hrow : (Value.slice A k.ps.length cap).ownBlock = none ∨ (Value.slice A k.ps.length cap).ownBlock ≠ some b := by
    rcases hA with rfl | ⟨g, rfl, _, _⟩
    · exact Or.inl rfl
    · exact Or.inr (fun e => hne g rfl (by simpa [Value.ownBlock] using e))
  have HR := hid hrow
  have HR3 : Hid (some b ≠ (Value.slice A k.ps.length cap).ownBlock) := hid (by rcases hrow with e | e <;> intro e2 <;> simp_all)
  clear hB hk hown hps hA hrow hfi hcb
  cases hg : k.grows with
  | false =>
    simp only [hg] at HG
    have hps2 : (k.after code).ps = k.ps := by simp [Kn.after, hg]
    have HP2 := hid hps2
    clear hg hps2
    obtain ⟨_, q0, q1, q2, q3, q4, q5⟩ := HT.out
    go_enter Try.func111, Try.ntmps111
    go_wp2_with fail
    refine (HCl.out _).mono ?_
    rintro e w1 ⟨rfl, hb1⟩
    go_wp2_with fail
    refine (HG.out _ (HT.out.on hb1 hb)).mono ?_
    rintro e w2 ⟨rfl, hb2⟩
    have hB2 := (HK.out.on hb1).on hb2
    obtain ⟨_, r0, r1, r2, r3, r4, r5⟩ := (HT.out.on hb1 hb).on hb2 (Nat.lt_of_lt_of_le hb hb1.size)
    have g5 := hB2.frozen 5
    clear q0 q1 q2 q3 q4 q5
    go_wp2
    have ho := (own_on (own_on HO.out hb1) hb2).kept (grown_set (grown_refl w2 (some b)) 5 (.int .i64 code)) HR.out
    have e3 := set_same ((hB2.cell 3).symm.trans r3)
    exact bodyPost_end (v := .tuple #[]) (by simp [results, Try.results111, go_sem]) rfl ⟨rfl, A, cap, by rw [HP2.out, e3]; exact hB2.set_ 5 _, by rw [HP2.out]; exact ho, ((Near.of_below hb1).trans (Near.of_below hb2)).trans (Near.set_ _ _ _ _ _)⟩
  | true =>
    simp only [hg] at HG
    have hps2 : (k.after code).ps = k.ps ++ [(k.last, k.fst code)] := by simp [Kn.after, hg]
    have HP2 := hid hps2
    clear hg hps2
    obtain ⟨F, hF⟩ : ∃ F, F = k.fst code := ⟨_, rfl⟩
    rw [← hF] at HF HP2
    clear hF
    obtain ⟨_, q0, q1, q2, q3, q4, q5⟩ := HT.out
    go_enter Try.func111, Try.ntmps111
    go_wp2_with fail
    refine (HCl.out _).mono ?_
    rintro e w1 ⟨rfl, hb1⟩
    go_wp2_with fail
    refine (HG.out _ (HT.out.on hb1 hb)).mono ?_
    rintro e w2 ⟨rfl, hb2⟩
    have hB2 := (HK.out.on hb1).on hb2
    have hT2 := (HT.out.on hb1 hb).on hb2 (Nat.lt_of_lt_of_le hb hb1.size)
    obtain ⟨_, r0, r1, r2, r3, r4, r5⟩ := hT2
    clear q0 q1 q2 q3 q4 q5
    go_wp2_with fail
    go_region_law (first | (refine step_pairs (by rfl) (.tmp 32) (.tmp 41) 26 (by rfl) B 41 Try.underlying26 Try.info_pair _ k.ps.length k.ps (by rfl) (own_on HO.out (by (repeat (first | with_reducible assumption | with_reducible exact Below.refl _ _ | with_reducible refine bel_alloc ?_ _ | with_reducible refine bel_drew ?_ | with_reducible refine bel_drewN ?_ _ | with_reducible refine bel_set ?_ (by first | omega | (simp; done) | (simp; omega)) _ | with_reducible refine bel_trans ?_ (by with_reducible assumption) | exact Below.refl _ _ | assumption | refine bel_alloc ?_ _ | refine bel_drew ?_ | refine bel_drewN ?_ _ | refine bel_set ?_ (by first | omega | (simp; done) | (simp; omega)) _ | refine bel_trans ?_ (by assumption))))) (some ⟨w3.heap.size, 0, none⟩) 1 (w3.heap.size + 1) 1 [(k.last, F)] (ps_new w3 k.last F 41) (by rfl) (by rfl) (by simp; omega) (by have := hb1.size; have := hb2.size; have := hb3.size; simp at *; omega) ?_; intro v9 w9 hown9 hb9 hg9; obtain ⟨A9, c9, rfl, _, hl9, hA9⟩ := own_ps hown9; have kb3 : Blk w3 b t cs := HK.out.on (by (repeat (first | with_reducible assumption | with_reducible exact Below.refl _ _ | with_reducible refine bel_alloc ?_ _ | with_reducible refine bel_drew ?_ | with_reducible refine bel_drewN ?_ _ | with_reducible refine bel_set ?_ (by first | omega | (simp; done) | (simp; omega)) _ | with_reducible refine bel_trans ?_ (by with_reducible assumption) | exact Below.refl _ _ | assumption | refine bel_alloc ?_ _ | refine bel_drew ?_ | refine bel_drewN ?_ _ | refine bel_set ?_ (by first | omega | (simp; done) | (simp; omega)) _ | refine bel_trans ?_ (by assumption)))); have kb9 := (kb3.alloc _).grown hg9 HR3.out; have r93 := (kb9.cell 3).trans ((hB2.cell 3).symm.trans r3); have f93 := kb9.frozen 3) | (go_simp; go_at_call 174; refine (HF.out _ (HT.out.on (B := w.heap.size) (by (repeat (first | with_reducible assumption | with_reducible exact Below.refl _ _ | with_reducible refine bel_alloc ?_ _ | with_reducible refine bel_drew ?_ | with_reducible refine bel_drewN ?_ _ | with_reducible refine bel_set ?_ (by first | omega | (simp; done) | (simp; omega)) _ | with_reducible refine bel_trans ?_ (by with_reducible assumption) | exact Below.refl _ _ | assumption | refine bel_alloc ?_ _ | refine bel_drew ?_ | refine bel_drewN ?_ _ | refine bel_set ?_ (by first | omega | (simp; done) | (simp; omega)) _ | refine bel_trans ?_ (by assumption)))) hb) (by (repeat (first | with_reducible assumption | with_reducible exact Below.refl _ _ | with_reducible refine bel_alloc ?_ _ | with_reducible refine bel_drew ?_ | with_reducible refine bel_drewN ?_ _ | with_reducible refine bel_set ?_ (by first | omega | (simp; done) | (simp; omega)) _ | with_reducible refine bel_trans ?_ (by with_reducible assumption) | exact Below.refl _ _ | assumption | refine bel_alloc ?_ _ | refine bel_drew ?_ | refine bel_drewN ?_ _ | refine bel_set ?_ (by first | omega | (simp; done) | (simp; omega)) _ | refine bel_trans ?_ (by assumption))))).mono ?_; rintro e w3 ⟨rfl, hb3⟩; obtain ⟨hl3, s0, s1, s2, s3, s4, s5⟩ := HT.out.on (w' := w3) (B := w.heap.size) (by (repeat (first | with_reducible assumption | with_reducible exact Below.refl _ _ | with_reducible refine bel_alloc ?_ _ | with_reducible refine bel_drew ?_ | with_reducible refine bel_drewN ?_ _ | with_reducible refine bel_set ?_ (by first | omega | (simp; done) | (simp; omega)) _ | with_reducible refine bel_trans ?_ (by with_reducible assumption) | exact Below.refl _ _ | assumption | refine bel_alloc ?_ _ | refine bel_drew ?_ | refine bel_drewN ?_ _ | refine bel_set ?_ (by first | omega | (simp; done) | (simp; omega)) _ | refine bel_trans ?_ (by assumption)))) hb))
    all_goals
      have hnot := own_not_blk hown9 kb9 ht
      have hps9 : (k.ps ++ [(k.last, F)]).length = k.ps.length + 1 := by simp
      have kc := kb9.set_ 3 (.slice A9 (k.ps.length + 1) c9)
      have f5 := kc.frozen 5
      have c5 := (kc.cell 5).trans ((show _ = cs[5]? by simp).trans ((hB2.cell 5).symm.trans r5))
      clear r93 f93 s0 s1 s2 s3 s4 s5 r0 r1 r2 r3 r4 r5
      go_wp2
      rw [hps9] at hown9 hnot
      have ho := (hown9.kept (grown_set (grown_refl w9 (some b)) 3 (.slice A9 (k.ps.length + 1) c9)) hnot).kept (grown_set (grown_refl _ (some b)) 5 (.int .i64 code)) hnot
      have hl2 : (k.after code).ps.length = k.ps.length + 1 := by rw [HP2.out]; exact hps9
      refine bodyPost_end (v := .tuple #[]) (by simp [results, Try.results111, go_sem]) rfl ⟨rfl, A9, c9, by rw [hl2]; exact kc.set_ 5 _, by rw [hl2, HP2.out]; exact ho, ?_⟩
      exact (((((Near.of_below hb1).trans (Near.of_below hb2)).trans (Near.drew _ _ _)).trans (Near.of_below hb3)).trans ((Near.alloc _ _ _ _).trans (Near.grown hg9))).trans ((Near.set_ _ _ _ _ _).trans (Near.set_ _ _ _ _ _))
end Go.Proofs.Ytoiifopjipfjhaa
