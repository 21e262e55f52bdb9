/- The contract of follow in the program. No condition but that what is known is valid. -/
import Derived.Test.YtoiifopjipfjhaaFl
namespace Go.Proofs.Ytoiifopjipfjhaa
open Go.ChangeShapes Go.WideShapes Go.ChangeAt Go.RowKit Go.Joins
set_option linter.unusedVariables false

/-- the cells behind a stored slice and a stored last code -/
theorem kat_store {w w' : World} {b : Nat} {t : TypeId} {cs : Array Value} {k k' : Kn} {sl sl' : Value} (hk : Blk w b t cs) (h : KAt w b k sl) (hk' : Blk w' b t ((cs.setIfInBounds 3 sl').setIfInBounds 5 (.int .i64 k'.last))) (h0 : k'.o = k.o) (h1 : k'.l = k.l) (h2 : k'.m = k.m) (h3 : k'.base = k.base) : KAt w' b k' sl' := by
  obtain ⟨_, q0, q1, q2, q3, q4, q5⟩ := h
  rw [hk.cell] at q0 q1 q2 q3 q4 q5
  have e3 := (Array.getElem?_eq_some_iff.1 q3).1
  have e5 := (Array.getElem?_eq_some_iff.1 q5).1
  refine ⟨hk'.lt, ?_, ?_, ?_, ?_, ?_, ?_⟩ <;> rw [hk'.cell]
  · rw [h0]; simpa [Array.getElem?_setIfInBounds] using q0
  · rw [h1]; simpa [Array.getElem?_setIfInBounds] using q1
  · rw [h2]; simpa [Array.getElem?_setIfInBounds] using q2
  · simp [e3]
  · rw [h3]; simpa [Array.getElem?_setIfInBounds] using q4
  · simp [e5]

theorem c_follow_clear (b B : Nat) (t : TypeId) (cs : Array Value) (k : Kn) (A : Option Addr) (cap : Nat) (w : World) (h : k.Ok) (hB : Blk w b t cs) (hk : KAt w b k (.slice A k.ps.length cap)) (hps : PsAt w w.heap.size A cap k.ps) (hown : w.ownsRow B 41 2 (.slice A k.ps.length cap) k.ps.length (prs k.ps)) (hne : ∀ g, A = some ⟨g, 0, none⟩ → g ≠ b) :
    Calls Try.prog 111 #[.pointer (some ⟨b, 0, none⟩), .int .i64 (pow2 k.l)] w fun e w' => e = .returned (.tuple #[]) ∧ ∃ A' cap', Blk w' b t ((cs.setIfInBounds 3 (.slice A' k.cleared.ps.length cap')).setIfInBounds 5 (.int .i64 k.cleared.last)) ∧ w'.ownsRow B 41 2 (.slice A' k.cleared.ps.length cap') k.cleared.ps.length (prs k.cleared.ps) ∧ Near w w' b (Value.slice A k.ps.length cap).ownBlock := by
  have hb0 := h.base0
  have hb1 := h.base1
  have hlen := h.len
  obtain ⟨n, hn⟩ : ∃ n : Nat, k.base = n := ⟨k.base.toNat, by omega⟩
  have hpl : k.cleared.ps.length = n := by simp only [Kn.cleared, List.length_take]; omega
  have hnl : n ≤ k.ps.length := by omega
  have hcap := hps.1
  have HCl := hid (fun (v : World) => c_ClearCode_yes k.o k.l k.m v h.set)
  have hk2 := hk
  obtain ⟨hb, q0, q1, q2, q3, q4, q5⟩ := hk
  rw [hn] at q4
  have HK := hid hB
  have HT := hid hk2
  have HO := hid hown
  have hnc : n ≤ cap := by omega
  have hnc2 : (n : Int) ≤ (cap : Int) := by omega
  clear hB hk2 hown hps
  go_enter Try.func111, Try.ntmps111
  go_wp2_with fail
  refine (HCl.out _).mono ?_
  rintro e w1 ⟨rfl, hb1⟩
  have hc1 := bcell hb1
  have hz1_0 : b < w1.heap.size := (by have := hb1.size; first | omega | (simp at this; omega))
  have hB1 := HK.out.on hb1
  have hT1 := HT.out.on hb1 hb
  obtain ⟨_, r0, r1, r2, r3, r4, r5⟩ := hT1
  rw [hn] at r4
  clear q0 q1 q2 q3 q4 q5 hc1
  have g3 := hB1.frozen 3
  have g5 := hB1.frozen 5
  go_wp2_with fail
  go_region
  all_goals
    go_wp2
    rw [hpl]
    have hA : A = none ∨ ∃ g, A = some ⟨g, 0, none⟩ ∧ B ≤ g ∧ g < w.heap.size := by
      obtain ⟨A2, c2, e1, _, _, e2⟩ := own_ps HO.out
      simp at e1
      rw [e1.1]; exact e2
    have hps2 : k.cleared.ps = k.ps.take n := by simp only [Kn.cleared]; rw [hn]; rfl
    have ho1 : w1.ownsRow B 41 2 (.slice A n cap) n (prs k.cleared.ps) := by rw [hps2]; exact own_ps_cut (own_on HO.out hb1) n hnl
    have hrow : (Value.slice A n cap).ownBlock = none ∨ (Value.slice A n cap).ownBlock ≠ some b := by
      rcases hA with rfl | ⟨g, rfl, _, _⟩
      · exact Or.inl rfl
      · exact Or.inr (fun e => hne g rfl (by simpa [Value.ownBlock] using e))
    have ho2 := (ho1.kept (grown_set (grown_refl w1 (some b)) 3 (.slice A n cap)) hrow).drew
    have ho3 := ho2.kept (grown_set (grown_refl _ (some b)) 5 (.int .i64 (-1))) hrow
    exact bodyPost_ret (v := .tuple #[]) (by simp [results, Try.results111, go_sem]) rfl ⟨rfl, A, cap, ((hB1.set_ 3 _).drew).set_ 5 _, ho3, ((Near.of_below hb1).trans ((Near.set_ _ _ _ _ _).trans (Near.drew _ _ _))).trans (Near.set_ _ _ _ _ _)⟩
end Go.Proofs.Ytoiifopjipfjhaa
