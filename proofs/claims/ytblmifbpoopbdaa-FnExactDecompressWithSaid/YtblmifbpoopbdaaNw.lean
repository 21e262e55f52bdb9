/- Plain mathematics: the codes of the longest words, one by one. No condition. -/
import Derived.Test.YtblmifbpoopbdaaGr
import Derived.Test.YtblmifbpoopbdaaBa
namespace Go.Proofs.Ytblmifbpoopbdaa
set_option linter.unusedVariables false

/-- codes cs are written, kk is known, s bytes are done -/
structure GI (k0 : Kn) (D : List UInt8) (cs : List Int) (kk : Kn) (s f : Nat) : Prop where
  ok : kk.Ok
  c : kk.c = k0.c
  eq : k0.greedy D = cs ++ (kk.words1 f (D.drop s) ++ [k0.c + 1])
  fuel : D.length - s ≤ f
  le : s ≤ D.length
theorem GI.start {k0 : Kn} (h : k0.Ok) (D : List UInt8) : GI k0 D ([] ++ [k0.c]) (k0.step k0.c) 0 D.length := by
  rw [Kn.step_clear]
  exact ⟨h.cleared, rfl, by simp [Kn.greedy], by omega, by omega⟩
section
variable {k0 kk : Kn} {D : List UInt8} {cs : List Int} {s f : Nat}
theorem GI.rest (h : GI k0 D cs kk s f) (hs : s < D.length) : D.drop s ≠ [] := by
  intro e
  have := congrArg List.length e
  simp at this
  omega
theorem GI.clear (h : GI k0 D cs kk s f) (hs : s < D.length) (hn : kk.need) : GI k0 D (cs ++ [kk.c]) (kk.step kk.c) s f := by
  rw [Kn.step_clear]
  obtain ⟨f', rfl⟩ : ∃ f', f = f' + 1 := ⟨f - 1, by have := h.fuel; omega⟩
  refine ⟨h.ok.cleared, h.c, ?_, h.fuel, h.le⟩
  rw [h.eq]
  simp only [Kn.words1, if_neg (h.rest hs), if_pos hn, if_neg h.ok.cleared_need, List.append_assoc, List.cons_append, List.nil_append]
theorem GI.word (h : GI k0 D cs kk s f) (hl : Lits k0.c D) (hs : s < D.length) (hn : ¬ kk.need) : kk.Fol (kk.code1 (D.drop s)) ∧ 1 ≤ kk.lng (D.drop s) ∧ kk.lng (D.drop s) ≤ D.length - s ∧ ∃ f', GI k0 D (cs ++ [kk.code1 (D.drop s)]) (kk.step (kk.code1 (D.drop s))) (s + kk.lng (D.drop s)) f' := by
  obtain ⟨f', rfl⟩ : ∃ f', f = f' + 1 := ⟨f - 1, by have := h.fuel; omega⟩
  have hl2 : Lits kk.c (D.drop s) := by rw [h.c]; exact hl.drop s
  obtain ⟨h1, h2, h3, h4⟩ := h.ok.code1 (h.rest hs) hl2
  rw [List.length_drop] at h4
  refine ⟨h1, h3, h4, f', ?_⟩
  rw [Kn.step_fol h.ok h1]
  refine ⟨h.ok.after h1, h.c, ?_, by have := h.fuel; omega, by omega⟩
  rw [h.eq]
  simp only [Kn.words1, if_neg (h.rest hs), if_neg hn, List.drop_drop, List.append_assoc, List.cons_append, List.nil_append]
theorem GI.done (h : GI k0 D cs kk s f) (hs : s = D.length) : k0.greedy D = cs ++ [k0.c + 1] := by
  rw [h.eq, hs, List.drop_length, Kn.words1_nil]; rfl
theorem GI.len (h : GI k0 D cs kk s f) (hk : k0.Ok) (hl : Lits k0.c D) (hD : D.length ≤ 2000) : cs.length ≤ 4000 := by
  have h1 := hk.greedy_len hl
  have h2 := congrArg List.length h.eq
  rw [List.length_append] at h2
  omega
theorem GI.first (h : GI k0 D cs kk s f) (hl : Lits k0.c D) {b : UInt8} (hb : (D.drop s).head? = some b) : (b.toNat : Int) < kk.c := by
  rw [h.c]
  refine hl b (List.mem_of_mem_drop (i := s) ?_)
  exact List.mem_of_mem_head? hb
end
theorem cut_drop (S : ByteArray) (g : Nat) : (S.extract g S.size).data.toList = S.data.toList.drop g := by
  simp
  rw [List.take_of_length_le]
  simp
end Go.Proofs.Ytblmifbpoopbdaa
