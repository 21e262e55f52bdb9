/- Plain mathematics: what the laws say of what is known. No condition. -/
import Derived.Test.YtfklkepodpcdgaaBb
namespace Go.Proofs.Ytfklkepodpcdgaa
set_option linter.unusedVariables false

theorem Kn.next_has (k : Kn) (p : Pr) : HasW k.c k.next (k.ps ++ [p]).length := by unfold HasW Kn.next; simp; omega
theorem byt_head {l : List UInt8} (h : l ≠ []) : [byt (((l.head?.getD 0).toNat : Nat) : Int)] = l.take 1 := by
  cases l with
  | nil => exact absurd rfl h
  | cons a t => simp [byt]
theorem Kn.byt_fst {k : Kn} {code : Int} (h : k.any code ≠ []) : [byt (k.fst code)] = (k.any code).take 1 := byt_head h
theorem Kn.after_c (k : Kn) (code : Int) : (k.after code).c = k.c := rfl
theorem Kn.after_yes {k : Kn} (hg : k.grows = true) (code : Int) : (k.after code).ps = k.ps ++ [(k.last, k.fst code)] := by simp [Kn.after, hg]
/-- the word that a code adds -/
theorem Kn.Ok.after_new {k : Kn} (h : k.Ok) (hg : k.grows = true) {code : Int} (hf : k.Fol code) : (k.after code).any k.next = k.word k.last ++ (k.any code).take 1 := by
  have e := Kn.after_yes hg code
  have h1 : HasW (k.after code).c k.next (k.after code).ps.length := by rw [e]; exact k.next_has _
  rw [Kn.any_has h1, Kn.word, e]
  show wd k.c (k.ps ++ [(k.last, k.fst code)]) (k.c + 2 + k.ps.length) = _
  rw [word_new, Kn.byt_fst (h.any_ne hf)]; rfl
/-- the code's own word does not change -/
theorem Kn.Ok.after_any {k : Kn} (h : k.Ok) (hg : k.grows = true) {code : Int} (hf : k.Fol code) : (k.after code).any code = k.any code := by
  rcases hf with hf | ⟨_, rfl⟩
  · have e := Kn.after_yes hg code
    have h1 : HasW (k.after code).c code (k.after code).ps.length := by rw [e]; exact hf.mono (by simp)
    rw [Kn.any_has h1, Kn.any_has hf, Kn.word, e]
    exact word_append _ _ _ _ hf
  · rw [h.after_new hg (.inr ⟨hg, rfl⟩), Kn.any_next]
    have hn := word_ne _ _ h.pairs _ (h.lastW hg)
    have e : ∀ l : List UInt8, l ≠ [] → (l ++ l.take 1).take 1 = l.take 1 := by
      intro l hl
      cases l with
      | nil => exact absurd rfl hl
      | cons a t => simp
    rw [e (k.word k.last) hn]
theorem Kn.Ok.last_fol {k : Kn} (h : k.Ok) (hg : k.grows = true) : k.Fol k.last := .inl (h.lastW hg)
theorem Kn.Ok.last_any {k : Kn} (h : k.Ok) (hg : k.grows = true) : k.any k.last = k.word k.last := Kn.any_has (h.lastW hg)
theorem Kn.Ok.after_next_fol {k : Kn} (h : k.Ok) (hg : k.grows = true) (code : Int) : (k.after code).Fol k.next := by
  refine .inl ?_
  rw [Kn.after_yes hg]; exact k.next_has _
theorem Kn.Ok.after_fol {k : Kn} (h : k.Ok) (hg : k.grows = true) {code : Int} (hf : k.Fol code) : (k.after code).Fol code := by
  rcases hf with hf | ⟨_, rfl⟩
  · refine .inl ?_
    rw [Kn.after_yes hg]; exact hf.mono (by simp)
  · exact h.after_next_fol hg _
/-- the width -/
theorem bitsNeeded_nat {n : Int} (h : 0 ≤ n) : bitsNeeded n = ((nd n.toNat : Nat) : Int) := by rw [bitsNeeded, if_neg (by omega)]
theorem Kn.Ok.width_law {k : Kn} (h : k.Ok) : k.l + 1 ≤ k.width ∧ k.width ≤ k.m ∧ bitsNeeded k.great ≤ k.width ∧ (k.width = k.l + 1 ∨ bitsNeeded k.great = k.width) := by
  have h1 := h.width_bd
  have h2 := h.great_bd
  have h3 := h.cbd
  rw [bitsNeeded_nat (by omega)]
  unfold Kn.width at *
  omega
/-- words, one byte at a time -/
theorem Kn.lit_any {k : Kn} {code : Int} (h0 : 0 ≤ code) (h1 : code < k.c) : k.any code = [byt code] := by
  rw [Kn.any_has (.inl ⟨h0, h1⟩), Kn.word, word_lit _ _ _ (by omega)]
theorem Kn.Ok.pair_any {k : Kn} (h : k.Ok) {i : Nat} {p : Pr} (hp : k.ps[i]? = some p) : k.any (k.c + 2 + i) = k.any p.1 ++ [byt p.2] ∧ k.Fol p.1 := by
  have hi := get_lt hp
  have h1 := (h.pairs i p hp).1.mono (Nat.le_of_lt hi)
  rw [Kn.any_has (.inr ⟨by omega, by omega⟩), Kn.any_has h1]
  exact ⟨word_pair _ _ h.pairs i p hp, .inl h1⟩
/-- kept words -/
theorem Kn.cleared_cleared (k : Kn) (h : k.Ok) : k.cleared.cleared = k.cleared := by
  have h0 := h.base0
  have h1 := h.base1
  simp only [Kn.cleared, List.take_take, Nat.min_self]
theorem Kn.cleared_no (k : Kn) : k.cleared.grows = false := by simp [Kn.grows, Kn.cleared]
theorem Kn.cleared_len {k : Kn} (h : k.Ok) : (k.cleared.ps.length : Int) = k.base := by
  have h0 := h.base0
  have h1 := h.base1
  simp [Kn.cleared]; omega
theorem Kn.after_len (k : Kn) (code : Int) : (k.after code).ps.length = k.ps.length + (if k.grows = true then 1 else 0) := by
  unfold Kn.after
  split <;> simp_all
theorem Kn.after_get (k : Kn) (code : Int) {i : Nat} {p : Pr} (h : k.ps[i]? = some p) : (k.after code).ps[i]? = some p := by
  unfold Kn.after
  split
  · simp only; rw [List.getElem?_append_left (get_lt h)]; exact h
  · exact h
end Go.Proofs.Ytfklkepodpcdgaa
