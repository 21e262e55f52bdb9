/- Plain mathematics: the codes of the longest words. No condition. -/
import Derived.Test.YtblmifbpoopbdaaFp
namespace Go.Proofs.Ytblmifbpoopbdaa
set_option linter.unusedVariables false

namespace Kn
/-- no code is left for a word, but a clear code would free one -/
def need (k : Kn) : Prop := k.lc < k.next ∧ k.base < k.ps.length
instance (k : Kn) : Decidable k.need := by unfold need; infer_instance
def code1 (k : Kn) (data : List UInt8) : Int := k.find (data.take (k.lng data))
/-- the codes of data behind the first clear code: ahead of a word; with a clear code where one is needed -/
def words1 : Nat → Kn → List UInt8 → List Int
  | 0, _, _ => []
  | f + 1, k, data => if data = [] then [] else
      if k.need then k.c :: k.cleared.code1 data :: words1 f (k.cleared.after (k.cleared.code1 data)) (data.drop (k.cleared.lng data))
      else k.code1 data :: words1 f (k.after (k.code1 data)) (data.drop (k.lng data))
def greedy (k : Kn) (data : List UInt8) : List Int := k.c :: (words1 data.length k.cleared data ++ [k.c + 1])
end Kn
theorem Kn.words1_nil (f : Nat) (k : Kn) : k.words1 f [] = [] := by cases f <;> simp [Kn.words1]
theorem Kn.Ok.cleared_need {k : Kn} (h : k.Ok) : ¬ k.cleared.need := by
  have := Kn.cleared_len h
  rintro ⟨_, h2⟩
  have e : k.cleared.base = k.base := rfl
  omega
/-- data of literals -/
def Lits (c : Int) (data : List UInt8) : Prop := ∀ b ∈ data, (b.toNat : Int) < c
theorem Lits.drop {c : Int} {data : List UInt8} (h : Lits c data) (n : Nat) : Lits c (data.drop n) := fun b hb => h b (List.mem_of_mem_drop hb)
theorem Kn.Ok.code1 {k : Kn} (h : k.Ok) {data : List UInt8} (hd : data ≠ []) (hl : Lits k.c data) : k.Fol (k.code1 data) ∧ k.any (k.code1 data) = data.take (k.lng data) ∧ 1 ≤ k.lng data ∧ k.lng data ≤ data.length := by
  have h0 : 0 < data.length := List.length_pos_iff.2 hd
  obtain ⟨h1, h2, h3, _⟩ := h.lng_word h0 (fun b hb => hl b (List.mem_of_getElem? hb))
  obtain ⟨h4, h5, _⟩ := h.find_some h3
  exact ⟨h4, h5, h1, h2⟩
theorem Kn.Ok.code1_ne {k : Kn} (h : k.Ok) {code : Int} (hf : k.Fol code) : code ≠ k.c ∧ code ≠ k.c + 1 := by
  have := (h.fol_iff code).1 hf
  exact ⟨this.2.2.1, this.2.2.2⟩
theorem Kn.step_fol {k : Kn} (h : k.Ok) {code : Int} (hf : k.Fol code) : k.step code = k.after code := by
  have := (h.fol_iff code).1 hf
  simp [Kn.step, this.2.2.1]
theorem Kn.step_clear (k : Kn) : k.step k.c = k.cleared := by simp [Kn.step]
/-- the codes can follow each other, and their words are the data -/
theorem Kn.Ok.words1_good {f : Nat} {k : Kn} (h : k.Ok) {data : List UInt8} (hf : data.length ≤ f) (hl : Lits k.c data) (n : Nat) (hn : n + data.length ≤ 2000) : k.good n (k.words1 f data ++ [k.c + 1]) = true ∧ k.dat (k.words1 f data ++ [k.c + 1]) = data := by
  have one : ∀ (k : Kn) (n : Nat) (f : Nat) (data : List UInt8), k.Ok → data ≠ [] → Lits k.c data → n + data.length ≤ 2000 → (∀ (k2 : Kn) (m : Nat) (d : List UInt8), k2.Ok → d.length ≤ f → Lits k2.c d → m + d.length ≤ 2000 → k2.good m (k2.words1 f d ++ [k2.c + 1]) = true ∧ k2.dat (k2.words1 f d ++ [k2.c + 1]) = d) → data.length ≤ f + 1 →
      k.good n (k.code1 data :: ((k.after (k.code1 data)).words1 f (data.drop (k.lng data)) ++ [k.c + 1])) = true ∧ k.dat (k.code1 data :: ((k.after (k.code1 data)).words1 f (data.drop (k.lng data)) ++ [k.c + 1])) = data := by
    intro k n f data hk hd hl hn ih hfl
    obtain ⟨g1, g2, g3, g4⟩ := hk.code1 hd hl
    obtain ⟨g5, g6⟩ := hk.code1_ne g1
    have e1 := Kn.step_fol hk g1
    have hlen : (k.any (k.code1 data)).length = k.lng data := by rw [g2, take_len g4]
    have := ih (k.after (k.code1 data)) (n + (k.any (k.code1 data)).length) (data.drop (k.lng data)) (hk.after g1) (by simp; omega) (by rw [Kn.after_c]; exact hl.drop _) (by simp; omega)
    rw [Kn.after_c] at this
    refine ⟨?_, ?_⟩
    · rw [Kn.good_code _ _ _ _ g5 g6, e1, this.1]
      simp [g1]; omega
    · rw [Kn.dat, Kn.part_code _ _ g5 g6, e1, this.2, g2]
      exact List.take_append_drop _ _
  induction f generalizing k data n with
  | zero =>
    have : data = [] := List.length_eq_zero_iff.1 (by omega)
    subst this
    simp [Kn.words1, Kn.good_end, Kn.dat, Kn.part]
  | succ f ih =>
    by_cases hd : data = []
    · subst hd
      simp [Kn.words1, Kn.good_end, Kn.dat, Kn.part]
    · by_cases hnd : k.need
      · have e : k.words1 (f + 1) data = k.c :: k.cleared.code1 data :: (k.cleared.after (k.cleared.code1 data)).words1 f (data.drop (k.cleared.lng data)) := by simp [Kn.words1, hd, hnd]
        rw [e]
        have := one k.cleared n f data h.cleared hd hl hn (fun k2 m d a b c d' => ih a b c m d') (by omega)
        have e2 : k.cleared.c = k.c := rfl
        rw [e2] at this
        refine ⟨?_, ?_⟩
        · rw [List.cons_append, Kn.good_clear, Kn.step_clear]; exact this.1
        · rw [List.cons_append, Kn.dat, Kn.part_none _ _ (.inl rfl), Kn.step_clear]; simpa using this.2
      · have e : k.words1 (f + 1) data = k.code1 data :: (k.after (k.code1 data)).words1 f (data.drop (k.lng data)) := by simp [Kn.words1, hd, hnd]
        rw [e]
        exact one k n f data h hd hl hn (fun k2 m d a b c d' => ih a b c m d') (by omega)
/-- how far a clear code is -/
def Kn.phi (k : Kn) : Nat := if (k.ps.length : Int) = k.base then (if k.last = -1 then 0 else 1) else 2
theorem Kn.Ok.phi_after {k : Kn} (h : k.Ok) {code : Int} (hf : k.Fol code) : (k.after code).phi ≤ k.phi + 1 := by
  have h1 := h.base1
  have h2 := (h.fol_iff code).1 hf
  have hlen := Kn.after_len k code
  have eb : (k.after code).base = k.base := rfl
  have el : (k.after code).last = code := rfl
  unfold Kn.phi
  rw [eb, el]
  by_cases hb : (k.ps.length : Int) = k.base
  · rw [if_pos hb]
    by_cases hl : k.last = -1
    · have hg : k.grows = false := by simp [Kn.grows, hl]
      rw [hg] at hlen
      simp at hlen
      rw [if_pos (by omega), if_neg (by omega), if_pos hl]; omega
    · rw [if_neg hl]
      split
      · rw [if_neg (by omega)]; omega
      · omega
  · rw [if_neg hb]
    repeat' split
    all_goals omega
theorem Kn.Ok.words1_len {f : Nat} {k : Kn} (h : k.Ok) {data : List UInt8} (hf : data.length ≤ f) (hl : Lits k.c data) : (k.words1 f data).length ≤ data.length + (data.length + k.phi) / 2 := by
  induction f generalizing k data with
  | zero => simp [Kn.words1]
  | succ f ih =>
    by_cases hd : data = []
    · subst hd; simp [Kn.words1]
    · by_cases hnd : k.need
      · have e : k.words1 (f + 1) data = k.c :: k.cleared.code1 data :: (k.cleared.after (k.cleared.code1 data)).words1 f (data.drop (k.cleared.lng data)) := by simp [Kn.words1, hd, hnd]
        have hl2 : Lits k.cleared.c data := hl
        obtain ⟨g1, g2, g3, g4⟩ := h.cleared.code1 hd hl2
        have hp0 : k.cleared.phi = 0 := by
          have := Kn.cleared_len h
          have e1 : k.cleared.base = k.base := rfl
          have e2 : k.cleared.last = -1 := rfl
          simp [Kn.phi, this, e1, e2]
        have hp := h.cleared.phi_after g1
        have hp2 : k.phi = 2 := by
          unfold Kn.phi
          rw [if_neg (by have := hnd.2; omega)]
        have := ih (h.cleared.after g1) (data := data.drop (k.cleared.lng data)) (by simp; omega) (by rw [Kn.after_c]; exact hl2.drop _)
        rw [e]
        simp only [List.length_cons, List.length_drop] at this ⊢
        omega
      · have e : k.words1 (f + 1) data = k.code1 data :: (k.after (k.code1 data)).words1 f (data.drop (k.lng data)) := by simp [Kn.words1, hd, hnd]
        obtain ⟨g1, g2, g3, g4⟩ := h.code1 hd hl
        have hp := h.phi_after g1
        have := ih (h.after g1) (data := data.drop (k.lng data)) (by simp; omega) (by rw [Kn.after_c]; exact hl.drop _)
        rw [e]
        simp only [List.length_cons, List.length_drop] at this ⊢
        omega
theorem Kn.Ok.greedy_len {k : Kn} (h : k.Ok) {data : List UInt8} (hl : Lits k.c data) : (k.greedy data).length ≤ 2 + data.length + data.length / 2 := by
  have h1 := h.cleared.words1_len (Nat.le_refl data.length) (show Lits k.cleared.c data from hl)
  have hp0 : k.cleared.phi = 0 := by
    have := Kn.cleared_len h
    have e1 : k.cleared.base = k.base := rfl
    have e2 : k.cleared.last = -1 := rfl
    simp [Kn.phi, this, e1, e2]
  rw [hp0] at h1
  simp only [Kn.greedy, List.length_cons, List.length_append, List.length_nil]
  omega
theorem Kn.Ok.greedy_good {k : Kn} (h : k.Ok) {data : List UInt8} (hl : Lits k.c data) (hn : data.length ≤ 2000) : k.good 0 (k.greedy data) = true ∧ k.dat (k.greedy data) = data := by
  have := h.cleared.words1_good (Nat.le_refl data.length) (show Lits k.cleared.c data from hl) 0 (by omega)
  have e2 : k.cleared.c = k.c := rfl
  rw [e2] at this
  unfold Kn.greedy
  refine ⟨?_, ?_⟩
  · rw [Kn.good_clear, Kn.step_clear]; exact this.1
  · rw [Kn.dat, Kn.part_none _ _ (.inl rfl), Kn.step_clear]; simpa using this.2
end Go.Proofs.Ytblmifbpoopbdaa
