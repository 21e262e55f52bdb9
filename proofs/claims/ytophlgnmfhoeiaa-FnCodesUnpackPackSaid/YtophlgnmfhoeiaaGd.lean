/- Plain mathematics: codes that are drawn one by one. No condition. -/
import Derived.Test.YtophlgnmfhoeiaaBb
import Derived.Test.YtophlgnmfhoeiaaFm
namespace Go.Proofs.Ytophlgnmfhoeiaa
set_option linter.unusedVariables false

namespace Kn
/-- what is known behind some codes -/
def runs : Kn → List Int → Kn
  | k, [] => k
  | k, c :: t => runs (k.step c) t
/-- the size of the words of some codes -/
def szs : Kn → List Int → Nat
  | _, [] => 0
  | k, c :: t => (k.part c).length + szs (k.step c) t
end Kn
theorem Kn.runs_snoc (k : Kn) (a : List Int) (c : Int) : k.runs (a ++ [c]) = (k.runs a).step c := by
  induction a generalizing k with
  | nil => rfl
  | cons x t ih => exact ih (k.step x)
theorem Kn.szs_snoc (k : Kn) (a : List Int) (c : Int) : k.szs (a ++ [c]) = k.szs a + ((k.runs a).part c).length := by
  induction a generalizing k with
  | nil => simp [Kn.szs, Kn.runs]
  | cons x t ih =>
    simp only [List.cons_append, Kn.szs, Kn.runs, ih]
    omega
theorem Kn.runs_c (k : Kn) (a : List Int) : (k.runs a).c = k.c := by
  induction a generalizing k with
  | nil => rfl
  | cons x t ih => exact (ih (k.step x)).trans (Kn.step_c k x)
/-- drawn codes: each follows, none ends -/
def Drawn (k : Kn) : List Int → Prop
  | [] => True
  | c :: t => (c = k.c ∨ k.Fol c) ∧ Drawn (k.step c) t
theorem Drawn.snoc {k : Kn} {a : List Int} {c : Int} (h : Drawn k a) (hc : c = (k.runs a).c ∨ (k.runs a).Fol c) : Drawn k (a ++ [c]) := by
  induction a generalizing k with
  | nil => exact ⟨hc, trivial⟩
  | cons x t ih => exact ⟨h.1, ih h.2 hc⟩
theorem Drawn.good {k : Kn} {a t : List Int} (hk : k.Ok) (h : Drawn k a) (n : Nat) (hs : n + k.szs a ≤ 2000) : k.good n (a ++ t) = (k.runs a).good (n + k.szs a) t := by
  induction a generalizing k n with
  | nil => simp [Kn.runs, Kn.szs]
  | cons x a ih =>
    have hx := h.1
    simp only [Kn.szs] at hs
    have e := ih (hk.step hx) h.2 (n + (k.part x).length) (by omega)
    simp only [List.cons_append, Kn.runs, Kn.szs]
    rw [show n + ((k.part x).length + (k.step x).szs a) = n + (k.part x).length + (k.step x).szs a from by omega, ← e]
    rcases hx with rfl | hf
    · rw [Kn.good_clear, Kn.part_none _ _ (.inl rfl)]; simp
    · have h1 := (hk.fol_iff x).1 hf
      rw [Kn.good_code _ _ _ _ h1.2.2.1 h1.2.2.2, Kn.part_code _ _ h1.2.2.1 h1.2.2.2]
      rw [Kn.part_code _ _ h1.2.2.1 h1.2.2.2] at hs
      simp [hf]; omega
theorem Drawn.ok {k : Kn} {a : List Int} (hk : k.Ok) (h : Drawn k a) : (k.runs a).Ok := by
  induction a generalizing k with
  | nil => exact hk
  | cons x a ih => exact ih (hk.step h.1) h.2
theorem Kn.step_len (k : Kn) (c : Int) : (k.step c).ps.length ≤ k.ps.length + 1 := by
  unfold Kn.step
  split
  · simp [Kn.cleared]; omega
  · have := Kn.after_len k c; split at this <;> omega
theorem Kn.Ok.any_le {k : Kn} (h : k.Ok) {code : Int} (hf : k.Fol code) : (k.any code).length ≤ k.ps.length + 2 := by
  rcases hf with hf | ⟨hg, rfl⟩
  · have := word_len _ _ h.pairs _ hf
    rw [Kn.any_has hf]
    show (wd k.c k.ps code).length ≤ _
    omega
  · have := word_len _ _ h.pairs _ (h.lastW hg)
    rw [Kn.any_next]
    have e : (k.word k.last).length = (wd k.c k.ps k.last).length := rfl
    simp; omega
/-- how long drawn words are -/
theorem Drawn.sz {k : Kn} {a : List Int} (hk : k.Ok) (h : Drawn k a) (m : Nat) (hm : k.ps.length + a.length ≤ m) : k.szs a ≤ a.length * (m + 2) ∧ (k.runs a).ps.length ≤ k.ps.length + a.length := by
  induction a generalizing k with
  | nil => simp [Kn.szs, Kn.runs]
  | cons x a ih =>
    have h1 := Kn.step_len k x
    simp only [List.length_cons] at hm
    have h2 := ih (hk.step h.1) h.2 (by omega)
    have h3 : (k.part x).length ≤ m + 2 := by
      rcases h.1 with rfl | hf
      · rw [Kn.part_none _ _ (.inl rfl)]; simp
      · have h4 := (hk.fol_iff x).1 hf
        rw [Kn.part_code _ _ h4.2.2.1 h4.2.2.2]
        have := hk.any_le hf
        omega
    simp only [Kn.szs, Kn.runs, List.length_cons]
    rw [Nat.add_mul]
    omega
end Go.Proofs.Ytophlgnmfhoeiaa
