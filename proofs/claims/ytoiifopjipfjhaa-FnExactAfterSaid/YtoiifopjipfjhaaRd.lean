/- Plain mathematics: codes that are read from bits. No condition. -/
import Derived.Test.YtoiifopjipfjhaaTr
namespace Go.Proofs.Ytoiifopjipfjhaa

/-! ### Codes read from bits -/
/-- the code of the next bits -/
def Kn.codeAt (k : Kn) (B : List Bool) (at' : Nat) : Int := ((M.num (M.dir (k.o == 1) ((B.drop at').take k.width.toNat)) : Nat) : Int)
/-- (codes, end, bits used): n codes and sz bytes of data so far -/
def Kn.rd (B : List Bool) : Nat → Kn → Nat → Nat → Nat → List Int × Int × Nat
  | 0, _, _, _, _ => ([], 1, B.length)
  | f + 1, k, at', n, sz =>
    if at' + k.width.toNat ≤ B.length then
      if k.codeAt B at' = k.c + 1 then ([k.codeAt B at'], 0, at' + k.width.toNat)
      else if k.codeAt B at' = k.c ∨ k.Fol (k.codeAt B at') then
        if 2000 < sz + (k.part (k.codeAt B at')).length then ([], 3, at' + k.width.toNat)
        else if n + 1 = 3100 then ([k.codeAt B at'], 3, at' + k.width.toNat)
        else (k.codeAt B at' :: (Kn.rd B f (k.step (k.codeAt B at')) (at' + k.width.toNat) (n + 1) (sz + (k.part (k.codeAt B at')).length)).1, (Kn.rd B f (k.step (k.codeAt B at')) (at' + k.width.toNat) (n + 1) (sz + (k.part (k.codeAt B at')).length)).2)
      else ([], 2, at' + k.width.toNat)
    else ([], 1, B.length)
theorem Kn.Ok.rd_good (B : List Bool) (f : Nat) {k : Kn} (h : k.Ok) (at' n sz : Nat) (hn : n < 3100) (hs : sz ≤ 2000) : k.good sz (Kn.rd B f k at' n sz).1 = true ∧ n + (Kn.rd B f k at' n sz).1.length ≤ 3100 := by
  induction f generalizing k at' n sz with
  | zero => simp [Kn.rd, Kn.good]; omega
  | succ f ih =>
    have hc := h.cbd
    rw [Kn.rd]
    generalize k.codeAt B at' = code
    split
    · split
      · rename_i h1; subst h1; simp [Kn.good]; omega
      · rename_i h1
        split
        · rename_i h2
          split
          · simp [Kn.good]; omega
          · rename_i h3
            have hone : ∀ t, (k.step code).good (sz + (k.part code).length) t = true → k.good sz (code :: t) = true := by
              intro t ht
              by_cases h5 : code = k.c
              · subst h5; rw [Kn.good_clear]; rw [Kn.part_none _ _ (.inl rfl)] at ht; simpa using ht
              · rw [Kn.part_code _ _ h5 h1] at ht h3
                rw [Kn.good_code _ _ _ _ h5 h1, ht]
                have : k.Fol code := by rcases h2 with h2 | h2; exact absurd h2 h5; exact h2
                simp [this]; omega
            split
            · exact ⟨hone [] (by simp [Kn.good]), by simp; omega⟩
            · have := ih (h.step h2) (at' + k.width.toNat) (n + 1) (sz + (k.part code).length) (by omega) (by omega)
              exact ⟨hone _ this.1, by simp only [List.length_cons]; omega⟩
        · simp [Kn.good]; omega
    · simp [Kn.good]; omega
theorem Kn.Ok.rd_used (B : List Bool) (f : Nat) {k : Kn} (h : k.Ok) (at' n sz : Nat) (ha : at' ≤ B.length) : (Kn.rd B f k at' n sz).2.2 ≤ B.length := by
  induction f generalizing k at' n sz with
  | zero => simp [Kn.rd]
  | succ f ih =>
    rw [Kn.rd]
    generalize k.codeAt B at' = code
    split
    · split
      · assumption
      · split
        · rename_i h2
          split
          · assumption
          · split
            · assumption
            · exact ih (h.step h2) _ _ _ (by assumption)
        · assumption
    · simp
end Go.Proofs.Ytoiifopjipfjhaa
