/- Plain mathematics: codes that follow each other, their widths, data and bits. No condition. -/
import Derived.Test.YtoiifopjipfjhaaKn
import Derived.Test.YtoiifopjipfjhaaMath
namespace Go.Proofs.Ytoiifopjipfjhaa

/-! ### Codes that follow each other -/
namespace Kn
/-- codes can follow each other (n: the bytes of data so far) -/
def good : Kn → Nat → List Int → Bool
  | _, _, [] => true
  | k, n, code :: t => if code = k.c + 1 then t.isEmpty else if code = k.c then good k.cleared n t else decide (k.Fol code) && (decide (n + (k.any code).length ≤ 2000) && good (k.after code) (n + (k.any code).length) t)
def widths : Kn → List Int → List Int
  | _, [] => []
  | k, code :: t => k.width :: widths (k.step code) t
/-- the word that a code stands for, if any -/
def part (k : Kn) (code : Int) : List UInt8 := if code = k.c ∨ code = k.c + 1 then [] else k.any code
def dat : Kn → List Int → List UInt8
  | _, [] => []
  | k, code :: t => k.part code ++ dat (k.step code) t
def run : Kn → List Int → Kn
  | k, [] => k
  | k, code :: t => run (k.step code) t
theorem good_end (k : Kn) (n : Nat) (t : List Int) : good k n ((k.c + 1) :: t) = t.isEmpty := by simp [good]
theorem good_clear (k : Kn) (n : Nat) (t : List Int) : good k n (k.c :: t) = good (k.step k.c) n t := by
  simp only [good, step, if_true]
  rw [if_neg (by omega)]
theorem good_code (k : Kn) (n : Nat) (code : Int) (t : List Int) (h1 : code ≠ k.c) (h2 : code ≠ k.c + 1) : good k n (code :: t) = (decide (k.Fol code) && (decide (n + (k.any code).length ≤ 2000) && good (k.step code) (n + (k.any code).length) t)) := by
  simp [good, h1, h2, step]
theorem part_code (k : Kn) (code : Int) (h1 : code ≠ k.c) (h2 : code ≠ k.c + 1) : k.part code = k.any code := by simp [part, h1, h2]
theorem part_none (k : Kn) (code : Int) (h : code = k.c ∨ code = k.c + 1) : k.part code = [] := by simp [part, h]
theorem widths_length (k : Kn) (cs : List Int) : (k.widths cs).length = cs.length := by
  induction cs generalizing k with
  | nil => rfl
  | cons a t ih => simp [widths, ih]
theorem step_o (k : Kn) (code : Int) : (k.step code).o = k.o := by unfold step; split <;> rfl
theorem step_l (k : Kn) (code : Int) : (k.step code).l = k.l := by unfold step; split <;> rfl
theorem step_m (k : Kn) (code : Int) : (k.step code).m = k.m := by unfold step; split <;> rfl
theorem step_base (k : Kn) (code : Int) : (k.step code).base = k.base := by unfold step; split <;> rfl
theorem step_c (k : Kn) (code : Int) : (k.step code).c = k.c := by unfold c; rw [step_l]
theorem step_lc (k : Kn) (code : Int) : (k.step code).lc = k.lc := by unfold lc; rw [step_m]
end Kn

theorem nd_up {x k : Nat} (hk : 1 ≤ k) (hx : x < 2 ^ k) (h64 : k ≤ 63) : nd x ≤ k := by
  induction k generalizing x with
  | zero => omega
  | succ k ih =>
    by_cases h : 2 ≤ x
    · have hp : (2 : Nat) ^ (k + 1) ≤ 2 ^ 63 := Nat.pow_le_pow_right (by omega) (by omega)
      rw [nd_half h (by omega)]
      rw [Nat.pow_succ] at hx
      have hk1 : 1 ≤ k := by
        rcases Nat.eq_zero_or_pos k with e | e
        · subst e; simp at hx; omega
        · exact e
      have := ih (x := x / 2) hk1 (by omega) (by omega)
      omega
    · rw [nd_small (by omega)]; omega
theorem nd_down {x : Nat} (hx : x < 2 ^ 63) : x < 2 ^ nd x := by
  have : ∀ k x : Nat, x < 2 ^ k → k ≤ 63 → x < 2 ^ nd x := by
    intro k
    induction k with
    | zero => intro x h _; simp at h; subst h; exact Nat.pow_pos (by omega)
    | succ k ih =>
      intro x h hk
      by_cases h2 : 2 ≤ x
      · have hp : (2 : Nat) ^ (k + 1) ≤ 2 ^ 63 := Nat.pow_le_pow_right (by omega) (by omega)
        rw [nd_half h2 (by omega), Nat.pow_succ]
        rw [Nat.pow_succ] at h
        have := ih (x / 2) (by omega) (by omega)
        omega
      · rw [nd_small (by omega)]; omega
  exact this 63 x hx (by omega)
theorem pow2_nat {n : Int} : pow2 n = ((2 ^ n.toNat : Nat) : Int) := by simp [pow2]
theorem Kn.Ok.width_bd {k : Kn} (h : k.Ok) : k.l + 1 ≤ k.width ∧ 2 ≤ k.width ∧ k.width ≤ k.m ∧ k.width ≤ 10 := by
  obtain ⟨_, ⟨h1, h2⟩, h3, h4⟩ := setOk_iff.1 h.set
  have hb := h.great_bd
  have hc := h.cbd
  have e : k.lc + 1 = ((2 ^ k.m.toNat : Nat) : Int) := by unfold Kn.lc; rw [pow2_nat]; omega
  have := nd_up (x := k.great.toNat) (k := k.m.toNat) (by omega) (by omega) (by omega)
  unfold Kn.width; omega
theorem Kn.Ok.code_fits {k : Kn} (h : k.Ok) {code : Int} (h0 : 0 ≤ code) (h1 : code ≤ k.great) : code < pow2 k.width := by
  have hb := h.great_bd
  have hc := h.cbd
  have hw := h.width_bd
  have := nd_down (x := k.great.toNat) (by omega)
  have h2 : (2 : Nat) ^ nd k.great.toNat ≤ 2 ^ k.width.toNat := Nat.pow_le_pow_right (by omega) (by unfold Kn.width; omega)
  rw [pow2_nat]; omega

/-- the bits of codes -/
def Kn.bits (k : Kn) : List Int → List UInt8
  | [] => []
  | code :: t => M.codeBits (k.o == 1) code.toNat k.width.toNat ++ Kn.bits (k.step code) t
theorem Kn.Ok.good_step {k : Kn} (h : k.Ok) {n : Nat} {code : Int} {t : List Int} (hg : k.good n (code :: t) = true) (hne : code ≠ k.c + 1) : (k.step code).Ok ∧ 0 ≤ code ∧ code ≤ k.great ∧ (k.step code).good (n + (k.part code).length) t = true := by
  have hb := h.great_bd
  have hc := h.cbd
  by_cases h1 : code = k.c
  · subst h1
    rw [Kn.good_clear] at hg
    exact ⟨h.step (.inl rfl), by omega, by omega, by rw [Kn.part_none _ _ (.inl rfl)]; simpa using hg⟩
  · rw [Kn.good_code _ _ _ _ h1 hne] at hg
    simp only [Bool.and_eq_true, decide_eq_true_eq] at hg
    have := (h.fol_iff code).1 hg.1
    exact ⟨h.step (.inr hg.1), this.1, this.2.1, by rw [Kn.part_code _ _ h1 hne]; exact hg.2.2⟩
theorem Kn.Ok.good_code0 {k : Kn} (h : k.Ok) {n : Nat} {code : Int} {t : List Int} (hg : k.good n (code :: t) = true) : 0 ≤ code ∧ code ≤ k.great := by
  by_cases h1 : code = k.c + 1
  · have hb := h.great_bd; have hc := h.cbd; omega
  · have := h.good_step hg h1; exact ⟨this.2.1, this.2.2.1⟩
theorem Kn.Ok.bits_len {k : Kn} (h : k.Ok) {n : Nat} {cs : List Int} (hg : k.good n cs = true) : (k.bits cs).length ≤ 10 * cs.length := by
  induction cs generalizing k n with
  | nil => simp [Kn.bits]
  | cons code t ih =>
    have hw := h.width_bd
    have hl : (M.codeBits (k.o == 1) code.toNat k.width.toNat).length = k.width.toNat := by simp [M.codeBits, M.asc, M.dir_length, M.bitsOf_length]
    simp only [Kn.bits, List.length_append, hl, List.length_cons]
    by_cases h1 : code = k.c + 1
    · subst h1
      rw [Kn.good_end] at hg
      have : t = [] := by simpa using hg
      subst this; simp [Kn.bits]; omega
    · have hs := h.good_step hg h1
      have := ih hs.1 hs.2.2.2
      omega
theorem Kn.Ok.dat_len {k : Kn} (h : k.Ok) {n : Nat} {cs : List Int} (hn : n ≤ 2000) (hg : k.good n cs = true) : n + (k.dat cs).length ≤ 2000 := by
  induction cs generalizing k n with
  | nil => simpa [Kn.dat] using hn
  | cons code t ih =>
    simp only [Kn.dat, List.length_append]
    by_cases h1 : code = k.c + 1
    · subst h1
      rw [Kn.good_end] at hg
      have : t = [] := by simpa using hg
      subst this; simp [Kn.dat, Kn.part]; omega
    · have hs := h.good_step hg h1
      have hp : n + (k.part code).length ≤ 2000 := by
        by_cases h2 : code = k.c
        · rw [Kn.part_none _ _ (.inl h2)]; simpa using hn
        · rw [Kn.part_code _ _ h2 h1]
          rw [Kn.good_code _ _ _ _ h2 h1] at hg
          simp only [Bool.and_eq_true, decide_eq_true_eq] at hg
          exact hg.2.1
      have := ih hs.1 hp hs.2.2.2
      omega
end Go.Proofs.Ytoiifopjipfjhaa
