/- Texts cut at a byte and joined again, numbers read from their digits. Mathematics alone. -/
import Derived.Test.YtmfnfheahehpcaaGreatDoorFs
import Derived.Lib.Split
import Derived.Lib.AtoiAllCases
namespace Go.Proofs.YtmfnfheahehpcaaGreatDoor
open Go.ChangeShapes Go.WideShapes Go.ChangeAt Go.RowKit Go.Joins
set_option linter.unusedVariables false
set_option linter.unusedSimpArgs false

/-- a text cut at each byte of one value -/
def cutL (c : UInt8) : List UInt8 → List (List UInt8)
  | [] => [] :: []
  | b :: r => if b = c then [] :: cutL c r else match cutL c r with
    | [] => [b] :: []
    | p :: q => (b :: p) :: q
theorem cutL_free (c : UInt8) : ∀ (l : List UInt8), (∀ x ∈ l, x ≠ c) → cutL c l = [l]
  | [], _ => rfl
  | b :: r, h => by
    rw [cutL, if_neg (h b (by simp)), cutL_free c r (fun x hx => h x (by simp [hx]))]
theorem cutL_hit (c : UInt8) (r : List UInt8) : ∀ (p : List UInt8), (∀ x ∈ p, x ≠ c) → cutL c (p ++ c :: r) = p :: cutL c r
  | [], _ => by rw [List.nil_append, cutL, if_pos rfl]
  | b :: p, h => by
    rw [List.cons_append, cutL, if_neg (h b (by simp)), cutL_hit c r p (fun x hx => h x (by simp [hx]))]
/-- texts with a byte between them -/
def joinL (c : UInt8) : List (List UInt8) → List UInt8
  | [] => []
  | [x] => x
  | x :: y :: r => x ++ c :: joinL c (y :: r)
theorem cutL_join (c : UInt8) : ∀ (l : List (List UInt8)), l ≠ [] → (∀ f ∈ l, ∀ x ∈ f, x ≠ c) → cutL c (joinL c l) = l
  | [], h, _ => absurd rfl h
  | [x], _, h => cutL_free c x (h x (by simp))
  | x :: y :: r, _, h => by
    rw [joinL, cutL_hit c _ x (h x (by simp)), cutL_join c (y :: r) (by simp) (fun f hf => h f (by simp [hf]))]
theorem join_len (c : UInt8) : ∀ (l : List (List UInt8)), l.length ≤ (joinL c l).length + 1
  | [] => by simp
  | [x] => by simp
  | x :: y :: r => by
    have := join_len c (y :: r)
    simp only [joinL, List.length_append, List.length_cons] at *
    omega
theorem index_free (c : UInt8) : ∀ (l : List UInt8), (∀ x ∈ l, x ≠ c) → Lib.index l [c] = -1
  | [], _ => rfl
  | b :: r, h => by
    have hb : ¬ c = b := fun e => h b (by simp) e.symm
    rw [Lib.index, if_neg (by simp [List.isPrefixOf, hb]), index_free c r (fun x hx => h x (by simp [hx]))]
    rfl
theorem index_hit (c : UInt8) (r : List UInt8) : ∀ (p : List UInt8), (∀ x ∈ p, x ≠ c) → Lib.index (p ++ c :: r) [c] = p.length
  | [], _ => by simp [Lib.index, List.isPrefixOf]
  | b :: p, h => by
    have hb : ¬ c = b := fun e => h b (by simp) e.symm
    have ih := index_hit c r p (fun x hx => h x (by simp [hx]))
    rw [List.cons_append, Lib.index, if_neg (by simp [List.isPrefixOf, hb]), ih, if_neg (by simp)]
    simp
theorem splitK_join (c : UInt8) : ∀ (l : List (List UInt8)) (k : Nat), l ≠ [] → l.length ≤ k + 1 → (∀ f ∈ l, ∀ x ∈ f, x ≠ c) → Lib.splitK [c] 0 k (joinL c l) = l
  | [], _, h, _, _ => absurd rfl h
  | [x], k, _, _, h => by
    cases k with
    | zero => rfl
    | succ k => rw [Lib.splitK, joinL, index_free c x (h x (by simp))]; rfl
  | x :: y :: r, k, _, hk, h => by
    cases k with
    | zero => simp at hk
    | succ k =>
      have hi := index_hit c (joinL c (y :: r)) x (h x (by simp))
      have ih := splitK_join c (y :: r) k (by simp) (by simp at hk ⊢; omega) (fun f hf => h f (by simp [hf]))
      rw [Lib.splitK, joinL, hi, if_neg (by simp)]
      have e1 : List.take ((x.length : Int).toNat + 0) (x ++ c :: joinL c (y :: r)) = x := by simp
      have e2 : List.drop ((x.length : Int).toNat + [c].length) (x ++ c :: joinL c (y :: r)) = joinL c (y :: r) := by
        rw [Int.toNat_natCast, List.length_singleton, List.drop_append, List.drop_of_length_le (by omega)]
        simp
      rw [e1, e2, ih]

theorem dig_dec (n : Nat) : ∀ x ∈ Lib.decDigits n, 48 ≤ x.toNat ∧ x.toNat ≤ 57 := by
  induction n using Nat.strongRecOn with
  | ind n ih =>
    intro x hx
    by_cases h : n < 10
    · rw [Lib.decDigits, dif_pos h] at hx
      simp at hx; subst hx
      simp; omega
    · rw [Lib.decDigits, dif_neg h] at hx
      rcases List.mem_append.1 hx with h1 | h1
      · exact ih (n / 10) (by omega) x h1
      · simp at h1; subst h1
        simp; omega
theorem dec_ne_nil (n : Nat) : Lib.decDigits n ≠ [] := by
  by_cases h : n < 10
  · rw [Lib.decDigits, dif_pos h]; simp
  · rw [Lib.decDigits, dif_neg h]; simp
theorem uint_snoc (c : UInt8) (h1 : 48 ≤ c.toNat) (h2 : c.toNat ≤ 57) : ∀ (l : List UInt8) (acc u : Nat), Lib.parseUint10 acc l = .ok u → u * 10 + (c.toNat - 48) < 18446744073709551616 → Lib.parseUint10 acc (l ++ [c]) = .ok (u * 10 + (c.toNat - 48))
  | [], acc, u, h, hb => by
    simp only [Lib.parseUint10] at h
    injection h with h
    subst h
    rw [List.nil_append, Lib.parseUint10, if_pos ⟨h1, h2⟩, if_neg (by omega), if_neg (by omega), Lib.parseUint10]
  | b :: r, acc, u, h, hb => by
    rw [List.cons_append, Lib.parseUint10]
    rw [Lib.parseUint10] at h
    split at h
    · rename_i h3
      rw [if_pos h3]
      split at h
      · cases h
      · rename_i h4
        rw [if_neg h4]
        split at h
        · cases h
        · rename_i h5
          rw [if_neg h5]
          exact uint_snoc c h1 h2 r _ u h hb
    · cases h
theorem uint_dec (n : Nat) (h : n < 18446744073709551616) : Lib.parseUint10 0 (Lib.decDigits n) = .ok n := by
  induction n using Nat.strongRecOn with
  | ind n ih =>
    by_cases h9 : n < 10
    · rw [Lib.decDigits, dif_pos h9]
      have e : (UInt8.ofNat (48 + n)).toNat = 48 + n := by simp; omega
      rw [Lib.parseUint10, e, if_pos (by omega), if_neg (by omega), if_neg (by omega), Lib.parseUint10]
      congr 1; omega
    · rw [Lib.decDigits, dif_neg h9]
      have e : (UInt8.ofNat (48 + n % 10)).toNat = 48 + n % 10 := by simp; omega
      have := uint_snoc (UInt8.ofNat (48 + n % 10)) (by rw [e]; omega) (by rw [e]; omega) _ 0 (n / 10) (ih (n / 10) (by omega) (by omega)) (by rw [e]; omega)
      rw [this, e]
      congr 1; omega
theorem atoi_decD (n : Nat) (h : n < 9223372036854775808) : Lib.atoiAll (Lib.decDigits n) = .ok (n : Int) := by
  have h1 := uint_dec n (by omega)
  have h2 := dig_dec n
  have h3 := dec_ne_nil n
  cases e : Lib.decDigits n with
  | nil => exact absurd e h3
  | cons c r =>
    rw [e] at h1 h2
    have := h2 c (by simp)
    rw [Lib.atoiAll_plain c r (by omega) (by omega), Lib.parseMag, if_neg (by simp), h1, Lib.signless, if_neg (by omega)]

/-- what digits are worth -/
def valL (l : List UInt8) : Nat := l.foldl (fun a c => a * 10 + (c.toNat - 48)) 0
theorem val_snoc (l : List UInt8) (c : UInt8) : valL (l ++ [c]) = valL l * 10 + (c.toNat - 48) := by simp [valL]
theorem val_dec (n : Nat) : valL (Lib.decDigits n) = n := by
  induction n using Nat.strongRecOn with
  | ind n ih =>
    by_cases h9 : n < 10
    · rw [Lib.decDigits, dif_pos h9]; simp [valL]; omega
    · rw [Lib.decDigits, dif_neg h9, val_snoc, ih (n / 10) (by omega)]
      have e : (UInt8.ofNat (48 + n % 10)).toNat = 48 + n % 10 := by simp; omega
      rw [e]; omega
theorem val_take (l : List UInt8) (k : Nat) (c : UInt8) (h : l[k]? = some c) : valL (l.take (k + 1)) = valL (l.take k) * 10 + (c.toNat - 48) := by
  rw [← val_snoc, List.take_add_one, h]; rfl
theorem val_lt (l : List UInt8) (hd : ∀ x ∈ l, x.toNat ≤ 57) : ∀ k, k ≤ l.length → valL (l.take k) < 10 ^ k
  | 0, _ => by simp [valL]
  | k + 1, h => by
    have h1 := val_lt l hd k (by omega)
    have hk : l[k]? = some l[k] := List.getElem?_eq_getElem (by omega)
    have h2 := hd l[k] (List.getElem_mem _)
    rw [val_take l k _ hk, Nat.pow_succ]
    omega
/-- no number's text begins with a nought, but that of nought itself -/
theorem dec_zero (n : Nat) (r : List UInt8) (h : Lib.decDigits n = 48 :: r) : r = [] := by
  induction n using Nat.strongRecOn generalizing r with
  | ind n ih =>
    by_cases h9 : n < 10
    · rw [Lib.decDigits, dif_pos h9] at h
      simp at h; exact h.2
    · rw [Lib.decDigits, dif_neg h9] at h
      cases e : Lib.decDigits (n / 10) with
      | nil => exact absurd e (dec_ne_nil _)
      | cons c q =>
        rw [e, List.cons_append] at h
        injection h with h1 h2
        subst h1
        have hq := ih (n / 10) (by omega) q e
        subst hq
        have h5 := val_dec (n / 10)
        rw [e] at h5
        have h6 : valL [48] = 0 := rfl
        omega

theorem atoi_decI (k : Int) (h0 : 0 ≤ k) (h1 : k ≤ 1000000000000000) : Lib.atoiAll (dec k) = .ok k := by
  rw [dec, atoi_decD _ (by omega)]
  congr 1; omega
end Go.Proofs.YtmfnfheahehpcaaGreatDoor
