/- Plain mathematics: least codes while pairs come in one by one (the finder). No condition. -/
import Derived.Test.YtblmifbpoopbdaaFp
namespace Go.Proofs.Ytblmifbpoopbdaa
set_option linter.unusedVariables false

/-- r is the least code with its word -/
def Lst (c : Int) (Q : List Pr) (r : Nat) : Prop := fnd c Q (wd c Q r) = some r
/-- the least code of the word that is longer by a byte -/
def lk (c : Int) (Q K : List Pr) (r : Nat) (x : Int) : Option Nat := fnd c K (wd c Q r ++ [byt x])
theorem Lst.has {c : Int} {Q : List Pr} {r : Nat} (h : Lst c Q r) : HasW c r Q.length := (fnd_some h).1
theorem fnd_lst {c : Int} {Q : List Pr} {w : List UInt8} {r : Nat} (h : fnd c Q w = some r) : Lst c Q r := by
  have := (fnd_some h).2.1
  unfold Lst; rw [this]; exact h
theorem wd_more {c : Int} {Q : List Pr} {p : Pr} {r : Nat} (h : Lst c Q r) : wd c (Q ++ [p]) r = wd c Q r := word_append _ _ _ _ h.has
theorem Lst.more {c : Int} {Q : List Pr} {r : Nat} (h : Lst c Q r) (p : Pr) : Lst c (Q ++ [p]) r := by
  unfold Lst; rw [wd_more h]; exact fnd_more [p] h
theorem Lst.ltn {c : Int} {Q : List Pr} {r : Nat} (hc : 0 ≤ c) (h : Lst c Q r) : r < c.toNat + 2 + Q.length := by
  have := h.has
  unfold HasW at this
  omega
theorem Lst.lit {c : Int} {Q : List Pr} {r : Nat} (hc : c ≤ 256) (hQ : PairsOk c Q) (h : (r : Int) < c) : Lst c Q r := by
  unfold Lst
  rw [word_lit _ _ _ (by omega)]
  exact fnd_lit hc hQ h
theorem wd_new {c : Int} (hc : 0 ≤ c) (Q : List Pr) (p : Pr) : wd c (Q ++ [p]) ((c.toNat + 2 + Q.length : Nat) : Int) = wd c Q p.1 ++ [byt p.2] := by
  have := word_new c Q p
  rw [show ((c.toNat + 2 + Q.length : Nat) : Int) = c + 2 + Q.length from by omega]
  exact this
theorem Lst.new {c : Int} {Q : List Pr} {p : Pr} (hc : 0 ≤ c) (h : fnd c Q (wd c Q p.1 ++ [byt p.2]) = none) : Lst c (Q ++ [p]) (c.toNat + 2 + Q.length) := by
  unfold Lst
  have e := wd_new hc Q p
  rw [e]
  exact fnd_snoc hc h rfl
theorem Lst.back {c : Int} {Q : List Pr} {p : Pr} {r : Nat} (hc : 0 ≤ c) (h : Lst c (Q ++ [p]) r) (hr : r ≠ c.toNat + 2 + Q.length) : Lst c Q r := by
  have h1 : HasW c r Q.length := by
    have := h.has
    unfold HasW at this ⊢
    simp at this
    omega
  obtain ⟨s, hs, _⟩ := fnd_of hc h1
  have h2 := fnd_more [p] hs
  have h3 : wd c (Q ++ [p]) r = wd c Q r := word_append _ _ _ _ h1
  unfold Lst at h
  rw [h3, h2] at h
  have : s = r := Option.some.inj h
  unfold Lst
  rw [hs, this]
/-- a word that is there already: no new least code -/
theorem Lst.dup {c : Int} {Q : List Pr} {p : Pr} {s : Nat} (hc : 0 ≤ c) (h : fnd c Q (wd c Q p.1 ++ [byt p.2]) = some s) : ¬ Lst c (Q ++ [p]) (c.toNat + 2 + Q.length) := by
  intro h1
  have e := wd_new hc Q p
  unfold Lst at h1
  rw [e, fnd_more [p] h] at h1
  have h2 : s = c.toNat + 2 + Q.length := Option.some.inj h1
  have h3 := (fnd_lst h).ltn hc
  omega
/-- a pair whose word is there already changes nothing -/
theorem fnd_dup {c : Int} (hc : 0 ≤ c) {Q : List Pr} {p : Pr} {s : Nat} (h : fnd c Q (wd c Q p.1 ++ [byt p.2]) = some s) (w : List UInt8) : fnd c (Q ++ [p]) w = fnd c Q w := by
  cases hw : fnd c Q w with
  | some r => exact fnd_more [p] hw
  | none =>
    refine fnd_other hc hw (fun e => ?_)
    rw [e, hw] at h
    cases h
/-- a new word is found at the new code, and nothing else changes -/
theorem fnd_add {c : Int} (hc : 0 ≤ c) {Q : List Pr} {p : Pr} (h : fnd c Q (wd c Q p.1 ++ [byt p.2]) = none) (w : List UInt8) : fnd c (Q ++ [p]) w = if w = wd c Q p.1 ++ [byt p.2] then some (c.toNat + 2 + Q.length) else fnd c Q w := by
  split
  · rename_i e
    exact fnd_snoc hc (by rw [e]; exact h) e.symm
  · rename_i e
    cases hw : fnd c Q w with
    | some r => exact fnd_more [p] hw
    | none => exact fnd_other hc hw (fun e2 => e e2.symm)
theorem byt_inj {x y : Int} (hx : 0 ≤ x ∧ x ≤ 255) (hy : 0 ≤ y ∧ y ≤ 255) (h : byt x = byt y) : x = y := by
  rw [← byt_nat hx.1 hx.2, ← byt_nat hy.1 hy.2, h]
/-- longer words are equal only if the least codes of their beginnings and their last bytes are -/
theorem lk_eq {c : Int} {Q : List Pr} {r r0 : Nat} {a x y : Int} (h : Lst c Q r) (h0 : fnd c Q (wd c Q a) = some r0) (hx : 0 ≤ x ∧ x ≤ 255) (hy : 0 ≤ y ∧ y ≤ 255) : wd c Q r ++ [byt x] = wd c Q a ++ [byt y] ↔ r = r0 ∧ x = y := by
  constructor
  · intro e
    have e1 := List.append_inj' e rfl
    refine ⟨?_, byt_inj hx hy (by simpa using e1.2)⟩
    unfold Lst at h
    rw [e1.1, h0] at h
    exact (Option.some.inj h).symm
  · rintro ⟨rfl, rfl⟩
    have : wd c Q r = wd c Q a := (fnd_some h0).2.1
    rw [this]
/-- no word begins with a new word -/
theorem fnd_deeper {c : Int} (hc : 0 ≤ c) {Q : List Pr} {p : Pr} (hQ : PairsOk c Q) (h : fnd c Q (wd c Q p.1 ++ [byt p.2]) = none) (b : UInt8) : fnd c (Q ++ [p]) (wd c Q p.1 ++ [byt p.2] ++ [b]) = none := by
  rw [fnd_add hc h, if_neg (by simp)]
  cases hw : fnd c Q (wd c Q p.1 ++ [byt p.2] ++ [b]) with
  | none => rfl
  | some r =>
    obtain ⟨r', hr⟩ := fnd_pre hc hQ hw (j := (wd c Q p.1).length + 1) (by omega) (by simp)
    rw [show (wd c Q p.1 ++ [byt p.2] ++ [b]).take ((wd c Q p.1).length + 1) = wd c Q p.1 ++ [byt p.2] from by
      rw [List.take_append_of_le_length (by simp), List.take_of_length_le (by simp)], h] at hr
    cases hr
end Go.Proofs.Ytblmifbpoopbdaa
