/- Plain mathematics: what the finder holds: a node for each least code, the kept words in tables, the others in a map. No condition. -/
import Derived.Test.YtblmifbpoopbdaaFq
namespace Go.Proofs.Ytblmifbpoopbdaa
set_option linter.unusedVariables false

instance (c : Int) (Q : List Pr) (r : Nat) : Decidable (Lst c Q r) := by unfold Lst; infer_instance
/-- the block of the node with a word -/
def ndAt (c : Int) (Q : List Pr) (N : Nat → Nat) (w : List UInt8) : Option Nat := (fnd c Q w).map N
/-- what lies in the map: what no table holds -/
def inMap (c : Int) (Q K : List Pr) (N : Nat → Nat) (r : Nat) (x : Int) : Option Nat :=
  if Lst c Q r ∧ fnd c K (wd c Q r ++ [byt x]) = none then ndAt c Q N (wd c Q r ++ [byt x]) else none
/-- one more node -/
def addN (N : Nat → Nat) (m g : Nat) : Nat → Nat := fun r => if r = m then g else N r
theorem addN_same (N : Nat → Nat) (m g : Nat) : addN N m g m = g := by simp [addN]
theorem addN_other {N : Nat → Nat} {m g r : Nat} (h : r ≠ m) : addN N m g r = N r := by simp [addN, h]
/-- the code behind the last one -/
def top (c : Int) (Q : List Pr) : Nat := c.toNat + 2 + Q.length

theorem kept_dup {c : Int} (hc : 0 ≤ c) {Q : List Pr} {p : Pr} {s : Nat} (h : fnd c Q (wd c Q p.1 ++ [byt p.2]) = some s) (b : Nat) (w : List UInt8) : fnd c ((Q ++ [p]).take b) w = fnd c (Q.take b) w := by
  by_cases hb : b ≤ Q.length
  · rw [List.take_append_of_le_length hb]
  · rw [List.take_of_length_le (by simp; omega), List.take_of_length_le (by omega)]
    exact fnd_dup hc h w
theorem lst_dup {c : Int} (hc : 0 ≤ c) {Q : List Pr} {p : Pr} {s : Nat} (h : fnd c Q (wd c Q p.1 ++ [byt p.2]) = some s) (r : Nat) : Lst c (Q ++ [p]) r ↔ Lst c Q r := by
  constructor
  · intro h1
    refine h1.back hc (fun e => ?_)
    subst e
    exact Lst.dup hc h h1
  · exact fun h1 => h1.more p
theorem ndAt_dup {c : Int} (hc : 0 ≤ c) {Q : List Pr} {p : Pr} {s : Nat} (h : fnd c Q (wd c Q p.1 ++ [byt p.2]) = some s) (N : Nat → Nat) (w : List UInt8) : ndAt c (Q ++ [p]) N w = ndAt c Q N w := by rw [ndAt, fnd_dup hc h, ndAt]
theorem inMap_dup {c : Int} (hc : 0 ≤ c) {Q : List Pr} {p : Pr} {s : Nat} (h : fnd c Q (wd c Q p.1 ++ [byt p.2]) = some s) (b : Nat) (N : Nat → Nat) (r : Nat) (x : Int) : inMap c (Q ++ [p]) ((Q ++ [p]).take b) N r x = inMap c Q (Q.take b) N r x := by
  unfold inMap
  by_cases h1 : Lst c Q r
  · have h2 := (lst_dup hc h r).2 h1
    rw [wd_more h1, kept_dup hc h, ndAt_dup hc h]
    simp only [h1, h2]
  · have h2 : ¬ Lst c (Q ++ [p]) r := fun h3 => h1 ((lst_dup hc h r).1 h3)
    simp [h1, h2]
/-! ### a new word -/
section
variable {c : Int} {Q : List Pr} {p : Pr}
theorem lst_new (hc : 0 ≤ c) (h : fnd c Q (wd c Q p.1 ++ [byt p.2]) = none) (r : Nat) : Lst c (Q ++ [p]) r ↔ (Lst c Q r ∨ r = top c Q) := by
  constructor
  · intro h1
    by_cases hr : r = top c Q
    · exact .inr hr
    · exact .inl (h1.back hc hr)
  · rintro (h1 | rfl)
    · exact h1.more p
    · exact Lst.new hc h
theorem lst_ne (hc : 0 ≤ c) {r : Nat} (h : Lst c Q r) : r ≠ top c Q := by have := h.ltn hc; unfold top; omega
theorem wd_top (hc : 0 ≤ c) : wd c (Q ++ [p]) ((top c Q : Nat) : Int) = wd c Q p.1 ++ [byt p.2] := wd_new hc Q p
theorem fnd_fresh (hc : 0 ≤ c) (h : fnd c Q (wd c Q p.1 ++ [byt p.2]) = none) {r r0 : Nat} (hr : Lst c Q r) (h0 : fnd c Q (wd c Q p.1) = some r0) {x : Int} (hx : 0 ≤ x ∧ x ≤ 255) (hp : 0 ≤ p.2 ∧ p.2 ≤ 255) :
    fnd c (Q ++ [p]) (wd c Q r ++ [byt x]) = if r = r0 ∧ x = p.2 then some (top c Q) else fnd c Q (wd c Q r ++ [byt x]) := by
  rw [fnd_add hc h]
  have := lk_eq hr h0 hx hp
  by_cases hq : r = r0 ∧ x = p.2
  · rw [if_pos (this.2 hq), if_pos hq]; rfl
  · rw [if_neg (fun e => hq (this.1 e)), if_neg hq]
theorem ndAt_fresh (hc : 0 ≤ c) (h : fnd c Q (wd c Q p.1 ++ [byt p.2]) = none) {r r0 : Nat} (hr : Lst c Q r) (h0 : fnd c Q (wd c Q p.1) = some r0) {x : Int} (hx : 0 ≤ x ∧ x ≤ 255) (hp : 0 ≤ p.2 ∧ p.2 ≤ 255) (N : Nat → Nat) (g : Nat) :
    ndAt c (Q ++ [p]) (addN N (top c Q) g) (wd c Q r ++ [byt x]) = if r = r0 ∧ x = p.2 then some g else ndAt c Q N (wd c Q r ++ [byt x]) := by
  rw [ndAt, fnd_fresh hc h hr h0 hx hp]
  split
  · simp [addN]
  · rw [ndAt]
    cases hf : fnd c Q (wd c Q r ++ [byt x]) with
    | none => rfl
    | some s => simp [addN_other (lst_ne hc (fnd_lst hf))]
theorem fnd_deep (hc : 0 ≤ c) (hQ : PairsOk c Q) (h : fnd c Q (wd c Q p.1 ++ [byt p.2]) = none) (x : UInt8) : fnd c (Q ++ [p]) (wd c (Q ++ [p]) ((top c Q : Nat) : Int) ++ [x]) = none := by
  rw [wd_top hc]; exact fnd_deeper hc hQ h x
theorem kept_deep (hc : 0 ≤ c) (hQ : PairsOk c Q) (h : fnd c Q (wd c Q p.1 ++ [byt p.2]) = none) (x : UInt8) (b : Nat) : fnd c ((Q ++ [p]).take b) (wd c (Q ++ [p]) ((top c Q : Nat) : Int) ++ [x]) = none := by
  cases hf : fnd c ((Q ++ [p]).take b) (wd c (Q ++ [p]) ((top c Q : Nat) : Int) ++ [x]) with
  | none => rfl
  | some s =>
    have := fnd_more ((Q ++ [p]).drop b) hf
    rw [List.take_append_drop, fnd_deep hc hQ h] at this
    cases this
/-- a word in the tables, behind a kept pair -/
theorem kept_fresh (hc : 0 ≤ c) (h : fnd c Q (wd c Q p.1 ++ [byt p.2]) = none) {r r0 : Nat} (hr : Lst c Q r) (h0 : fnd c Q (wd c Q p.1) = some r0) {x : Int} (hx : 0 ≤ x ∧ x ≤ 255) (hp : 0 ≤ p.2 ∧ p.2 ≤ 255) {b : Nat} (hb : Q.length < b) :
    fnd c ((Q ++ [p]).take b) (wd c Q r ++ [byt x]) = if r = r0 ∧ x = p.2 then some (top c Q) else fnd c (Q.take b) (wd c Q r ++ [byt x]) := by
  rw [List.take_of_length_le (by simp; omega), List.take_of_length_le (by omega)]
  exact fnd_fresh hc h hr h0 hx hp
theorem kept_same {b : Nat} (hb : b ≤ Q.length) : (Q ++ [p]).take b = Q.take b := List.take_append_of_le_length hb
/-- where all is kept the map holds nothing -/
theorem inMap_kept {b : Nat} (hb : Q.length ≤ b) (N : Nat → Nat) (r : Nat) (x : Int) : inMap c Q (Q.take b) N r x = none := by
  rw [List.take_of_length_le hb]
  unfold inMap
  split
  · rename_i h; rw [ndAt, h.2]; rfl
  · rfl
/-- a word in the map -/
theorem inMap_fresh (hc : 0 ≤ c) (hQ : PairsOk c Q) (h : fnd c Q (wd c Q p.1 ++ [byt p.2]) = none) {r0 : Nat} (h0 : fnd c Q (wd c Q p.1) = some r0) (hp : 0 ≤ p.2 ∧ p.2 ≤ 255) {b : Nat} (hb : b ≤ Q.length) (N : Nat → Nat) (g r : Nat) {x : Int} (hx : 0 ≤ x ∧ x ≤ 255) :
    inMap c (Q ++ [p]) ((Q ++ [p]).take b) (addN N (top c Q) g) r x = if r = r0 ∧ x = p.2 then some g else inMap c Q (Q.take b) N r x := by
  rw [kept_same hb]
  have hw0 : wd c Q r0 = wd c Q p.1 := (fnd_some h0).2.1
  have hk0 : fnd c (Q.take b) (wd c Q p.1 ++ [byt p.2]) = none := by
    cases hf : fnd c (Q.take b) (wd c Q p.1 ++ [byt p.2]) with
    | none => rfl
    | some s =>
      have := fnd_more (Q.drop b) hf
      rw [List.take_append_drop, h] at this
      cases this
  by_cases h1 : Lst c Q r
  · have h2 := h1.more p
    unfold inMap
    rw [wd_more h1, ndAt_fresh hc h h1 h0 hx hp]
    by_cases hq : r = r0 ∧ x = p.2
    · rw [if_pos hq, if_pos hq, if_pos]
      refine ⟨h2, ?_⟩
      rw [hq.1, hq.2, hw0]; exact hk0
    · rw [if_neg hq, if_neg hq]
      simp only [h1, h2]
  · have hn : ¬ (r = r0 ∧ x = p.2) := fun e => h1 (by rw [e.1]; exact fnd_lst h0)
    rw [if_neg hn]
    have e2 : inMap c Q (Q.take b) N r x = none := by unfold inMap; rw [if_neg (fun e => h1 e.1)]
    rw [e2]
    unfold inMap
    by_cases hr : r = top c Q
    · subst hr
      split
      · rw [ndAt, fnd_deep hc hQ h]; rfl
      · rfl
    · rw [if_neg]
      intro e
      rcases (lst_new hc h r).1 e.1 with h3 | h3
      · exact h1 h3
      · exact hr h3
end
/-! ### fewer pairs -/
theorem lst_take {c : Int} {Q : List Pr} {b r : Nat} (h : Lst c (Q.take b) r) : Lst c Q r ∧ wd c Q r = wd c (Q.take b) r := by
  have e : wd c Q r = wd c (Q.take b) r := by
    have := word_append c (Q.take b) (Q.drop b) r h.has
    rw [List.take_append_drop] at this
    exact this
  refine ⟨?_, e⟩
  unfold Lst
  have := fnd_more (Q.drop b) (show fnd c (Q.take b) (wd c (Q.take b) r) = some r from h)
  rw [List.take_append_drop] at this
  rw [e]; exact this
/-! ### the nodes by code -/
def ptr (x : Option Nat) : Value := .pointer (x.map fun b => ⟨b, 0, none⟩)
def nodeAt (c : Int) (Q : List Pr) (N : Nat → Nat) (j : Nat) : Value := ptr (if HasW c j Q.length then ndAt c Q N (wd c Q j) else none)
def nodesL (c : Int) (Q : List Pr) (N : Nat → Nat) : List Value := (List.range (top c Q)).map (nodeAt c Q N)
theorem nodesL_len (c : Int) (Q : List Pr) (N : Nat → Nat) : (nodesL c Q N).length = top c Q := by simp [nodesL]
theorem nodesL_get {c : Int} {Q : List Pr} {j : Nat} (h : j < top c Q) (N : Nat → Nat) : (nodesL c Q N)[j]? = some (nodeAt c Q N j) := by simp [nodesL, h]
theorem ndAt_has {c : Int} (hc : 0 ≤ c) {Q : List Pr} {code : Int} (h : HasW c code Q.length) (N : Nat → Nat) : ∃ r, fnd c Q (wd c Q code) = some r ∧ Lst c Q r ∧ ndAt c Q N (wd c Q code) = some (N r) ∧ (r : Int) ≤ code := by
  obtain ⟨r, hr, hle⟩ := fnd_of hc h
  exact ⟨r, hr, fnd_lst hr, by rw [ndAt, hr]; rfl, hle⟩
theorem nodeAt_has {c : Int} {Q : List Pr} {j : Nat} (h : HasW c j Q.length) (N : Nat → Nat) : nodeAt c Q N j = ptr (ndAt c Q N (wd c Q j)) := by rw [nodeAt, if_pos h]
theorem nodeAt_old {c : Int} (hc : 0 ≤ c) {Q : List Pr} (p : Pr) {N N' : Nat → Nat} (hN : ∀ r, Lst c Q r → N' r = N r) {j : Nat} (hj : j < top c Q) : nodeAt c (Q ++ [p]) N' j = nodeAt c Q N j := by
  unfold top at hj
  by_cases h : HasW c j Q.length
  · have h2 : HasW c j (Q ++ [p]).length := h.mono (by simp)
    rw [nodeAt_has h, nodeAt_has h2, word_append _ _ _ _ h]
    obtain ⟨r, hr, hl, e, _⟩ := ndAt_has hc h N
    rw [e, ndAt, fnd_more [p] hr]
    simp [hN r hl]
  · have h2 : ¬ HasW c j (Q ++ [p]).length := by unfold HasW at h ⊢; simp; omega
    rw [nodeAt, nodeAt, if_neg h, if_neg h2]
theorem nodesL_snoc {c : Int} (hc : 0 ≤ c) {Q : List Pr} (p : Pr) {N N' : Nat → Nat} (hN : ∀ r, Lst c Q r → N' r = N r) : nodesL c (Q ++ [p]) N' = nodesL c Q N ++ [nodeAt c (Q ++ [p]) N' (top c Q)] := by
  have e : top c (Q ++ [p]) = top c Q + 1 := by simp [top]; omega
  rw [nodesL, e, List.range_succ, List.map_append, List.map_singleton, nodesL]
  congr 1
  exact List.map_congr_left (fun j hj => nodeAt_old hc p hN (List.mem_range.1 hj))
theorem nodeAt_top {c : Int} (hc : 0 ≤ c) {Q : List Pr} (p : Pr) (N : Nat → Nat) : nodeAt c (Q ++ [p]) N (top c Q) = ptr (ndAt c (Q ++ [p]) N (wd c Q p.1 ++ [byt p.2])) := by
  rw [nodeAt_has (by unfold HasW top; simp; omega), wd_top hc]
theorem nodesL_take {c : Int} (hc : 0 ≤ c) {Q : List Pr} {b : Nat} (hb : b ≤ Q.length) (N : Nat → Nat) : nodesL c (Q.take b) N = (nodesL c Q N).take (c.toNat + 2 + b) := by
  have hl : (Q.take b).length = b := by simp; omega
  apply List.ext_getElem?
  intro j
  rw [List.getElem?_take]
  by_cases hj : j < c.toNat + 2 + b
  · rw [if_pos hj, nodesL_get (by unfold top; omega), nodesL_get (by unfold top; omega)]
    congr 1
    by_cases h : HasW c j b
    · rw [nodeAt_has (by rw [hl]; exact h), nodeAt_has (h.mono hb), word_take _ _ _ _ hb h]
      obtain ⟨r, hr, _, e, hle⟩ := ndAt_has hc (Q := Q) (h.mono hb) N
      rw [e, ndAt, fnd_take hc b hb, hr]
      simp only
      rw [if_pos (by omega)]; rfl
    · have h2 : ¬ HasW c j Q.length := by unfold HasW at h ⊢; omega
      rw [nodeAt, nodeAt, hl, if_neg h, if_neg h2]
  · rw [if_neg hj, List.getElem?_eq_none (by rw [nodesL_len]; unfold top; omega)]
theorem nodeAt_lit {c : Int} (hc : c ≤ 256) (N : Nat → Nat) {j : Nat} (h : (j : Int) < c) : nodeAt c [] N j = ptr (some (N j)) := by
  have h1 : HasW c j ([] : List Pr).length := .inl ⟨by omega, h⟩
  rw [nodeAt_has h1, word_lit _ _ _ (by omega), ndAt, fnd_lit hc (fun i p hp => by simp at hp) h]
  rfl
theorem nodeAt_mid {c : Int} (N : Nat → Nat) {j : Nat} (h : c ≤ (j : Int)) : nodeAt c [] N j = ptr none := by
  have h1 : ¬ HasW c j ([] : List Pr).length := by unfold HasW; simp; omega
  rw [nodeAt, if_neg h1]
end Go.Proofs.Ytblmifbpoopbdaa
