/- Pieces of a count: when they are valid, what stands at a number, which numbers are lost. No condition but that all is within an int. -/
import Derived.Test.YtdehancgadkfaaaDoorEa
import Derived.Test.YtdehancgadkfaaaDoorQy
namespace Go.Proofs.YtdehancgadkfaaaDoor
open Go.ChangeShapes Go.WideShapes Go.ChangeAt Go.RowKit Go.Joins
set_option linter.unusedVariables false
set_option linter.unusedSimpArgs false

def q0 (ps : List Qp) (i : Nat) : Int := (ps.getD i (0, ByteArray.empty)).1
def q1 (ps : List Qp) (i : Nat) : ByteArray := (ps.getD i (0, ByteArray.empty)).2
/-- piece i may follow the one ahead of it; c is the greatest number -/
def pcStep (ps : List Qp) (c : Int) (i : Nat) : Prop := (0 ≤ q0 ps i ∧ q0 ps i ≤ c) ∧ (0 < i → q0 ps (i - 1) < q0 ps i) ∧ (1 ≤ (q1 ps i).size ∧ (q1 ps i).size ≤ 64)
def pcOk (ps : List Qp) (c : Int) : Prop := (0 ≤ c ∧ c ≤ 40) ∧ ∀ i, i < ps.length → pcStep ps (c - 1) i
noncomputable instance (ps : List Qp) (c : Int) : Decidable (pcOk ps c) := Classical.propDecidable _
theorem pcOk_no {ps : List Qp} {c : Int} (i : Nat) (h : i < ps.length) (hs : ¬ pcStep ps (c - 1) i) : decide (pcOk ps c) = false := decide_eq_false fun hp => hs (hp.2 i h)
theorem q_at {ps : List Qp} (i : Nat) (h : i < ps.length) : q0 ps i = ps[i].1 ∧ q1 ps i = ps[i].2 := by simp [q0, q1, List.getD_eq_getElem?_getD, h]
/-- the data of the first piece with a number -/
def hasq : List Qp → Int → ByteArray
  | [], _ => ByteArray.empty
  | p :: t, n => if p.1 = n then p.2 else hasq t n
theorem hasq_snoc (l : List Qp) (x : Int) (d : ByteArray) (n : Int) (h : ∀ p ∈ l, p.1 ≠ x) : hasq (l ++ [(x, d)]) n = if n = x then d else hasq l n := by
  induction l with
  | nil =>
    by_cases e : n = x
    · subst e; simp [hasq]
    · rw [if_neg e]
      show (if x = n then d else hasq [] n) = hasq [] n
      rw [if_neg (fun e1 => e e1.symm)]
  | cons p t ih =>
    have hp := h p (by simp)
    rw [List.cons_append]
    show (if p.1 = n then p.2 else hasq (t ++ [(x, d)]) n) = if n = x then d else (if p.1 = n then p.2 else hasq t n)
    rw [ih (fun q hq => h q (by simp [hq]))]
    by_cases e : n = x
    · subst e
      rw [if_neg hp, if_pos rfl, if_pos rfl]
    · rw [if_neg e, if_neg e]
theorem pc_asc {ps : List Qp} {c : Int} (k : Nat) (h : ∀ i, i < k → pcStep ps c i) (j : Nat) (hj : j < k) : ∀ i, i < j → q0 ps i < q0 ps j := by
  induction j with
  | zero => intro i hi; omega
  | succ j ih =>
    intro i hi
    have h1 := (h (j + 1) hj).2.1 (by omega)
    rw [Nat.add_sub_cancel] at h1
    by_cases e : i = j
    · subst e; exact h1
    · have := ih (by omega) i (by omega); omega
theorem pc_none {ps : List Qp} {c : Int} (k : Nat) (hk : k < ps.length) (h : ∀ i, i < k + 1 → pcStep ps c i) : ∀ p ∈ ps.take k, p.1 ≠ q0 ps k := by
  intro p hp e
  obtain ⟨i, hi, rfl⟩ := List.getElem_of_mem hp
  have hi2 : i < k := by simp at hi; omega
  have h1 := pc_asc (k + 1) h k (by omega) i hi2
  have h2 := (q_at (ps := ps) i (by omega)).1
  rw [List.getElem_take] at e
  omega
theorem hasq_take {ps : List Qp} {c : Int} (k : Nat) (hk : k < ps.length) (h : ∀ i, i < k + 1 → pcStep ps c i) (n : Int) : hasq (ps.take (k + 1)) n = if n = q0 ps k then q1 ps k else hasq (ps.take k) n := by
  rw [List.take_succ_eq_append_getElem hk, ← hasq_snoc (ps.take k) (q0 ps k) (q1 ps k) n (pc_none k hk h), (q_at k hk).1, (q_at k hk).2]
/-- the data for each number below a count -/
def datas (ps : List Qp) (c : Nat) : List ByteArray := (List.range c).map fun (n : Nat) => hasq ps n
theorem datas_len (ps : List Qp) (c : Nat) : (datas ps c).length = c := by simp [datas]
theorem datas_get (ps : List Qp) (c n : Nat) (h : n < c) : (datas ps c)[n]? = some (hasq ps n) := by simp [datas, h]
theorem datas_nil (c : Nat) : datas [] c = List.replicate c ByteArray.empty := by
  apply List.ext_getElem?
  intro i
  by_cases h : i < c
  · rw [datas_get _ _ _ h, List.getElem?_replicate, if_pos h]; rfl
  · rw [List.getElem?_eq_none (by rw [datas_len]; omega), List.getElem?_eq_none (by simp; omega)]
theorem datas_set {ps : List Qp} {c1 : Int} (c k x : Nat) (hk : k < ps.length) (h : ∀ i, i < k + 1 → pcStep ps c1 i) (hx : (x : Int) = q0 ps k) (hc : x < c) : (datas (ps.take k) c).set x (q1 ps k) = datas (ps.take (k + 1)) c := by
  apply List.ext_getElem?
  intro i
  by_cases hi : i < c
  · rw [datas_get _ _ _ hi, hasq_take k hk h]
    by_cases e : i = x
    · subst e
      rw [List.getElem?_set_self (by rw [datas_len]; omega), if_pos hx]
    · rw [List.getElem?_set_ne (by omega), datas_get _ _ _ hi, if_neg (by omega)]
  · rw [List.getElem?_eq_none (by simp [datas_len]; omega), List.getElem?_eq_none (by rw [datas_len]; omega)]
/-- the numbers below k without data -/
def lostq (ps : List Qp) (k : Nat) : List Int := ((List.range k).filter fun (n : Nat) => (hasq ps (n : Int)).data.toList.isEmpty).map fun (n : Nat) => (n : Int)
theorem lostq_yes (ps : List Qp) (k : Nat) (h : (hasq ps k).data.toList.isEmpty = true) : lostq ps (k + 1) = lostq ps k ++ [(k : Int)] := by
  unfold lostq; rw [List.range_succ, List.filter_append, List.map_append]; simp only [List.filter_cons, h, if_true, List.filter_nil, List.map_cons, List.map_nil]
theorem lostq_no (ps : List Qp) (k : Nat) (h : (hasq ps k).data.toList.isEmpty = false) : lostq ps (k + 1) = lostq ps k := by
  unfold lostq; rw [List.range_succ, List.filter_append, List.map_append]; simp only [List.filter_cons, h, Bool.false_eq_true, if_false, List.filter_nil, List.map_nil, List.append_nil]
theorem lostq_len (ps : List Qp) (k : Nat) : (lostq ps k).length ≤ k := by
  unfold lostq
  rw [List.length_map]
  exact Nat.le_trans (List.length_filter_le _ _) (by simp)
end Go.Proofs.YtdehancgadkfaaaDoor
