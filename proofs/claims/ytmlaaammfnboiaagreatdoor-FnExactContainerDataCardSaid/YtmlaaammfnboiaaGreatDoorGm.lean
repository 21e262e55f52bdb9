/- Plain mathematics: the least code with a word, and the longest word with which data begins. No condition. Plain mathematics: least codes while pairs come in one by one (the finder). No condition. Plain mathematics: what the finder holds: a node for each least code, the kept words in tables, the others in a map. No condition. Plain mathematics: the codes of the longest words. No condition. Plain mathematics: the least code and the longest word, found by going through the codes. No condition. Plain mathematics: the codes of the longest words, one by one. No condition. Plain mathematics: what is known behind the words of a text. No condition. -/
import Derived.Test.YtmlaaammfnboiaaGreatDoorFm
import Derived.Test.YtmlaaammfnboiaaGreatDoorBa
namespace Go.Proofs.YtmlaaammfnboiaaGreatDoor
section
set_option linter.unusedVariables false

/-- the least code with a word, among the literals and the pairs -/
def fnd (c : Int) (P : List Pr) (w : List UInt8) : Option Nat := (List.range (c.toNat + 2 + P.length)).find? (fun n => decide (HasW c n P.length) && (wd c P n == w))
theorem fnd_some {c : Int} {P : List Pr} {w : List UInt8} {n : Nat} (h : fnd c P w = some n) : HasW c n P.length ∧ wd c P n = w ∧ ∀ j : Nat, j < n → HasW c j P.length → wd c P j ≠ w := by
 unfold fnd at h
 obtain ⟨h1, h2, h3⟩ := List.find?_range_eq_some.1 h
 simp only [Bool.and_eq_true, decide_eq_true_eq, beq_iff_eq] at h1
 refine ⟨h1.1, h1.2, fun j hj hw he => ?_⟩
 have := h3 j hj
 simp [hw, he] at this
theorem fnd_none {c : Int} (hc : 0 ≤ c) {P : List Pr} {w : List UInt8} (h : fnd c P w = none) : ∀ j : Int, HasW c j P.length → wd c P j ≠ w := by
 intro j hw he
 unfold fnd at h
 rw [List.find?_eq_none] at h
 have h0 : 0 ≤ j ∧ j < c + 2 + P.length := by unfold HasW at hw; omega
 have hm : j.toNat ∈ List.range (c.toNat + 2 + P.length) := by rw [List.mem_range]; omega
 have := h _ hm
 have e : ((j.toNat : Nat) : Int) = j := by omega
 simp [e, hw, he] at this
theorem fnd_is {c : Int} {P : List Pr} {w : List UInt8} {n : Nat} (h1 : HasW c n P.length) (h2 : wd c P n = w) (h3 : ∀ j : Nat, j < n → HasW c j P.length → wd c P j ≠ w) : fnd c P w = some n := by
 unfold fnd
 refine List.find?_range_eq_some.2 ⟨by simp [h1, h2], ?_, fun j hj => ?_⟩
 ·rw [List.mem_range]; unfold HasW at h1; omega
 ·by_cases hw : HasW c j P.length
  ·have := h3 j hj hw
   simp [hw, this]
  ·simp [hw]
theorem fnd_no {c : Int} {P : List Pr} {w : List UInt8} (h : ∀ j : Int, HasW c j P.length → wd c P j ≠ w) : fnd c P w = none := by
 cases hf : fnd c P w with
 | none => rfl
 | some n =>
  have := fnd_some hf
  exact absurd this.2.1 (h _ this.1)
/-- a code that has a word has a least one -/
theorem fnd_of {c : Int} (hc : 0 ≤ c) {P : List Pr} {code : Int} (h : HasW c code P.length) : ∃ r, fnd c P (wd c P code) = some r ∧ (r : Int) ≤ code := by
 cases hf : fnd c P (wd c P code) with
 | none => exact absurd rfl (fnd_none hc hf code h)
 | some r =>
  refine ⟨r, rfl, ?_⟩
  have h3 := (fnd_some hf).2.2
  have h0 : 0 ≤ code := by unfold HasW at h; omega
  have e : ((code.toNat : Nat) : Int) = code := by omega
  by_cases hlt : (r : Int) ≤ code
  ·exact hlt
  ·exact absurd (by rw [e]) (h3 code.toNat (by omega) (by rw [e]; exact h))
/-- a literal's word -/
theorem fnd_lit {c : Int} {P : List Pr} {code : Nat} (hc : c ≤ 256) (hP : PairsOk c P) (h : (code : Int) < c) : fnd c P [byt code] = some code := by
 refine fnd_is (.inl ⟨by omega, h⟩) (word_lit _ _ _ (by omega)) (fun j hj _ he => ?_)
 rw [word_lit _ _ _ (by omega)] at he
 have h1 := byt_nat (n := (j : Int)) (by omega) (by omega)
 have h2 := byt_nat (n := (code : Int)) (by omega) (by omega)
 have h3 : byt (j : Int) = byt (code : Int) := by simpa using he
 rw [h3] at h1
 omega
/-- one more pair -/
theorem fnd_more {c : Int} {P : List Pr} (Q : List Pr) {w : List UInt8} {n : Nat} (h : fnd c P w = some n) : fnd c (P ++ Q) w = some n := by
 obtain ⟨h1, h2, h3⟩ := fnd_some h
 refine fnd_is (h1.mono (by simp)) (by rw [word_append _ _ _ _ h1]; exact h2) (fun j hj hw he => ?_)
 by_cases hj2 : HasW c j P.length
 ·rw [word_append _ _ _ _ hj2] at he
  exact h3 j hj hj2 he
 ·unfold HasW at hw hj2 h1; omega
theorem fnd_snoc {c : Int} {P : List Pr} {p : Pr} {w : List UInt8} (hc : 0 ≤ c) (h : fnd c P w = none) (hp : wd c P p.1 ++ [byt p.2] = w) : fnd c (P ++ [p]) w = some (c.toNat + 2 + P.length) := by
 have hn := fnd_none hc h
 have e : ((c.toNat + 2 + P.length : Nat) : Int) = c + 2 + (P.length : Int) := by omega
 refine fnd_is (.inr (by simp; omega)) (by rw [e, word_new, hp]) (fun j hj hw he => ?_)
 have hj2 : HasW c j P.length := by unfold HasW at *; simp at hw; omega
 rw [word_append _ _ _ _ hj2] at he
 exact hn j hj2 he
theorem fnd_other {c : Int} (hc : 0 ≤ c) {P : List Pr} {p : Pr} {w : List UInt8} (h : fnd c P w = none) (hp : wd c P p.1 ++ [byt p.2] ≠ w) : fnd c (P ++ [p]) w = none := by
 have hn := fnd_none hc h
 refine fnd_no (fun j hw he => ?_)
 by_cases hj2 : HasW c j P.length
 ·rw [word_append _ _ _ _ hj2] at he
  exact hn j hj2 he
 ·have e : j = c + 2 + (P.length : Int) := by unfold HasW at *; simp at hw; omega
  rw [e, word_new] at he
  exact hp he
/-- fewer pairs: what is found stays if it is among the first -/
theorem fnd_take {c : Int} (hc : 0 ≤ c) {P : List Pr} {w : List UInt8} (m : Nat) (hm : m ≤ P.length) : fnd c (P.take m) w = match fnd c P w with | some r => if (r : Int) < c + 2 + m then some r else none | none => none := by
 have hl : (P.take m).length = m := by simp; omega
 cases h : fnd c (P.take m) w with
 | some n =>
  have h1 := fnd_more (P.drop m) h
  rw [List.take_append_drop] at h1
  rw [h1]
  have h2 := (fnd_some h).1
  rw [hl] at h2
  simp only
  rw [if_pos (by unfold HasW at h2; omega)]
 | none =>
  have hn := fnd_none hc h
  cases h1 : fnd c P w with
  | none => rfl
  | some r =>
   simp only
   rw [if_neg]
   intro hlt
   obtain ⟨h2, h3, _⟩ := fnd_some h1
   have h4 : HasW c r m := by unfold HasW at *; omega
   refine hn r (by rw [hl]; exact h4) ?_
   rw [word_take _ _ _ _ hm h4]; exact h3
/-- words begin with words -/
theorem has_pre {c : Int} {P : List Pr} (hP : PairsOk c P) {code : Int} (h : HasW c code P.length) : ∀ j : Nat, 1 ≤ j → j ≤ (wd c P code).length → ∃ code', HasW c code' P.length ∧ wd c P code' = (wd c P code).take j := by
 refine word_ind c P hP (P := fun code => ∀ j : Nat, 1 ≤ j → j ≤ (wd c P code).length → ∃ code', HasW c code' P.length ∧ wd c P code' = (wd c P code).take j) ?_ ?_ code h
 ·intro code h0 h1 j hj1 hj2
  refine ⟨code, .inl ⟨h0, h1⟩, ?_⟩
  rw [List.take_of_length_le]
  rw [word_lit _ _ _ (by omega)]; simpa using hj1
 ·intro i p hg hp ih j hj1 hj2
  have hw := word_pair c P hP i p hg
  by_cases hj : j ≤ (wd c P p.1).length
  ·obtain ⟨code', h1, h2⟩ := ih j hj1 hj
   refine ⟨code', h1, ?_⟩
   rw [h2, hw, List.take_append_of_le_length hj]
  ·refine ⟨c + 2 + i, .inr ⟨by omega, by have := get_lt hg; omega⟩, ?_⟩
   rw [List.take_of_length_le]
   rw [hw] at hj2 ⊢
   simp at hj2 ⊢
   omega
/-- if a word is known, its beginnings are -/
theorem fnd_pre {c : Int} (hc : 0 ≤ c) {P : List Pr} (hP : PairsOk c P) {w : List UInt8} {r : Nat} (h : fnd c P w = some r) {j : Nat} (h1 : 1 ≤ j) (h2 : j ≤ w.length) : ∃ r', fnd c P (w.take j) = some r' := by
 obtain ⟨h3, h4, _⟩ := fnd_some h
 obtain ⟨code', h5, h6⟩ := has_pre hP h3 j h1 (by rw [h4]; exact h2)
 rw [h4] at h6
 rw [← h6]
 obtain ⟨r', hr, _⟩ := fnd_of hc h5
 exact ⟨r', hr⟩

/-! ### The code of a word, and the longest word -/
namespace Kn
variable (k : Kn)

/-- the least code with a word; -1 if there is none -/
def find (w : List UInt8) : Int := match fnd k.c k.ps w with
 | some r => r
 | none => if k.grows = true ∧ k.any k.next = w then k.next else -1
def hit (data : List UInt8) (j : Nat) : Bool := decide (0 ≤ k.find (data.take j))
/-- the length of the longest word with which data begins -/
def lng (data : List UInt8) : Nat := ((List.range (data.length + 1)).reverse.find? (k.hit data)).getD 0
end Kn
theorem Kn.Ok.c0 {k : Kn} (h : k.Ok) : 0 ≤ k.c := by have := h.cbd; omega
theorem Kn.Ok.find_some {k : Kn} (h : k.Ok) {w : List UInt8} (hw : 0 ≤ k.find w) : k.Fol (k.find w) ∧ k.any (k.find w) = w ∧ ∀ j, k.Fol j → k.any j = w → k.find w ≤ j := by
 unfold Kn.find at hw ⊢
 cases hf : fnd k.c k.ps w with
 | some r =>
  obtain ⟨h1, h2, h3⟩ := fnd_some hf
  simp only
  refine ⟨.inl h1, by rw [Kn.any_has h1]; exact h2, fun j hj he => ?_⟩
  rcases hj with hj | ⟨_, rfl⟩
  ·rw [Kn.any_has hj] at he
   obtain ⟨r', hr, hle⟩ := fnd_of h.c0 hj
   rw [show wd k.c k.ps j = w from he, hf] at hr
   simp at hr
   omega
  ·unfold Kn.next; unfold HasW at h1; omega
 | none =>
  rw [hf] at hw
  simp only at hw ⊢
  split at hw
  ·rename_i hg
   rw [if_pos hg]
   refine ⟨.inr ⟨hg.1, rfl⟩, hg.2, fun j hj he => ?_⟩
   rcases hj with hj | ⟨_, rfl⟩
   ·rw [Kn.any_has hj] at he
    exact absurd he (fnd_none h.c0 hf j hj)
   ·exact Int.le_refl _
  ·omega
theorem Kn.find_no {k : Kn} (hc : 0 ≤ k.c) {w : List UInt8} (hw : k.find w < 0) (hn : 0 ≤ k.next) : k.find w = -1 ∧ ∀ j, k.Fol j → k.any j ≠ w := by
 unfold Kn.find at hw ⊢
 cases hf : fnd k.c k.ps w with
 | some r => rw [hf] at hw; simp only at hw; omega
 | none =>
  rw [hf] at hw
  simp only at hw ⊢
  split at hw
  ·omega
  ·rename_i hg
   rw [if_neg hg]
   refine ⟨rfl, fun j hj he => ?_⟩
   rcases hj with hj | ⟨h1, rfl⟩
   ·rw [Kn.any_has hj] at he
    exact fnd_none hc hf j hj he
   ·exact hg ⟨h1, he⟩
theorem Kn.Ok.next_pos {k : Kn} (h : k.Ok) : 0 ≤ k.next := by have := h.cbd; unfold Kn.next; omega
theorem Kn.Ok.find_is {k : Kn} (h : k.Ok) {w : List UInt8} {n : Int} (hf : k.Fol n) (ha : k.any n = w) (hl : ∀ j, k.Fol j → k.any j = w → n ≤ j) : k.find w = n := by
 by_cases hw : 0 ≤ k.find w
 ·obtain ⟨h1, h2, h3⟩ := h.find_some hw
  have := h3 n hf ha
  have := hl _ h1 h2
  omega
 ·exact absurd ha ((Kn.find_no h.c0 (by omega) h.next_pos).2 n hf)
theorem Kn.Ok.find_neg {k : Kn} (h : k.Ok) {w : List UInt8} (hl : ∀ j, k.Fol j → k.any j ≠ w) : k.find w = -1 := by
 by_cases hw : 0 ≤ k.find w
 ·obtain ⟨h1, h2, _⟩ := h.find_some hw
  exact absurd h2 (hl _ h1)
 ·exact (Kn.find_no h.c0 (by omega) h.next_pos).1
theorem Kn.lng_is {k : Kn} {data : List UInt8} {j : Nat} (hj : j ≤ data.length) (h1 : 0 ≤ k.find (data.take j)) (h2 : ∀ i, j < i → i ≤ data.length → k.find (data.take i) < 0) : k.lng data = j := by
 have key : ∀ n : Nat, j ≤ n → n ≤ data.length → ((List.range (n + 1)).reverse.find? (k.hit data)) = some j := by
  intro n
  induction n with
  | zero =>
   intro hn _
   have : j = 0 := by omega
   subst this
   have : k.hit data 0 = true := decide_eq_true h1
   simp [this]
  | succ n ih =>
   intro hn hl
   rw [List.range_succ, List.reverse_append, List.reverse_singleton, List.singleton_append, List.find?_cons]
   by_cases he : j = n + 1
   ·subst he
    have : k.hit data (n + 1) = true := by simpa [Kn.hit] using h1
    rw [this]
   ·have : k.hit data (n + 1) = false := by
     have := h2 (n + 1) (by omega) hl
     simp [Kn.hit]; omega
    rw [this]
    exact ih (by omega) (by omega)
 unfold Kn.lng
 rw [key data.length hj (Nat.le_refl _)]; rfl
theorem take_take_le {α : Type} (l : List α) {i j : Nat} (h : i ≤ j) : (l.take j).take i = l.take i := by rw [List.take_take, Nat.min_eq_left h]
theorem take_len {α : Type} {l : List α} {j : Nat} (h : j ≤ l.length) : (l.take j).length = j := by simp; omega
/-- behind the first beginning that is no word there is none -/
theorem Kn.Ok.none_behind {k : Kn} (h : k.Ok) {data : List UInt8} {j : Nat} (hj : j + 1 ≤ data.length) (hn : fnd k.c k.ps (data.take (j + 1)) = none) {i : Nat} (hi : j + 1 < i) (hl : i ≤ data.length) : k.find (data.take i) < 0 := by
 unfold Kn.find
 cases hf : fnd k.c k.ps (data.take i) with
 | some r =>
  obtain ⟨r', hr⟩ := fnd_pre h.c0 h.pairs hf (j := j + 1) (by omega) (by rw [take_len hl]; omega)
  rw [take_take_le _ (by omega)] at hr
  rw [hr] at hn; cases hn
 | none =>
  simp only
  rw [if_neg]
  ·decide
  ·rintro ⟨hg, he⟩
   rw [Kn.any_next] at he
   have hne := word_ne _ _ h.pairs _ (h.lastW hg)
   have h1 : (wd k.c k.ps k.last).length + 1 = i := by
    have := congrArg List.length he
    rw [take_len hl, List.length_append] at this
    have h2 : ((k.word k.last).take 1).length = 1 := by
     unfold Kn.word
     cases hw : wd k.c k.ps k.last with
     | nil => exact absurd hw hne
     | cons a t => simp
    rw [h2] at this
    exact this
   have h3 : wd k.c k.ps k.last = data.take (i - 1) := by
    have := congrArg (List.take (i - 1)) he
    rw [take_take_le _ (by omega), List.take_append_of_le_length (by unfold Kn.word; omega), List.take_of_length_le (by unfold Kn.word; omega)] at this
    exact this
   obtain ⟨r, hr, _⟩ := fnd_of h.c0 (h.lastW hg)
   rw [h3] at hr
   obtain ⟨r', hr'⟩ := fnd_pre h.c0 h.pairs hr (j := j + 1) (by omega) (by rw [take_len (by omega)]; omega)
   rw [take_take_le _ (by omega)] at hr'
   rw [hr'] at hn; cases hn
/-- when the next word is the beginning that is one byte longer -/
theorem Kn.Ok.next_here {k : Kn} (h : k.Ok) {data : List UInt8} {j r : Nat} (h1 : 1 ≤ j) (hj : j < data.length) (hr : fnd k.c k.ps (data.take j) = some r) : (k.grows = true ∧ k.any k.next = data.take (j + 1)) ↔ (k.grows = true ∧ fnd k.c k.ps (k.word k.last) = some r ∧ data[j]? = data[0]?) := by
 obtain ⟨_, hw, _⟩ := fnd_some hr
 have hd : data.take (j + 1) = data.take j ++ [data[j]] := by rw [List.take_succ_eq_append_getElem hj]
 have h0 : (data.take j).take 1 = [data[0]'(by omega)] := by
  rw [take_take_le _ h1]
  cases data with
  | nil => simp at hj
  | cons a t => simp
 have hjg : data[j]? = some data[j] := List.getElem?_eq_getElem hj
 have h0g : data[0]? = some (data[0]'(by omega)) := List.getElem?_eq_getElem (by omega)
 constructor
 ·rintro ⟨hg, he⟩
  rw [Kn.any_next, hd] at he
  have hne := word_ne _ _ h.pairs _ (h.lastW hg)
  have h2 : ((k.word k.last).take 1).length = 1 := by
   unfold Kn.word
   cases hw : wd k.c k.ps k.last with
   | nil => exact absurd hw hne
   | cons a t => simp
  obtain ⟨e1, e2⟩ := List.append_inj' he (by rw [h2]; rfl)
  refine ⟨hg, by rw [e1]; exact hr, ?_⟩
  rw [e1, h0] at e2
  rw [hjg, h0g]
  simpa using e2.symm
 ·rintro ⟨hg, he, hb⟩
  refine ⟨hg, ?_⟩
  obtain ⟨_, hw2, _⟩ := fnd_some he
  have e1 : k.word k.last = data.take j := hw2.symm.trans hw
  rw [Kn.any_next, hd, e1, h0]
  rw [hjg, h0g] at hb
  simp at hb
  rw [hb]
theorem Kn.Ok.stop_next {k : Kn} (h : k.Ok) {data : List UInt8} {j r : Nat} (h1 : 1 ≤ j) (hj : j < data.length) (hr : fnd k.c k.ps (data.take j) = some r) (hn : fnd k.c k.ps (data.take (j + 1)) = none) (hg : k.grows = true) (hl : fnd k.c k.ps (k.word k.last) = some r) (hb : data[j]? = data[0]?) : k.lng data = j + 1 ∧ k.find (data.take (j + 1)) = k.next := by
 have h2 := (h.next_here h1 hj hr).2 ⟨hg, hl, hb⟩
 have h3 : k.find (data.take (j + 1)) = k.next := by
  unfold Kn.find
  rw [hn]
  simp only
  rw [if_pos h2]
 exact ⟨Kn.lng_is hj (by rw [h3]; exact h.next_pos) (fun i hi hil => h.none_behind hj hn hi hil), h3⟩
theorem Kn.Ok.stop_here {k : Kn} (h : k.Ok) {data : List UInt8} {j r : Nat} (h1 : 1 ≤ j) (hj : j < data.length) (hr : fnd k.c k.ps (data.take j) = some r) (hn : fnd k.c k.ps (data.take (j + 1)) = none) (hno : ¬ (k.grows = true ∧ fnd k.c k.ps (k.word k.last) = some r ∧ data[j]? = data[0]?)) : k.lng data = j ∧ k.find (data.take j) = r := by
 have h3 : k.find (data.take j) = r := by
  unfold Kn.find
  rw [hr]
 refine ⟨Kn.lng_is (by omega) (by rw [h3]; omega) (fun i hi hil => ?_), h3⟩
 by_cases he : i = j + 1
 ·subst he
  unfold Kn.find
  rw [hn]
  simp only
  rw [if_neg]
  ·decide
  ·exact fun hx => hno ((h.next_here h1 hj hr).1 hx)
 ·exact h.none_behind hj hn (by omega) hil
theorem Kn.stop_end {k : Kn} {data : List UInt8} {r : Nat} (hr : fnd k.c k.ps data = some r) : k.lng data = data.length ∧ k.find data = r := by
 have h3 : k.find data = r := by
  unfold Kn.find
  rw [hr]
 refine ⟨Kn.lng_is (Nat.le_refl _) ?_ (fun i hi hil => by omega), h3⟩
 rw [List.take_length, h3]; omega
/-- the longest word is a word -/
theorem Kn.Ok.lng_word {k : Kn} (h : k.Ok) {data : List UInt8} (h0 : 0 < data.length) (hd : ∀ b, data[0]? = some b → (b.toNat : Int) < k.c) : 1 ≤ k.lng data ∧ k.lng data ≤ data.length ∧ 0 ≤ k.find (data.take (k.lng data)) ∧ ∀ i, k.lng data < i → i ≤ data.length → k.find (data.take i) < 0 := by
 have hcb := h.cbd
 have h1 : 0 ≤ k.find (data.take 1) := by
  have e : data.take 1 = [data[0]] := by
   cases data with
   | nil => simp at h0
   | cons a t => simp
  have hb := hd data[0] (List.getElem?_eq_getElem h0)
  have : fnd k.c k.ps [byt ((data[0].toNat : Nat) : Int)] = some data[0].toNat := fnd_lit (by omega) h.pairs hb
  have e2 : byt ((data[0].toNat : Nat) : Int) = data[0] := by simp [byt]
  rw [e2] at this
  unfold Kn.find
  rw [e, this]
  simp only
  omega
 have key : ∀ n : Nat, n + 1 ≤ data.length → ∃ j, 1 ≤ j ∧ j ≤ n + 1 ∧ 0 ≤ k.find (data.take j) ∧ (∀ i, j < i → i ≤ n + 1 → k.find (data.take i) < 0) := by
  intro n
  induction n with
  | zero => intro _; exact ⟨1, Nat.le_refl _, Nat.le_refl _, h1, fun i hi hil => by omega⟩
  | succ n ih =>
   intro hn
   by_cases hf : 0 ≤ k.find (data.take (n + 2))
   ·exact ⟨n + 2, by omega, Nat.le_refl _, hf, fun i hi hil => by omega⟩
   ·obtain ⟨j, g1, g2, g3, g4⟩ := ih (by omega)
    refine ⟨j, g1, by omega, g3, fun i hi hil => ?_⟩
    by_cases he : i = n + 2
    ·subst he; omega
    ·exact g4 i hi (by omega)
 obtain ⟨j, g1, g2, g3, g4⟩ := key (data.length - 1) (by omega)
 have e : data.length - 1 + 1 = data.length := by omega
 rw [e] at g2 g4
 have := Kn.lng_is g2 g3 g4
 rw [this]
 exact ⟨g1, g2, g3, g4⟩
end

section
set_option linter.unusedVariables false

/-- r is the least code with its word -/
def Lst (c : Int) (Q : List Pr) (r : Nat) : Prop := fnd c Q (wd c Q r) = some r
theorem Lst.has {c : Int} {Q : List Pr} {r : Nat} (h : Lst c Q r) : HasW c r Q.length := (fnd_some h).1
theorem fnd_lst {c : Int} {Q : List Pr} {w : List UInt8} {r : Nat} (h : fnd c Q w = some r) : Lst c Q r := by
 have := (fnd_some h).2.1
 unfold Lst; rw [this]; exact h
theorem wd_more {c : Int} {Q : List Pr} {p : Pr} {r : Nat} (h : Lst c Q r) : wd c (Q ++ [p]) r = wd c Q r := word_append _ _ _ _ h.has
theorem Lst.more {c : Int} {Q : List Pr} {r : Nat} (h : Lst c Q r) (p : Pr) : Lst c (Q ++ [p]) r := by
 unfold Lst; rw [wd_more h]; exact fnd_more [p] h
theorem Lst.ltn {c : Int} {Q : List Pr} {r : Nat} (hc : 0 ≤ c) (h : Lst c Q r) : r < c.toNat + 2 + Q.length := by
 have := h.has
 unfold HasW at this
 omega
theorem Lst.lit {c : Int} {Q : List Pr} {r : Nat} (hc : c ≤ 256) (hQ : PairsOk c Q) (h : (r : Int) < c) : Lst c Q r := by
 unfold Lst
 rw [word_lit _ _ _ (by omega)]
 exact fnd_lit hc hQ h
theorem wd_new {c : Int} (hc : 0 ≤ c) (Q : List Pr) (p : Pr) : wd c (Q ++ [p]) ((c.toNat + 2 + Q.length : Nat) : Int) = wd c Q p.1 ++ [byt p.2] := by
 have := word_new c Q p
 rw [show ((c.toNat + 2 + Q.length : Nat) : Int) = c + 2 + Q.length from by omega]
 exact this
theorem Lst.new {c : Int} {Q : List Pr} {p : Pr} (hc : 0 ≤ c) (h : fnd c Q (wd c Q p.1 ++ [byt p.2]) = none) : Lst c (Q ++ [p]) (c.toNat + 2 + Q.length) := by
 unfold Lst
 have e := wd_new hc Q p
 rw [e]
 exact fnd_snoc hc h rfl
theorem Lst.back {c : Int} {Q : List Pr} {p : Pr} {r : Nat} (hc : 0 ≤ c) (h : Lst c (Q ++ [p]) r) (hr : r ≠ c.toNat + 2 + Q.length) : Lst c Q r := by
 have h1 : HasW c r Q.length := by
  have := h.has
  unfold HasW at this ⊢
  simp at this
  omega
 obtain ⟨s, hs, _⟩ := fnd_of hc h1
 have h2 := fnd_more [p] hs
 have h3 : wd c (Q ++ [p]) r = wd c Q r := word_append _ _ _ _ h1
 unfold Lst at h
 rw [h3, h2] at h
 have : s = r := Option.some.inj h
 unfold Lst
 rw [hs, this]
/-- a word that is there already: no new least code -/
theorem Lst.dup {c : Int} {Q : List Pr} {p : Pr} {s : Nat} (hc : 0 ≤ c) (h : fnd c Q (wd c Q p.1 ++ [byt p.2]) = some s) : ¬ Lst c (Q ++ [p]) (c.toNat + 2 + Q.length) := by
 intro h1
 have e := wd_new hc Q p
 unfold Lst at h1
 rw [e, fnd_more [p] h] at h1
 have h2 : s = c.toNat + 2 + Q.length := Option.some.inj h1
 have h3 := (fnd_lst h).ltn hc
 omega
/-- a pair whose word is there already changes nothing -/
theorem fnd_dup {c : Int} (hc : 0 ≤ c) {Q : List Pr} {p : Pr} {s : Nat} (h : fnd c Q (wd c Q p.1 ++ [byt p.2]) = some s) (w : List UInt8) : fnd c (Q ++ [p]) w = fnd c Q w := by
 cases hw : fnd c Q w with
 | some r => exact fnd_more [p] hw
 | none =>
  refine fnd_other hc hw (fun e => ?_)
  rw [e, hw] at h
  cases h
/-- a new word is found at the new code, and nothing else changes -/
theorem fnd_add {c : Int} (hc : 0 ≤ c) {Q : List Pr} {p : Pr} (h : fnd c Q (wd c Q p.1 ++ [byt p.2]) = none) (w : List UInt8) : fnd c (Q ++ [p]) w = if w = wd c Q p.1 ++ [byt p.2] then some (c.toNat + 2 + Q.length) else fnd c Q w := by
 split
 ·rename_i e
  exact fnd_snoc hc (by rw [e]; exact h) e.symm
 ·rename_i e
  cases hw : fnd c Q w with
  | some r => exact fnd_more [p] hw
  | none => exact fnd_other hc hw (fun e2 => e e2.symm)
theorem byt_inj {x y : Int} (hx : 0 ≤ x ∧ x ≤ 255) (hy : 0 ≤ y ∧ y ≤ 255) (h : byt x = byt y) : x = y := by
 rw [← byt_nat hx.1 hx.2, ← byt_nat hy.1 hy.2, h]
/-- longer words are equal only if the least codes of their beginnings and their last bytes are -/
theorem lk_eq {c : Int} {Q : List Pr} {r r0 : Nat} {a x y : Int} (h : Lst c Q r) (h0 : fnd c Q (wd c Q a) = some r0) (hx : 0 ≤ x ∧ x ≤ 255) (hy : 0 ≤ y ∧ y ≤ 255) : wd c Q r ++ [byt x] = wd c Q a ++ [byt y] ↔ r = r0 ∧ x = y := by
 constructor
 ·intro e
  have e1 := List.append_inj' e rfl
  refine ⟨?_, byt_inj hx hy (by simpa using e1.2)⟩
  unfold Lst at h
  rw [e1.1, h0] at h
  exact (Option.some.inj h).symm
 ·rintro ⟨rfl, rfl⟩
  have : wd c Q r = wd c Q a := (fnd_some h0).2.1
  rw [this]
/-- no word begins with a new word -/
theorem fnd_deeper {c : Int} (hc : 0 ≤ c) {Q : List Pr} {p : Pr} (hQ : PairsOk c Q) (h : fnd c Q (wd c Q p.1 ++ [byt p.2]) = none) (b : UInt8) : fnd c (Q ++ [p]) (wd c Q p.1 ++ [byt p.2] ++ [b]) = none := by
 rw [fnd_add hc h, if_neg (by simp)]
 cases hw : fnd c Q (wd c Q p.1 ++ [byt p.2] ++ [b]) with
 | none => rfl
 | some r =>
  obtain ⟨r', hr⟩ := fnd_pre hc hQ hw (j := (wd c Q p.1).length + 1) (by omega) (by simp)
  rw [show (wd c Q p.1 ++ [byt p.2] ++ [b]).take ((wd c Q p.1).length + 1) = wd c Q p.1 ++ [byt p.2] from by
   rw [List.take_append_of_le_length (by simp), List.take_of_length_le (by simp)], h] at hr
  cases hr
end

section
set_option linter.unusedVariables false

instance (c : Int) (Q : List Pr) (r : Nat) : Decidable (Lst c Q r) := by unfold Lst; infer_instance
/-- the block of the node with a word -/
def ndAt (c : Int) (Q : List Pr) (N : Nat → Nat) (w : List UInt8) : Option Nat := (fnd c Q w).map N
/-- what lies in the map: what no table holds -/
def inMap (c : Int) (Q K : List Pr) (N : Nat → Nat) (r : Nat) (x : Int) : Option Nat :=
 if Lst c Q r ∧ fnd c K (wd c Q r ++ [byt x]) = none then ndAt c Q N (wd c Q r ++ [byt x]) else none
/-- one more node -/
def addN (N : Nat → Nat) (m g : Nat) : Nat → Nat := fun r => if r = m then g else N r
theorem addN_same (N : Nat → Nat) (m g : Nat) : addN N m g m = g := by simp [addN]
theorem addN_other {N : Nat → Nat} {m g r : Nat} (h : r ≠ m) : addN N m g r = N r := by simp [addN, h]
/-- the code behind the last one -/
def top (c : Int) (Q : List Pr) : Nat := c.toNat + 2 + Q.length

theorem kept_dup {c : Int} (hc : 0 ≤ c) {Q : List Pr} {p : Pr} {s : Nat} (h : fnd c Q (wd c Q p.1 ++ [byt p.2]) = some s) (b : Nat) (w : List UInt8) : fnd c ((Q ++ [p]).take b) w = fnd c (Q.take b) w := by
 by_cases hb : b ≤ Q.length
 ·rw [List.take_append_of_le_length hb]
 ·rw [List.take_of_length_le (by simp; omega), List.take_of_length_le (by omega)]
  exact fnd_dup hc h w
theorem lst_dup {c : Int} (hc : 0 ≤ c) {Q : List Pr} {p : Pr} {s : Nat} (h : fnd c Q (wd c Q p.1 ++ [byt p.2]) = some s) (r : Nat) : Lst c (Q ++ [p]) r ↔ Lst c Q r := by
 constructor
 ·intro h1
  refine h1.back hc (fun e => ?_)
  subst e
  exact Lst.dup hc h h1
 ·exact fun h1 => h1.more p
theorem ndAt_dup {c : Int} (hc : 0 ≤ c) {Q : List Pr} {p : Pr} {s : Nat} (h : fnd c Q (wd c Q p.1 ++ [byt p.2]) = some s) (N : Nat → Nat) (w : List UInt8) : ndAt c (Q ++ [p]) N w = ndAt c Q N w := by rw [ndAt, fnd_dup hc h, ndAt]
theorem inMap_dup {c : Int} (hc : 0 ≤ c) {Q : List Pr} {p : Pr} {s : Nat} (h : fnd c Q (wd c Q p.1 ++ [byt p.2]) = some s) (b : Nat) (N : Nat → Nat) (r : Nat) (x : Int) : inMap c (Q ++ [p]) ((Q ++ [p]).take b) N r x = inMap c Q (Q.take b) N r x := by
 unfold inMap
 by_cases h1 : Lst c Q r
 ·have h2 := (lst_dup hc h r).2 h1
  rw [wd_more h1, kept_dup hc h, ndAt_dup hc h]
  simp only [h1, h2]
 ·have h2 : ¬ Lst c (Q ++ [p]) r := fun h3 => h1 ((lst_dup hc h r).1 h3)
  simp [h1, h2]
/-! ### a new word -/
section
variable {c : Int} {Q : List Pr} {p : Pr}

theorem lst_new (hc : 0 ≤ c) (h : fnd c Q (wd c Q p.1 ++ [byt p.2]) = none) (r : Nat) : Lst c (Q ++ [p]) r ↔ (Lst c Q r ∨ r = top c Q) := by
 constructor
 ·intro h1
  by_cases hr : r = top c Q
  ·exact .inr hr
  ·exact .inl (h1.back hc hr)
 ·rintro (h1 | rfl)
  ·exact h1.more p
  ·exact Lst.new hc h
theorem lst_ne (hc : 0 ≤ c) {r : Nat} (h : Lst c Q r) : r ≠ top c Q := by have := h.ltn hc; unfold top; omega
theorem wd_top (hc : 0 ≤ c) : wd c (Q ++ [p]) ((top c Q : Nat) : Int) = wd c Q p.1 ++ [byt p.2] := wd_new hc Q p
theorem fnd_fresh (hc : 0 ≤ c) (h : fnd c Q (wd c Q p.1 ++ [byt p.2]) = none) {r r0 : Nat} (hr : Lst c Q r) (h0 : fnd c Q (wd c Q p.1) = some r0) {x : Int} (hx : 0 ≤ x ∧ x ≤ 255) (hp : 0 ≤ p.2 ∧ p.2 ≤ 255) :
  fnd c (Q ++ [p]) (wd c Q r ++ [byt x]) = if r = r0 ∧ x = p.2 then some (top c Q) else fnd c Q (wd c Q r ++ [byt x]) := by
 rw [fnd_add hc h]
 have := lk_eq hr h0 hx hp
 by_cases hq : r = r0 ∧ x = p.2
 ·rw [if_pos (this.2 hq), if_pos hq]; rfl
 ·rw [if_neg (fun e => hq (this.1 e)), if_neg hq]
theorem ndAt_fresh (hc : 0 ≤ c) (h : fnd c Q (wd c Q p.1 ++ [byt p.2]) = none) {r r0 : Nat} (hr : Lst c Q r) (h0 : fnd c Q (wd c Q p.1) = some r0) {x : Int} (hx : 0 ≤ x ∧ x ≤ 255) (hp : 0 ≤ p.2 ∧ p.2 ≤ 255) (N : Nat → Nat) (g : Nat) :
  ndAt c (Q ++ [p]) (addN N (top c Q) g) (wd c Q r ++ [byt x]) = if r = r0 ∧ x = p.2 then some g else ndAt c Q N (wd c Q r ++ [byt x]) := by
 rw [ndAt, fnd_fresh hc h hr h0 hx hp]
 split
 ·simp [addN]
 ·rw [ndAt]
  cases hf : fnd c Q (wd c Q r ++ [byt x]) with
  | none => rfl
  | some s => simp [addN_other (lst_ne hc (fnd_lst hf))]
theorem fnd_deep (hc : 0 ≤ c) (hQ : PairsOk c Q) (h : fnd c Q (wd c Q p.1 ++ [byt p.2]) = none) (x : UInt8) : fnd c (Q ++ [p]) (wd c (Q ++ [p]) ((top c Q : Nat) : Int) ++ [x]) = none := by
 rw [wd_top hc]; exact fnd_deeper hc hQ h x
theorem kept_deep (hc : 0 ≤ c) (hQ : PairsOk c Q) (h : fnd c Q (wd c Q p.1 ++ [byt p.2]) = none) (x : UInt8) (b : Nat) : fnd c ((Q ++ [p]).take b) (wd c (Q ++ [p]) ((top c Q : Nat) : Int) ++ [x]) = none := by
 cases hf : fnd c ((Q ++ [p]).take b) (wd c (Q ++ [p]) ((top c Q : Nat) : Int) ++ [x]) with
 | none => rfl
 | some s =>
  have := fnd_more ((Q ++ [p]).drop b) hf
  rw [List.take_append_drop, fnd_deep hc hQ h] at this
  cases this
/-- a word in the tables, behind a kept pair -/
theorem kept_fresh (hc : 0 ≤ c) (h : fnd c Q (wd c Q p.1 ++ [byt p.2]) = none) {r r0 : Nat} (hr : Lst c Q r) (h0 : fnd c Q (wd c Q p.1) = some r0) {x : Int} (hx : 0 ≤ x ∧ x ≤ 255) (hp : 0 ≤ p.2 ∧ p.2 ≤ 255) {b : Nat} (hb : Q.length < b) :
  fnd c ((Q ++ [p]).take b) (wd c Q r ++ [byt x]) = if r = r0 ∧ x = p.2 then some (top c Q) else fnd c (Q.take b) (wd c Q r ++ [byt x]) := by
 rw [List.take_of_length_le (by simp; omega), List.take_of_length_le (by omega)]
 exact fnd_fresh hc h hr h0 hx hp
theorem kept_same {b : Nat} (hb : b ≤ Q.length) : (Q ++ [p]).take b = Q.take b := List.take_append_of_le_length hb
/-- where all is kept the map holds nothing -/
theorem inMap_kept {b : Nat} (hb : Q.length ≤ b) (N : Nat → Nat) (r : Nat) (x : Int) : inMap c Q (Q.take b) N r x = none := by
 rw [List.take_of_length_le hb]
 unfold inMap
 split
 ·rename_i h; rw [ndAt, h.2]; rfl
 ·rfl
/-- a word in the map -/
theorem inMap_fresh (hc : 0 ≤ c) (hQ : PairsOk c Q) (h : fnd c Q (wd c Q p.1 ++ [byt p.2]) = none) {r0 : Nat} (h0 : fnd c Q (wd c Q p.1) = some r0) (hp : 0 ≤ p.2 ∧ p.2 ≤ 255) {b : Nat} (hb : b ≤ Q.length) (N : Nat → Nat) (g r : Nat) {x : Int} (hx : 0 ≤ x ∧ x ≤ 255) :
  inMap c (Q ++ [p]) ((Q ++ [p]).take b) (addN N (top c Q) g) r x = if r = r0 ∧ x = p.2 then some g else inMap c Q (Q.take b) N r x := by
 rw [kept_same hb]
 have hw0 : wd c Q r0 = wd c Q p.1 := (fnd_some h0).2.1
 have hk0 : fnd c (Q.take b) (wd c Q p.1 ++ [byt p.2]) = none := by
  cases hf : fnd c (Q.take b) (wd c Q p.1 ++ [byt p.2]) with
  | none => rfl
  | some s =>
   have := fnd_more (Q.drop b) hf
   rw [List.take_append_drop, h] at this
   cases this
 by_cases h1 : Lst c Q r
 ·have h2 := h1.more p
  unfold inMap
  rw [wd_more h1, ndAt_fresh hc h h1 h0 hx hp]
  by_cases hq : r = r0 ∧ x = p.2
  ·rw [if_pos hq, if_pos hq, if_pos]
   refine ⟨h2, ?_⟩
   rw [hq.1, hq.2, hw0]; exact hk0
  ·rw [if_neg hq, if_neg hq]
   simp only [h1, h2]
 ·have hn : ¬ (r = r0 ∧ x = p.2) := fun e => h1 (by rw [e.1]; exact fnd_lst h0)
  rw [if_neg hn]
  have e2 : inMap c Q (Q.take b) N r x = none := by unfold inMap; rw [if_neg (fun e => h1 e.1)]
  rw [e2]
  unfold inMap
  by_cases hr : r = top c Q
  ·subst hr
   split
   ·rw [ndAt, fnd_deep hc hQ h]; rfl
   ·rfl
  ·rw [if_neg]
   intro e
   rcases (lst_new hc h r).1 e.1 with h3 | h3
   ·exact h1 h3
   ·exact hr h3
end
/-! ### fewer pairs -/
theorem lst_take {c : Int} {Q : List Pr} {b r : Nat} (h : Lst c (Q.take b) r) : Lst c Q r ∧ wd c Q r = wd c (Q.take b) r := by
 have e : wd c Q r = wd c (Q.take b) r := by
  have := word_append c (Q.take b) (Q.drop b) r h.has
  rw [List.take_append_drop] at this
  exact this
 refine ⟨?_, e⟩
 unfold Lst
 have := fnd_more (Q.drop b) (show fnd c (Q.take b) (wd c (Q.take b) r) = some r from h)
 rw [List.take_append_drop] at this
 rw [e]; exact this
/-! ### the nodes by code -/
def ptr (x : Option Nat) : Value := .pointer (x.map fun b => ⟨b, 0, none⟩)
def nodeAt (c : Int) (Q : List Pr) (N : Nat → Nat) (j : Nat) : Value := ptr (if HasW c j Q.length then ndAt c Q N (wd c Q j) else none)
def nodesL (c : Int) (Q : List Pr) (N : Nat → Nat) : List Value := (List.range (top c Q)).map (nodeAt c Q N)
theorem nodesL_len (c : Int) (Q : List Pr) (N : Nat → Nat) : (nodesL c Q N).length = top c Q := by simp [nodesL]
theorem nodesL_get {c : Int} {Q : List Pr} {j : Nat} (h : j < top c Q) (N : Nat → Nat) : (nodesL c Q N)[j]? = some (nodeAt c Q N j) := by simp [nodesL, h]
theorem ndAt_has {c : Int} (hc : 0 ≤ c) {Q : List Pr} {code : Int} (h : HasW c code Q.length) (N : Nat → Nat) : ∃ r, fnd c Q (wd c Q code) = some r ∧ Lst c Q r ∧ ndAt c Q N (wd c Q code) = some (N r) ∧ (r : Int) ≤ code := by
 obtain ⟨r, hr, hle⟩ := fnd_of hc h
 exact ⟨r, hr, fnd_lst hr, by rw [ndAt, hr]; rfl, hle⟩
theorem nodeAt_has {c : Int} {Q : List Pr} {j : Nat} (h : HasW c j Q.length) (N : Nat → Nat) : nodeAt c Q N j = ptr (ndAt c Q N (wd c Q j)) := by rw [nodeAt, if_pos h]
theorem nodeAt_old {c : Int} (hc : 0 ≤ c) {Q : List Pr} (p : Pr) {N N' : Nat → Nat} (hN : ∀ r, Lst c Q r → N' r = N r) {j : Nat} (hj : j < top c Q) : nodeAt c (Q ++ [p]) N' j = nodeAt c Q N j := by
 unfold top at hj
 by_cases h : HasW c j Q.length
 ·have h2 : HasW c j (Q ++ [p]).length := h.mono (by simp)
  rw [nodeAt_has h, nodeAt_has h2, word_append _ _ _ _ h]
  obtain ⟨r, hr, hl, e, _⟩ := ndAt_has hc h N
  rw [e, ndAt, fnd_more [p] hr]
  simp [hN r hl]
 ·have h2 : ¬ HasW c j (Q ++ [p]).length := by unfold HasW at h ⊢; simp; omega
  rw [nodeAt, nodeAt, if_neg h, if_neg h2]
theorem nodesL_snoc {c : Int} (hc : 0 ≤ c) {Q : List Pr} (p : Pr) {N N' : Nat → Nat} (hN : ∀ r, Lst c Q r → N' r = N r) : nodesL c (Q ++ [p]) N' = nodesL c Q N ++ [nodeAt c (Q ++ [p]) N' (top c Q)] := by
 have e : top c (Q ++ [p]) = top c Q + 1 := by simp [top]; omega
 rw [nodesL, e, List.range_succ, List.map_append, List.map_singleton, nodesL]
 congr 1
 exact List.map_congr_left (fun j hj => nodeAt_old hc p hN (List.mem_range.1 hj))
theorem nodeAt_top {c : Int} (hc : 0 ≤ c) {Q : List Pr} (p : Pr) (N : Nat → Nat) : nodeAt c (Q ++ [p]) N (top c Q) = ptr (ndAt c (Q ++ [p]) N (wd c Q p.1 ++ [byt p.2])) := by
 rw [nodeAt_has (by unfold HasW top; simp; omega), wd_top hc]
theorem nodesL_take {c : Int} (hc : 0 ≤ c) {Q : List Pr} {b : Nat} (hb : b ≤ Q.length) (N : Nat → Nat) : nodesL c (Q.take b) N = (nodesL c Q N).take (c.toNat + 2 + b) := by
 have hl : (Q.take b).length = b := by simp; omega
 apply List.ext_getElem?
 intro j
 rw [List.getElem?_take]
 by_cases hj : j < c.toNat + 2 + b
 ·rw [if_pos hj, nodesL_get (by unfold top; omega), nodesL_get (by unfold top; omega)]
  congr 1
  by_cases h : HasW c j b
  ·rw [nodeAt_has (by rw [hl]; exact h), nodeAt_has (h.mono hb), word_take _ _ _ _ hb h]
   obtain ⟨r, hr, _, e, hle⟩ := ndAt_has hc (Q := Q) (h.mono hb) N
   rw [e, ndAt, fnd_take hc b hb, hr]
   simp only
   rw [if_pos (by omega)]; rfl
  ·have h2 : ¬ HasW c j Q.length := by unfold HasW at h ⊢; omega
   rw [nodeAt, nodeAt, hl, if_neg h, if_neg h2]
 ·rw [if_neg hj, List.getElem?_eq_none (by rw [nodesL_len]; unfold top; omega)]
theorem nodeAt_lit {c : Int} (hc : c ≤ 256) (N : Nat → Nat) {j : Nat} (h : (j : Int) < c) : nodeAt c [] N j = ptr (some (N j)) := by
 have h1 : HasW c j ([] : List Pr).length := .inl ⟨by omega, h⟩
 rw [nodeAt_has h1, word_lit _ _ _ (by omega), ndAt, fnd_lit hc (fun i p hp => by simp at hp) h]
 rfl
theorem nodeAt_mid {c : Int} (N : Nat → Nat) {j : Nat} (h : c ≤ (j : Int)) : nodeAt c [] N j = ptr none := by
 have h1 : ¬ HasW c j ([] : List Pr).length := by unfold HasW; simp; omega
 rw [nodeAt, if_neg h1]
end

section
set_option linter.unusedVariables false

namespace Kn
/-- no code is left for a word, but a clear code would free one -/
def need (k : Kn) : Prop := k.lc < k.next ∧ k.base < k.ps.length
instance (k : Kn) : Decidable k.need := by unfold need; infer_instance
def code1 (k : Kn) (data : List UInt8) : Int := k.find (data.take (k.lng data))
/-- the codes of data behind the first clear code: ahead of a word; with a clear code where one is needed -/
def words1 : Nat → Kn → List UInt8 → List Int
 | 0, _, _ => []
 | f + 1, k, data => if data = [] then [] else
   if k.need then k.c :: k.cleared.code1 data :: words1 f (k.cleared.after (k.cleared.code1 data)) (data.drop (k.cleared.lng data))
   else k.code1 data :: words1 f (k.after (k.code1 data)) (data.drop (k.lng data))
def greedy (k : Kn) (data : List UInt8) : List Int := k.c :: (words1 data.length k.cleared data ++ [k.c + 1])
end Kn
theorem Kn.words1_nil (f : Nat) (k : Kn) : k.words1 f [] = [] := by cases f <;> simp [Kn.words1]
theorem Kn.Ok.cleared_need {k : Kn} (h : k.Ok) : ¬ k.cleared.need := by
 have := Kn.cleared_len h
 rintro ⟨_, h2⟩
 have e : k.cleared.base = k.base := rfl
 omega
/-- data of literals -/
def Lits (c : Int) (data : List UInt8) : Prop := ∀ b ∈ data, (b.toNat : Int) < c
theorem Lits.drop {c : Int} {data : List UInt8} (h : Lits c data) (n : Nat) : Lits c (data.drop n) := fun b hb => h b (List.mem_of_mem_drop hb)
theorem Kn.Ok.code1 {k : Kn} (h : k.Ok) {data : List UInt8} (hd : data ≠ []) (hl : Lits k.c data) : k.Fol (k.code1 data) ∧ k.any (k.code1 data) = data.take (k.lng data) ∧ 1 ≤ k.lng data ∧ k.lng data ≤ data.length := by
 have h0 : 0 < data.length := List.length_pos_iff.2 hd
 obtain ⟨h1, h2, h3, _⟩ := h.lng_word h0 (fun b hb => hl b (List.mem_of_getElem? hb))
 obtain ⟨h4, h5, _⟩ := h.find_some h3
 exact ⟨h4, h5, h1, h2⟩
theorem Kn.Ok.code1_ne {k : Kn} (h : k.Ok) {code : Int} (hf : k.Fol code) : code ≠ k.c ∧ code ≠ k.c + 1 := by
 have := (h.fol_iff code).1 hf
 exact ⟨this.2.2.1, this.2.2.2⟩
theorem Kn.step_fol {k : Kn} (h : k.Ok) {code : Int} (hf : k.Fol code) : k.step code = k.after code := by
 have := (h.fol_iff code).1 hf
 simp [Kn.step, this.2.2.1]
theorem Kn.step_clear (k : Kn) : k.step k.c = k.cleared := by simp [Kn.step]
/-- how far a clear code is -/
def Kn.phi (k : Kn) : Nat := if (k.ps.length : Int) = k.base then (if k.last = -1 then 0 else 1) else 2
theorem Kn.Ok.phi_after {k : Kn} (h : k.Ok) {code : Int} (hf : k.Fol code) : (k.after code).phi ≤ k.phi + 1 := by
 have h1 := h.base1
 have h2 := (h.fol_iff code).1 hf
 have hlen := Kn.after_len k code
 have eb : (k.after code).base = k.base := rfl
 have el : (k.after code).last = code := rfl
 unfold Kn.phi
 rw [eb, el]
 by_cases hb : (k.ps.length : Int) = k.base
 ·rw [if_pos hb]
  by_cases hl : k.last = -1
  ·have hg : k.grows = false := by simp [Kn.grows, hl]
   rw [hg] at hlen
   simp at hlen
   rw [if_pos (by omega), if_neg (by omega), if_pos hl]; omega
  ·rw [if_neg hl]
   split
   ·rw [if_neg (by omega)]; omega
   ·omega
 ·rw [if_neg hb]
  repeat' split
  all_goals omega
theorem Kn.Ok.words1_len {f : Nat} {k : Kn} (h : k.Ok) {data : List UInt8} (hf : data.length ≤ f) (hl : Lits k.c data) : (k.words1 f data).length ≤ data.length + (data.length + k.phi) / 2 := by
 induction f generalizing k data with
 | zero => simp [Kn.words1]
 | succ f ih =>
  by_cases hd : data = []
  ·subst hd; simp [Kn.words1]
  ·by_cases hnd : k.need
   ·have e : k.words1 (f + 1) data = k.c :: k.cleared.code1 data :: (k.cleared.after (k.cleared.code1 data)).words1 f (data.drop (k.cleared.lng data)) := by simp [Kn.words1, hd, hnd]
    have hl2 : Lits k.cleared.c data := hl
    obtain ⟨g1, g2, g3, g4⟩ := h.cleared.code1 hd hl2
    have hp0 : k.cleared.phi = 0 := by
     have := Kn.cleared_len h
     have e1 : k.cleared.base = k.base := rfl
     have e2 : k.cleared.last = -1 := rfl
     simp [Kn.phi, this, e1, e2]
    have hp := h.cleared.phi_after g1
    have hp2 : k.phi = 2 := by
     unfold Kn.phi
     rw [if_neg (by have := hnd.2; omega)]
    have := ih (h.cleared.after g1) (data := data.drop (k.cleared.lng data)) (by simp; omega) (by rw [Kn.after_c]; exact hl2.drop _)
    rw [e]
    simp only [List.length_cons, List.length_drop] at this ⊢
    omega
   ·have e : k.words1 (f + 1) data = k.code1 data :: (k.after (k.code1 data)).words1 f (data.drop (k.lng data)) := by simp [Kn.words1, hd, hnd]
    obtain ⟨g1, g2, g3, g4⟩ := h.code1 hd hl
    have hp := h.phi_after g1
    have := ih (h.after g1) (data := data.drop (k.lng data)) (by simp; omega) (by rw [Kn.after_c]; exact hl.drop _)
    rw [e]
    simp only [List.length_cons, List.length_drop] at this ⊢
    omega
theorem Kn.Ok.greedy_len {k : Kn} (h : k.Ok) {data : List UInt8} (hl : Lits k.c data) : (k.greedy data).length ≤ 2 + data.length + data.length / 2 := by
 have h1 := h.cleared.words1_len (Nat.le_refl data.length) (show Lits k.cleared.c data from hl)
 have hp0 : k.cleared.phi = 0 := by
  have := Kn.cleared_len h
  have e1 : k.cleared.base = k.base := rfl
  have e2 : k.cleared.last = -1 := rfl
  simp [Kn.phi, this, e1, e2]
 rw [hp0] at h1
 simp only [Kn.greedy, List.length_cons, List.length_append, List.length_nil]
 omega
end

section
set_option linter.unusedVariables false

theorem Kn.any_lit {k : Kn} {j : Int} (h0 : 0 ≤ j) (h1 : j < k.c) : k.any j = [byt j] := by
 rw [Kn.any_has (Or.inl ⟨h0, h1⟩)]; exact word_lit _ _ _ (by omega)
theorem Kn.Ok.fol_cases {k : Kn} (h : k.Ok) {j : Int} (hf : k.Fol j) : (0 ≤ j ∧ j < k.c) ∨ (k.c + 2 ≤ j ∧ j ≤ k.great) := by
 have := (h.fol_iff j).1 hf; omega
theorem Kn.Ok.fol_in {k : Kn} (h : k.Ok) {j : Int} (h1 : k.c + 2 ≤ j) (h2 : j ≤ k.great) : k.Fol j := (h.fol_iff j).2 (by have := h.cbd; omega)
theorem byt_u8 (b : UInt8) : byt (b.toNat : Int) = b := by simp [byt]
theorem Kn.Ok.find_lit1 {k : Kn} (h : k.Ok) {b : UInt8} (hb : (b.toNat : Int) < k.c) : k.find [b] = b.toNat := by
 have hc := h.cbd
 refine h.find_is (Or.inl (Or.inl ⟨by omega, hb⟩)) ?_ ?_
 ·rw [Kn.any_lit (by omega) hb, byt_u8]
 ·intro j hj hw
  rcases h.fol_cases hj with h1 | h1
  ·rw [Kn.any_lit h1.1 h1.2] at hw
   have e : byt j = b := by simpa using hw
   have := byt_nat h1.1 (by omega)
   rw [e] at this
   omega
  ·omega
/-- no literal of one byte -/
def NoLit (c : Int) (w : List UInt8) : Prop := ∀ b, w = [b] → c ≤ (b.toNat : Int)
theorem NoLit.any {k : Kn} (h : k.Ok) {w : List UInt8} (hn : NoLit k.c w) {j : Int} (h0 : 0 ≤ j) (h1 : j < k.c) : k.any j ≠ w := by
 intro e
 rw [Kn.any_lit h0 h1] at e
 have h2 := hn _ e.symm
 have := h.cbd
 rw [byt_nat h0 (by omega)] at h2
 omega
/-- none of the codes below 'code' has the word -/
def NoneTo (k : Kn) (w : List UInt8) (code : Int) : Prop := ∀ j, k.c + 2 ≤ j → j < code → k.any j ≠ w
theorem NoneTo.start (k : Kn) (w : List UInt8) : NoneTo k w (k.c + 2) := fun j h1 h2 => by omega
theorem NoneTo.next {k : Kn} {w : List UInt8} {code : Int} (h : NoneTo k w code) (hn : k.any code ≠ w) : NoneTo k w (code + 1) := fun j h1 h2 => by
 by_cases e : j = code
 ·rw [e]; exact hn
 ·exact h j h1 (by omega)
theorem NoneTo.found {k : Kn} (h : k.Ok) {w : List UInt8} (hn : NoLit k.c w) {code : Int} (hN : NoneTo k w code) (h1 : k.c + 2 ≤ code) (h2 : code ≤ k.great) (ha : k.any code = w) : k.find w = code := by
 refine h.find_is (h.fol_in h1 h2) ha (fun j hj hw => ?_)
 rcases h.fol_cases hj with h3 | h3
 ·exact absurd hw (hn.any h h3.1 h3.2)
 ·rcases Int.lt_or_le j code with h4 | h4
  ·exact absurd hw (hN j h3.1 h4)
  ·exact h4
theorem NoneTo.none {k : Kn} (h : k.Ok) {w : List UInt8} (hn : NoLit k.c w) (hN : NoneTo k w (k.great + 1)) : k.find w = -1 := by
 refine h.find_neg (fun j hj => ?_)
 rcases h.fol_cases hj with h3 | h3
 ·exact hn.any h h3.1 h3.2
 ·exact hN j h3.1 (by omega)
/-- the longest word of the codes below 'code' (and of the first byte) has s bytes -/
structure BestTo (k : Kn) (d : List UInt8) (code : Int) (s : Nat) : Prop where
 pos : 1 ≤ s
 le : s ≤ d.length
 has : ∃ j, k.Fol j ∧ k.any j = d.take s
 none : ∀ j, k.c + 2 ≤ j → j < code → ∀ i, s < i → i ≤ d.length → k.any j ≠ d.take i
theorem BestTo.start {k : Kn} (h : k.Ok) {d : List UInt8} {b : UInt8} (hd : d.head? = some b) (hb : (b.toNat : Int) < k.c) : BestTo k d (k.c + 2) 1 := by
 cases d with
 | nil => cases hd
 | cons x t =>
  simp at hd
  subst hd
  have := h.cbd
  refine ⟨by omega, by simp, ⟨x.toNat, Or.inl (Or.inl ⟨by omega, hb⟩), ?_⟩, fun j h1 h2 => by omega⟩
  rw [Kn.any_lit (by omega) hb, byt_u8]; simp
theorem BestTo.more {k : Kn} (h : k.Ok) {d : List UInt8} {code : Int} {s n : Nat} (hB : BestTo k d code s) (h1 : k.c + 2 ≤ code) (h2 : code ≤ k.great) (hn : (k.any code).length = n) (hs : s < n) (hl : n ≤ d.length) (he : d.take n = k.any code) : BestTo k d (code + 1) n := by
 refine ⟨by have := hB.pos; omega, hl, ⟨code, h.fol_in h1 h2, he.symm⟩, fun j h3 h4 i hi hid => ?_⟩
 by_cases e : j = code
 ·rw [e]
  intro e2
  have := congrArg List.length e2
  rw [hn, take_len hid] at this
  omega
 ·exact hB.none j h3 (by omega) i (by omega) hid
theorem BestTo.same {k : Kn} {d : List UInt8} {code : Int} {s n : Nat} (hB : BestTo k d code s) (hn : (k.any code).length = n) (hno : ¬ (s < n ∧ n ≤ d.length ∧ d.take n = k.any code)) : BestTo k d (code + 1) s := by
 refine ⟨hB.pos, hB.le, hB.has, fun j h3 h4 i hi hid => ?_⟩
 by_cases e : j = code
 ·rw [e]
  intro e2
  have h5 := congrArg List.length e2
  rw [hn, take_len hid] at h5
  subst h5
  exact hno ⟨hi, hid, e2.symm⟩
 ·exact hB.none j h3 (by omega) i hi hid
theorem BestTo.last {k : Kn} (h : k.Ok) {d : List UInt8} {s : Nat} (hB : BestTo k d (k.great + 1) s) : k.lng d = s := by
 obtain ⟨j, hj, ha⟩ := hB.has
 refine Kn.lng_is hB.le ?_ ?_
 ·rcases Int.lt_or_le (k.find (d.take s)) 0 with h1 | h1
  ·have := (Kn.find_no h.c0 h1 h.next_pos).2 j hj
   exact absurd ha this
  ·exact h1
 ·intro i hi hid
  rw [h.find_neg (fun j hj e => ?_)]
  ·omega
  ·rcases h.fol_cases hj with h3 | h3
   ·rw [Kn.any_lit h3.1 h3.2] at e
    have := congrArg List.length e
    rw [take_len hid] at this
    simp at this
    have := hB.pos
    omega
   ·exact hB.none j h3.1 (by omega) i hi hid e
end

section
set_option linter.unusedVariables false

/-- codes cs are written, kk is known, s bytes are done -/
structure GI (k0 : Kn) (D : List UInt8) (cs : List Int) (kk : Kn) (s f : Nat) : Prop where
 ok : kk.Ok
 c : kk.c = k0.c
 eq : k0.greedy D = cs ++ (kk.words1 f (D.drop s) ++ [k0.c + 1])
 fuel : D.length - s ≤ f
 le : s ≤ D.length
theorem GI.start {k0 : Kn} (h : k0.Ok) (D : List UInt8) : GI k0 D ([] ++ [k0.c]) (k0.step k0.c) 0 D.length := by
 rw [Kn.step_clear]
 exact ⟨h.cleared, rfl, by simp [Kn.greedy], by omega, by omega⟩
section
variable {k0 kk : Kn} {D : List UInt8} {cs : List Int} {s f : Nat}

theorem GI.rest (h : GI k0 D cs kk s f) (hs : s < D.length) : D.drop s ≠ [] := by
 intro e
 have := congrArg List.length e
 simp at this
 omega
theorem GI.clear (h : GI k0 D cs kk s f) (hs : s < D.length) (hn : kk.need) : GI k0 D (cs ++ [kk.c]) (kk.step kk.c) s f := by
 rw [Kn.step_clear]
 obtain ⟨f', rfl⟩ : ∃ f', f = f' + 1 := ⟨f - 1, by have := h.fuel; omega⟩
 refine ⟨h.ok.cleared, h.c, ?_, h.fuel, h.le⟩
 rw [h.eq]
 simp only [Kn.words1, if_neg (h.rest hs), if_pos hn, if_neg h.ok.cleared_need, List.append_assoc, List.cons_append, List.nil_append]
theorem GI.word (h : GI k0 D cs kk s f) (hl : Lits k0.c D) (hs : s < D.length) (hn : ¬ kk.need) : kk.Fol (kk.code1 (D.drop s)) ∧ 1 ≤ kk.lng (D.drop s) ∧ kk.lng (D.drop s) ≤ D.length - s ∧ ∃ f', GI k0 D (cs ++ [kk.code1 (D.drop s)]) (kk.step (kk.code1 (D.drop s))) (s + kk.lng (D.drop s)) f' := by
 obtain ⟨f', rfl⟩ : ∃ f', f = f' + 1 := ⟨f - 1, by have := h.fuel; omega⟩
 have hl2 : Lits kk.c (D.drop s) := by rw [h.c]; exact hl.drop s
 obtain ⟨h1, h2, h3, h4⟩ := h.ok.code1 (h.rest hs) hl2
 rw [List.length_drop] at h4
 refine ⟨h1, h3, h4, f', ?_⟩
 rw [Kn.step_fol h.ok h1]
 refine ⟨h.ok.after h1, h.c, ?_, by have := h.fuel; omega, by omega⟩
 rw [h.eq]
 simp only [Kn.words1, if_neg (h.rest hs), if_neg hn, List.drop_drop, List.append_assoc, List.cons_append, List.nil_append]
theorem GI.done (h : GI k0 D cs kk s f) (hs : s = D.length) : k0.greedy D = cs ++ [k0.c + 1] := by
 rw [h.eq, hs, List.drop_length, Kn.words1_nil]; rfl
theorem GI.len (h : GI k0 D cs kk s f) (hk : k0.Ok) (hl : Lits k0.c D) (hD : D.length ≤ 2000) : cs.length ≤ 4000 := by
 have h1 := hk.greedy_len hl
 have h2 := congrArg List.length h.eq
 rw [List.length_append] at h2
 omega
theorem GI.first (h : GI k0 D cs kk s f) (hl : Lits k0.c D) {b : UInt8} (hb : (D.drop s).head? = some b) : (b.toNat : Int) < kk.c := by
 rw [h.c]
 refine hl b (List.mem_of_mem_drop (i := s) ?_)
 exact List.mem_of_mem_head? hb
end
theorem cut_drop (S : ByteArray) (g : Nat) : (S.extract g S.size).data.toList = S.data.toList.drop g := by
 simp
 rw [List.take_of_length_le]
 simp
end

section
set_option linter.unusedVariables false

namespace Kn
/-- what is known behind the words of data, no clear code coming in between -/
def lrn : Nat → Kn → List UInt8 → Kn
 | 0, k, _ => k
 | f + 1, k, d => if d = [] then k else lrn f (k.after (k.code1 d)) (d.drop (k.lng d))
/-- all of its words are kept -/
def settled (q : Kn) : Kn := { q with base := q.ps.length, last := -1 }
def learned (k : Kn) (d : List UInt8) : Kn := (lrn d.length k.cleared d).settled
end Kn
structure LI (k0 : Kn) (D : List UInt8) (kk : Kn) (s f : Nat) : Prop where
 ok : kk.Ok
 c : kk.c = k0.c
 eq : Kn.lrn D.length k0.cleared D = Kn.lrn f kk (D.drop s)
 fuel : D.length - s ≤ f
 le : s ≤ D.length
theorem LI.start {k0 : Kn} (h : k0.Ok) (D : List UInt8) : LI k0 D k0.cleared 0 D.length := ⟨h.cleared, rfl, by simp, by omega, by omega⟩
section
variable {k0 kk : Kn} {D : List UInt8} {s f : Nat}

theorem LI.rest (hs : s < D.length) : D.drop s ≠ [] := by
 intro e
 have := congrArg List.length e
 simp at this
 omega
theorem LI.word (h : LI k0 D kk s f) (hl : Lits k0.c D) (hs : s < D.length) : kk.Fol (kk.code1 (D.drop s)) ∧ 1 ≤ kk.lng (D.drop s) ∧ kk.lng (D.drop s) ≤ D.length - s ∧ ∃ f', LI k0 D (kk.after (kk.code1 (D.drop s))) (s + kk.lng (D.drop s)) f' := by
 obtain ⟨f', rfl⟩ : ∃ f', f = f' + 1 := ⟨f - 1, by have := h.fuel; omega⟩
 have hl2 : Lits kk.c (D.drop s) := by rw [h.c]; exact hl.drop s
 obtain ⟨h1, h2, h3, h4⟩ := h.ok.code1 (LI.rest hs) hl2
 rw [List.length_drop] at h4
 refine ⟨h1, h3, h4, f', h.ok.after h1, h.c, ?_, by have := h.fuel; omega, by omega⟩
 rw [h.eq]
 simp only [Kn.lrn, if_neg (LI.rest hs), List.drop_drop]
theorem LI.done (h : LI k0 D kk s f) (hs : s = D.length) : k0.learned D = kk.settled := by
 unfold Kn.learned
 rw [h.eq, hs, List.drop_length]
 cases f <;> simp [Kn.lrn]
theorem LI.first (h : LI k0 D kk s f) (hl : Lits k0.c D) {b : UInt8} (hb : (D.drop s).head? = some b) : (b.toNat : Int) < kk.c := by
 rw [h.c]
 exact hl b (List.mem_of_mem_drop (i := s) (List.mem_of_mem_head? hb))
end
theorem lrn_ok : ∀ (f : Nat) {k : Kn} {d : List UInt8}, k.Ok → Lits k.c d → (Kn.lrn f k d).Ok ∧ (Kn.lrn f k d).o = k.o ∧ (Kn.lrn f k d).l = k.l ∧ (Kn.lrn f k d).m = k.m
 | 0, k, d, h, hl => ⟨h, rfl, rfl, rfl⟩
 | f + 1, k, d, h, hl => by
  unfold Kn.lrn
  split
  ·exact ⟨h, rfl, rfl, rfl⟩
  ·rename_i hd
   obtain ⟨h1, _, _, _⟩ := h.code1 hd hl
   obtain ⟨h2, h3, h4, h5⟩ := lrn_ok f (h.after h1) (d := d.drop (k.lng d)) (hl.drop _)
   exact ⟨h2, h3, h4, h5⟩
theorem Kn.Ok.settled {q : Kn} (h : q.Ok) : q.settled.Ok := ⟨h.set, h.room, h.pairs, by show (0 : Int) ≤ (q.ps.length : Nat); omega, Int.le_refl _, Or.inr ⟨rfl, rfl⟩⟩
theorem Kn.Ok.learned {k : Kn} (h : k.Ok) {d : List UInt8} (hl : Lits k.c d) : (k.learned d).Ok := (lrn_ok d.length h.cleared hl).1.settled
end
end Go.Proofs.YtmlaaammfnboiaaGreatDoor
