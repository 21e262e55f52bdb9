/- Plain mathematics: the least code with a word, and the longest word with which data begins. No condition. -/
import Derived.Test.YtblmifbpoopbdaaFm
namespace Go.Proofs.Ytblmifbpoopbdaa
set_option linter.unusedVariables false

/-- the least code with a word, among the literals and the pairs -/
def fnd (c : Int) (P : List Pr) (w : List UInt8) : Option Nat := (List.range (c.toNat + 2 + P.length)).find? (fun n => decide (HasW c n P.length) && (wd c P n == w))
theorem fnd_some {c : Int} {P : List Pr} {w : List UInt8} {n : Nat} (h : fnd c P w = some n) : HasW c n P.length ∧ wd c P n = w ∧ ∀ j : Nat, j < n → HasW c j P.length → wd c P j ≠ w := by
  unfold fnd at h
  obtain ⟨h1, h2, h3⟩ := List.find?_range_eq_some.1 h
  simp only [Bool.and_eq_true, decide_eq_true_eq, beq_iff_eq] at h1
  refine ⟨h1.1, h1.2, fun j hj hw he => ?_⟩
  have := h3 j hj
  simp [hw, he] at this
theorem fnd_none {c : Int} (hc : 0 ≤ c) {P : List Pr} {w : List UInt8} (h : fnd c P w = none) : ∀ j : Int, HasW c j P.length → wd c P j ≠ w := by
  intro j hw he
  unfold fnd at h
  rw [List.find?_eq_none] at h
  have h0 : 0 ≤ j ∧ j < c + 2 + P.length := by unfold HasW at hw; omega
  have hm : j.toNat ∈ List.range (c.toNat + 2 + P.length) := by rw [List.mem_range]; omega
  have := h _ hm
  have e : ((j.toNat : Nat) : Int) = j := by omega
  simp [e, hw, he] at this
theorem fnd_is {c : Int} {P : List Pr} {w : List UInt8} {n : Nat} (h1 : HasW c n P.length) (h2 : wd c P n = w) (h3 : ∀ j : Nat, j < n → HasW c j P.length → wd c P j ≠ w) : fnd c P w = some n := by
  unfold fnd
  refine List.find?_range_eq_some.2 ⟨by simp [h1, h2], ?_, fun j hj => ?_⟩
  · rw [List.mem_range]; unfold HasW at h1; omega
  · by_cases hw : HasW c j P.length
    · have := h3 j hj hw
      simp [hw, this]
    · simp [hw]
theorem fnd_no {c : Int} {P : List Pr} {w : List UInt8} (h : ∀ j : Int, HasW c j P.length → wd c P j ≠ w) : fnd c P w = none := by
  cases hf : fnd c P w with
  | none => rfl
  | some n =>
    have := fnd_some hf
    exact absurd this.2.1 (h _ this.1)
/-- a code that has a word has a least one -/
theorem fnd_of {c : Int} (hc : 0 ≤ c) {P : List Pr} {code : Int} (h : HasW c code P.length) : ∃ r, fnd c P (wd c P code) = some r ∧ (r : Int) ≤ code := by
  cases hf : fnd c P (wd c P code) with
  | none => exact absurd rfl (fnd_none hc hf code h)
  | some r =>
    refine ⟨r, rfl, ?_⟩
    have h3 := (fnd_some hf).2.2
    have h0 : 0 ≤ code := by unfold HasW at h; omega
    have e : ((code.toNat : Nat) : Int) = code := by omega
    by_cases hlt : (r : Int) ≤ code
    · exact hlt
    · exact absurd (by rw [e]) (h3 code.toNat (by omega) (by rw [e]; exact h))
/-- a literal's word -/
theorem fnd_lit {c : Int} {P : List Pr} {code : Nat} (hc : c ≤ 256) (hP : PairsOk c P) (h : (code : Int) < c) : fnd c P [byt code] = some code := by
  refine fnd_is (.inl ⟨by omega, h⟩) (word_lit _ _ _ (by omega)) (fun j hj _ he => ?_)
  rw [word_lit _ _ _ (by omega)] at he
  have h1 := byt_nat (n := (j : Int)) (by omega) (by omega)
  have h2 := byt_nat (n := (code : Int)) (by omega) (by omega)
  have h3 : byt (j : Int) = byt (code : Int) := by simpa using he
  rw [h3] at h1
  omega
/-- one more pair -/
theorem fnd_more {c : Int} {P : List Pr} (Q : List Pr) {w : List UInt8} {n : Nat} (h : fnd c P w = some n) : fnd c (P ++ Q) w = some n := by
  obtain ⟨h1, h2, h3⟩ := fnd_some h
  refine fnd_is (h1.mono (by simp)) (by rw [word_append _ _ _ _ h1]; exact h2) (fun j hj hw he => ?_)
  by_cases hj2 : HasW c j P.length
  · rw [word_append _ _ _ _ hj2] at he
    exact h3 j hj hj2 he
  · unfold HasW at hw hj2 h1; omega
theorem fnd_snoc {c : Int} {P : List Pr} {p : Pr} {w : List UInt8} (hc : 0 ≤ c) (h : fnd c P w = none) (hp : wd c P p.1 ++ [byt p.2] = w) : fnd c (P ++ [p]) w = some (c.toNat + 2 + P.length) := by
  have hn := fnd_none hc h
  have e : ((c.toNat + 2 + P.length : Nat) : Int) = c + 2 + (P.length : Int) := by omega
  refine fnd_is (.inr (by simp; omega)) (by rw [e, word_new, hp]) (fun j hj hw he => ?_)
  have hj2 : HasW c j P.length := by unfold HasW at *; simp at hw; omega
  rw [word_append _ _ _ _ hj2] at he
  exact hn j hj2 he
theorem fnd_other {c : Int} (hc : 0 ≤ c) {P : List Pr} {p : Pr} {w : List UInt8} (h : fnd c P w = none) (hp : wd c P p.1 ++ [byt p.2] ≠ w) : fnd c (P ++ [p]) w = none := by
  have hn := fnd_none hc h
  refine fnd_no (fun j hw he => ?_)
  by_cases hj2 : HasW c j P.length
  · rw [word_append _ _ _ _ hj2] at he
    exact hn j hj2 he
  · have e : j = c + 2 + (P.length : Int) := by unfold HasW at *; simp at hw; omega
    rw [e, word_new] at he
    exact hp he
/-- fewer pairs: what is found stays if it is among the first -/
theorem fnd_take {c : Int} (hc : 0 ≤ c) {P : List Pr} {w : List UInt8} (m : Nat) (hm : m ≤ P.length) : fnd c (P.take m) w = match fnd c P w with | some r => if (r : Int) < c + 2 + m then some r else none | none => none := by
  have hl : (P.take m).length = m := by simp; omega
  cases h : fnd c (P.take m) w with
  | some n =>
    have h1 := fnd_more (P.drop m) h
    rw [List.take_append_drop] at h1
    rw [h1]
    have h2 := (fnd_some h).1
    rw [hl] at h2
    simp only
    rw [if_pos (by unfold HasW at h2; omega)]
  | none =>
    have hn := fnd_none hc h
    cases h1 : fnd c P w with
    | none => rfl
    | some r =>
      simp only
      rw [if_neg]
      intro hlt
      obtain ⟨h2, h3, _⟩ := fnd_some h1
      have h4 : HasW c r m := by unfold HasW at *; omega
      refine hn r (by rw [hl]; exact h4) ?_
      rw [word_take _ _ _ _ hm h4]; exact h3
/-- words begin with words -/
theorem has_pre {c : Int} {P : List Pr} (hP : PairsOk c P) {code : Int} (h : HasW c code P.length) : ∀ j : Nat, 1 ≤ j → j ≤ (wd c P code).length → ∃ code', HasW c code' P.length ∧ wd c P code' = (wd c P code).take j := by
  refine word_ind c P hP (P := fun code => ∀ j : Nat, 1 ≤ j → j ≤ (wd c P code).length → ∃ code', HasW c code' P.length ∧ wd c P code' = (wd c P code).take j) ?_ ?_ code h
  · intro code h0 h1 j hj1 hj2
    refine ⟨code, .inl ⟨h0, h1⟩, ?_⟩
    rw [List.take_of_length_le]
    rw [word_lit _ _ _ (by omega)]; simpa using hj1
  · intro i p hg hp ih j hj1 hj2
    have hw := word_pair c P hP i p hg
    by_cases hj : j ≤ (wd c P p.1).length
    · obtain ⟨code', h1, h2⟩ := ih j hj1 hj
      refine ⟨code', h1, ?_⟩
      rw [h2, hw, List.take_append_of_le_length hj]
    · refine ⟨c + 2 + i, .inr ⟨by omega, by have := get_lt hg; omega⟩, ?_⟩
      rw [List.take_of_length_le]
      rw [hw] at hj2 ⊢
      simp at hj2 ⊢
      omega
/-- if a word is known, its beginnings are -/
theorem fnd_pre {c : Int} (hc : 0 ≤ c) {P : List Pr} (hP : PairsOk c P) {w : List UInt8} {r : Nat} (h : fnd c P w = some r) {j : Nat} (h1 : 1 ≤ j) (h2 : j ≤ w.length) : ∃ r', fnd c P (w.take j) = some r' := by
  obtain ⟨h3, h4, _⟩ := fnd_some h
  obtain ⟨code', h5, h6⟩ := has_pre hP h3 j h1 (by rw [h4]; exact h2)
  rw [h4] at h6
  rw [← h6]
  obtain ⟨r', hr, _⟩ := fnd_of hc h5
  exact ⟨r', hr⟩

/-! ### The code of a word, and the longest word -/
namespace Kn
variable (k : Kn)
/-- the least code with a word; -1 if there is none -/
def find (w : List UInt8) : Int := match fnd k.c k.ps w with
  | some r => r
  | none => if k.grows = true ∧ k.any k.next = w then k.next else -1
def hit (data : List UInt8) (j : Nat) : Bool := decide (0 ≤ k.find (data.take j))
/-- the length of the longest word with which data begins -/
def lng (data : List UInt8) : Nat := ((List.range (data.length + 1)).reverse.find? (k.hit data)).getD 0
end Kn
theorem Kn.Ok.c0 {k : Kn} (h : k.Ok) : 0 ≤ k.c := by have := h.cbd; omega
theorem Kn.Ok.find_some {k : Kn} (h : k.Ok) {w : List UInt8} (hw : 0 ≤ k.find w) : k.Fol (k.find w) ∧ k.any (k.find w) = w ∧ ∀ j, k.Fol j → k.any j = w → k.find w ≤ j := by
  unfold Kn.find at hw ⊢
  cases hf : fnd k.c k.ps w with
  | some r =>
    obtain ⟨h1, h2, h3⟩ := fnd_some hf
    simp only
    refine ⟨.inl h1, by rw [Kn.any_has h1]; exact h2, fun j hj he => ?_⟩
    rcases hj with hj | ⟨_, rfl⟩
    · rw [Kn.any_has hj] at he
      obtain ⟨r', hr, hle⟩ := fnd_of h.c0 hj
      rw [show wd k.c k.ps j = w from he, hf] at hr
      simp at hr
      omega
    · unfold Kn.next; unfold HasW at h1; omega
  | none =>
    rw [hf] at hw
    simp only at hw ⊢
    split at hw
    · rename_i hg
      rw [if_pos hg]
      refine ⟨.inr ⟨hg.1, rfl⟩, hg.2, fun j hj he => ?_⟩
      rcases hj with hj | ⟨_, rfl⟩
      · rw [Kn.any_has hj] at he
        exact absurd he (fnd_none h.c0 hf j hj)
      · exact Int.le_refl _
    · omega
theorem Kn.find_no {k : Kn} (hc : 0 ≤ k.c) {w : List UInt8} (hw : k.find w < 0) (hn : 0 ≤ k.next) : k.find w = -1 ∧ ∀ j, k.Fol j → k.any j ≠ w := by
  unfold Kn.find at hw ⊢
  cases hf : fnd k.c k.ps w with
  | some r => rw [hf] at hw; simp only at hw; omega
  | none =>
    rw [hf] at hw
    simp only at hw ⊢
    split at hw
    · omega
    · rename_i hg
      rw [if_neg hg]
      refine ⟨rfl, fun j hj he => ?_⟩
      rcases hj with hj | ⟨h1, rfl⟩
      · rw [Kn.any_has hj] at he
        exact fnd_none hc hf j hj he
      · exact hg ⟨h1, he⟩
theorem Kn.Ok.next_pos {k : Kn} (h : k.Ok) : 0 ≤ k.next := by have := h.cbd; unfold Kn.next; omega
theorem Kn.Ok.find_is {k : Kn} (h : k.Ok) {w : List UInt8} {n : Int} (hf : k.Fol n) (ha : k.any n = w) (hl : ∀ j, k.Fol j → k.any j = w → n ≤ j) : k.find w = n := by
  by_cases hw : 0 ≤ k.find w
  · obtain ⟨h1, h2, h3⟩ := h.find_some hw
    have := h3 n hf ha
    have := hl _ h1 h2
    omega
  · exact absurd ha ((Kn.find_no h.c0 (by omega) h.next_pos).2 n hf)
theorem Kn.Ok.find_neg {k : Kn} (h : k.Ok) {w : List UInt8} (hl : ∀ j, k.Fol j → k.any j ≠ w) : k.find w = -1 := by
  by_cases hw : 0 ≤ k.find w
  · obtain ⟨h1, h2, _⟩ := h.find_some hw
    exact absurd h2 (hl _ h1)
  · exact (Kn.find_no h.c0 (by omega) h.next_pos).1
theorem Kn.lng_is {k : Kn} {data : List UInt8} {j : Nat} (hj : j ≤ data.length) (h1 : 0 ≤ k.find (data.take j)) (h2 : ∀ i, j < i → i ≤ data.length → k.find (data.take i) < 0) : k.lng data = j := by
  have key : ∀ n : Nat, j ≤ n → n ≤ data.length → ((List.range (n + 1)).reverse.find? (k.hit data)) = some j := by
    intro n
    induction n with
    | zero =>
      intro hn _
      have : j = 0 := by omega
      subst this
      have : k.hit data 0 = true := decide_eq_true h1
      simp [this]
    | succ n ih =>
      intro hn hl
      rw [List.range_succ, List.reverse_append, List.reverse_singleton, List.singleton_append, List.find?_cons]
      by_cases he : j = n + 1
      · subst he
        have : k.hit data (n + 1) = true := by simpa [Kn.hit] using h1
        rw [this]
      · have : k.hit data (n + 1) = false := by
          have := h2 (n + 1) (by omega) hl
          simp [Kn.hit]; omega
        rw [this]
        exact ih (by omega) (by omega)
  unfold Kn.lng
  rw [key data.length hj (Nat.le_refl _)]; rfl
theorem take_take_le {α : Type} (l : List α) {i j : Nat} (h : i ≤ j) : (l.take j).take i = l.take i := by rw [List.take_take, Nat.min_eq_left h]
theorem take_len {α : Type} {l : List α} {j : Nat} (h : j ≤ l.length) : (l.take j).length = j := by simp; omega
/-- behind the first beginning that is no word there is none -/
theorem Kn.Ok.none_behind {k : Kn} (h : k.Ok) {data : List UInt8} {j : Nat} (hj : j + 1 ≤ data.length) (hn : fnd k.c k.ps (data.take (j + 1)) = none) {i : Nat} (hi : j + 1 < i) (hl : i ≤ data.length) : k.find (data.take i) < 0 := by
  unfold Kn.find
  cases hf : fnd k.c k.ps (data.take i) with
  | some r =>
    obtain ⟨r', hr⟩ := fnd_pre h.c0 h.pairs hf (j := j + 1) (by omega) (by rw [take_len hl]; omega)
    rw [take_take_le _ (by omega)] at hr
    rw [hr] at hn; cases hn
  | none =>
    simp only
    rw [if_neg]
    · decide
    · rintro ⟨hg, he⟩
      rw [Kn.any_next] at he
      have hne := word_ne _ _ h.pairs _ (h.lastW hg)
      have h1 : (wd k.c k.ps k.last).length + 1 = i := by
        have := congrArg List.length he
        rw [take_len hl, List.length_append] at this
        have h2 : ((k.word k.last).take 1).length = 1 := by
          unfold Kn.word
          cases hw : wd k.c k.ps k.last with
          | nil => exact absurd hw hne
          | cons a t => simp
        rw [h2] at this
        exact this
      have h3 : wd k.c k.ps k.last = data.take (i - 1) := by
        have := congrArg (List.take (i - 1)) he
        rw [take_take_le _ (by omega), List.take_append_of_le_length (by unfold Kn.word; omega), List.take_of_length_le (by unfold Kn.word; omega)] at this
        exact this
      obtain ⟨r, hr, _⟩ := fnd_of h.c0 (h.lastW hg)
      rw [h3] at hr
      obtain ⟨r', hr'⟩ := fnd_pre h.c0 h.pairs hr (j := j + 1) (by omega) (by rw [take_len (by omega)]; omega)
      rw [take_take_le _ (by omega)] at hr'
      rw [hr'] at hn; cases hn
/-- when the next word is the beginning that is one byte longer -/
theorem Kn.Ok.next_here {k : Kn} (h : k.Ok) {data : List UInt8} {j r : Nat} (h1 : 1 ≤ j) (hj : j < data.length) (hr : fnd k.c k.ps (data.take j) = some r) : (k.grows = true ∧ k.any k.next = data.take (j + 1)) ↔ (k.grows = true ∧ fnd k.c k.ps (k.word k.last) = some r ∧ data[j]? = data[0]?) := by
  obtain ⟨_, hw, _⟩ := fnd_some hr
  have hd : data.take (j + 1) = data.take j ++ [data[j]] := by rw [List.take_succ_eq_append_getElem hj]
  have h0 : (data.take j).take 1 = [data[0]'(by omega)] := by
    rw [take_take_le _ h1]
    cases data with
    | nil => simp at hj
    | cons a t => simp
  have hjg : data[j]? = some data[j] := List.getElem?_eq_getElem hj
  have h0g : data[0]? = some (data[0]'(by omega)) := List.getElem?_eq_getElem (by omega)
  constructor
  · rintro ⟨hg, he⟩
    rw [Kn.any_next, hd] at he
    have hne := word_ne _ _ h.pairs _ (h.lastW hg)
    have h2 : ((k.word k.last).take 1).length = 1 := by
      unfold Kn.word
      cases hw : wd k.c k.ps k.last with
      | nil => exact absurd hw hne
      | cons a t => simp
    obtain ⟨e1, e2⟩ := List.append_inj' he (by rw [h2]; rfl)
    refine ⟨hg, by rw [e1]; exact hr, ?_⟩
    rw [e1, h0] at e2
    rw [hjg, h0g]
    simpa using e2.symm
  · rintro ⟨hg, he, hb⟩
    refine ⟨hg, ?_⟩
    obtain ⟨_, hw2, _⟩ := fnd_some he
    have e1 : k.word k.last = data.take j := hw2.symm.trans hw
    rw [Kn.any_next, hd, e1, h0]
    rw [hjg, h0g] at hb
    simp at hb
    rw [hb]
theorem Kn.Ok.stop_next {k : Kn} (h : k.Ok) {data : List UInt8} {j r : Nat} (h1 : 1 ≤ j) (hj : j < data.length) (hr : fnd k.c k.ps (data.take j) = some r) (hn : fnd k.c k.ps (data.take (j + 1)) = none) (hg : k.grows = true) (hl : fnd k.c k.ps (k.word k.last) = some r) (hb : data[j]? = data[0]?) : k.lng data = j + 1 ∧ k.find (data.take (j + 1)) = k.next := by
  have h2 := (h.next_here h1 hj hr).2 ⟨hg, hl, hb⟩
  have h3 : k.find (data.take (j + 1)) = k.next := by
    unfold Kn.find
    rw [hn]
    simp only
    rw [if_pos h2]
  exact ⟨Kn.lng_is hj (by rw [h3]; exact h.next_pos) (fun i hi hil => h.none_behind hj hn hi hil), h3⟩
theorem Kn.Ok.stop_here {k : Kn} (h : k.Ok) {data : List UInt8} {j r : Nat} (h1 : 1 ≤ j) (hj : j < data.length) (hr : fnd k.c k.ps (data.take j) = some r) (hn : fnd k.c k.ps (data.take (j + 1)) = none) (hno : ¬ (k.grows = true ∧ fnd k.c k.ps (k.word k.last) = some r ∧ data[j]? = data[0]?)) : k.lng data = j ∧ k.find (data.take j) = r := by
  have h3 : k.find (data.take j) = r := by
    unfold Kn.find
    rw [hr]
  refine ⟨Kn.lng_is (by omega) (by rw [h3]; omega) (fun i hi hil => ?_), h3⟩
  by_cases he : i = j + 1
  · subst he
    unfold Kn.find
    rw [hn]
    simp only
    rw [if_neg]
    · decide
    · exact fun hx => hno ((h.next_here h1 hj hr).1 hx)
  · exact h.none_behind hj hn (by omega) hil
theorem Kn.stop_end {k : Kn} {data : List UInt8} {r : Nat} (hr : fnd k.c k.ps data = some r) : k.lng data = data.length ∧ k.find data = r := by
  have h3 : k.find data = r := by
    unfold Kn.find
    rw [hr]
  refine ⟨Kn.lng_is (Nat.le_refl _) ?_ (fun i hi hil => by omega), h3⟩
  rw [List.take_length, h3]; omega
/-- the longest word is a word -/
theorem Kn.Ok.lng_word {k : Kn} (h : k.Ok) {data : List UInt8} (h0 : 0 < data.length) (hd : ∀ b, data[0]? = some b → (b.toNat : Int) < k.c) : 1 ≤ k.lng data ∧ k.lng data ≤ data.length ∧ 0 ≤ k.find (data.take (k.lng data)) ∧ ∀ i, k.lng data < i → i ≤ data.length → k.find (data.take i) < 0 := by
  have hcb := h.cbd
  have h1 : 0 ≤ k.find (data.take 1) := by
    have e : data.take 1 = [data[0]] := by
      cases data with
      | nil => simp at h0
      | cons a t => simp
    have hb := hd data[0] (List.getElem?_eq_getElem h0)
    have : fnd k.c k.ps [byt ((data[0].toNat : Nat) : Int)] = some data[0].toNat := fnd_lit (by omega) h.pairs hb
    have e2 : byt ((data[0].toNat : Nat) : Int) = data[0] := by simp [byt]
    rw [e2] at this
    unfold Kn.find
    rw [e, this]
    simp only
    omega
  have key : ∀ n : Nat, n + 1 ≤ data.length → ∃ j, 1 ≤ j ∧ j ≤ n + 1 ∧ 0 ≤ k.find (data.take j) ∧ (∀ i, j < i → i ≤ n + 1 → k.find (data.take i) < 0) := by
    intro n
    induction n with
    | zero => intro _; exact ⟨1, Nat.le_refl _, Nat.le_refl _, h1, fun i hi hil => by omega⟩
    | succ n ih =>
      intro hn
      by_cases hf : 0 ≤ k.find (data.take (n + 2))
      · exact ⟨n + 2, by omega, Nat.le_refl _, hf, fun i hi hil => by omega⟩
      · obtain ⟨j, g1, g2, g3, g4⟩ := ih (by omega)
        refine ⟨j, g1, by omega, g3, fun i hi hil => ?_⟩
        by_cases he : i = n + 2
        · subst he; omega
        · exact g4 i hi (by omega)
  obtain ⟨j, g1, g2, g3, g4⟩ := key (data.length - 1) (by omega)
  have e : data.length - 1 + 1 = data.length := by omega
  rw [e] at g2 g4
  have := Kn.lng_is g2 g3 g4
  rw [this]
  exact ⟨g1, g2, g3, g4⟩
end Go.Proofs.Ytblmifbpoopbdaa
