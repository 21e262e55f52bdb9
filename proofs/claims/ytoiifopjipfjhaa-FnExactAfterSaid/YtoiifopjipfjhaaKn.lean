/- Plain mathematics: words of pairs, and what is known. No condition. -/
import Derived.Test.YtoiifopjipfjhaaCode
import Derived.Test.YtoiifopjipfjhaaBn
namespace Go.Proofs.Ytoiifopjipfjhaa

abbrev Pr := Int × Int
theorem head_app {α : Type} {a b : List α} (h : a ≠ []) : (a ++ b).head? = a.head? := by cases a with | nil => exact absurd rfl h | cons x t => rfl
/-- a code has a word among the literals and n pairs (c: the clear code) -/
def HasW (c code : Int) (n : Nat) : Prop := (0 ≤ code ∧ code < c) ∨ (c + 2 ≤ code ∧ code < c + 2 + n)
instance (c code : Int) (n : Nat) : Decidable (HasW c code n) := by unfold HasW; infer_instance
def PairOk (c : Int) (i : Nat) (p : Pr) : Prop := HasW c p.1 i ∧ 0 ≤ p.2 ∧ p.2 < c
instance (c : Int) (i : Nat) (p : Pr) : Decidable (PairOk c i p) := by unfold PairOk; infer_instance
def PairsOk (c : Int) (ps : List Pr) : Prop := ∀ i p, ps[i]? = some p → PairOk c i p
def byt (n : Int) : UInt8 := UInt8.ofNat n.toNat
theorem byt_nat {n : Int} (h0 : 0 ≤ n) (h1 : n ≤ 255) : ((byt n).toNat : Int) = n := by simp [byt]; omega

/-- a word out of the words of the pairs -/
def wIn (c : Int) (ws : List (List UInt8)) (code : Int) : List UInt8 := if code < c + 2 then [byt code] else (ws[(code - c - 2).toNat]?).getD []
def words (c : Int) (ps : List Pr) : List (List UInt8) := ps.foldl (fun ws p => ws ++ [wIn c ws p.1 ++ [byt p.2]]) []
theorem words_snoc (c : Int) (ps : List Pr) (p : Pr) : words c (ps ++ [p]) = words c ps ++ [wIn c (words c ps) p.1 ++ [byt p.2]] := by simp [words, List.foldl_append]
theorem snoc_ind {α : Type} {P : List α → Prop} (h0 : P []) (h1 : ∀ l a, P l → P (l ++ [a])) (l : List α) : P l := by
  rw [← List.reverse_reverse l]
  induction l.reverse with
  | nil => simpa using h0
  | cons a t ih => rw [List.reverse_cons]; exact h1 _ _ ih
theorem words_length (c : Int) (ps : List Pr) : (words c ps).length = ps.length := by
  induction ps using snoc_ind with
  | h0 => rfl
  | h1 l a ih => rw [words_snoc]; simp [ih]
theorem words_append (c : Int) (ps qs : List Pr) : ∃ r, words c (ps ++ qs) = words c ps ++ r := by
  induction qs using snoc_ind with
  | h0 => exact ⟨[], by simp⟩
  | h1 l a ih =>
    obtain ⟨r, hr⟩ := ih
    rw [← List.append_assoc, words_snoc, hr]
    exact ⟨r ++ [wIn c (words c ps ++ r) a.1 ++ [byt a.2]], by simp⟩
theorem wIn_append (c : Int) (ws r : List (List UInt8)) (code : Int) (h : HasW c code ws.length) : wIn c (ws ++ r) code = wIn c ws code := by
  unfold wIn
  split
  · rfl
  · rcases h with h | h
    · omega
    · rw [List.getElem?_append_left (by omega)]
/-- the word of a code that has one -/
def wd (c : Int) (ps : List Pr) (code : Int) : List UInt8 := wIn c (words c ps) code
theorem word_lit (c : Int) (ps : List Pr) (code : Int) (h : code < c + 2) : wd c ps code = [byt code] := by simp [wd, wIn, h]
theorem word_append (c : Int) (ps qs : List Pr) (code : Int) (h : HasW c code ps.length) : wd c (ps ++ qs) code = wd c ps code := by
  obtain ⟨r, hr⟩ := words_append c ps qs
  rw [wd, hr, wIn_append _ _ _ _ (by rw [words_length]; exact h)]; rfl
theorem word_take (c : Int) (ps : List Pr) (i : Nat) (code : Int) (hi : i ≤ ps.length) (h : HasW c code i) : wd c (ps.take i) code = wd c ps code := by
  conv => rhs; rw [← List.take_append_drop i ps]
  rw [word_append]
  simpa [Nat.min_eq_left hi] using h
theorem word_new (c : Int) (ps : List Pr) (p : Pr) : wd c (ps ++ [p]) (c + 2 + ps.length) = wd c ps p.1 ++ [byt p.2] := by
  rw [wd, words_snoc, wIn, if_neg (by omega)]
  have : (c + 2 + (ps.length : Int) - c - 2).toNat = (words c ps).length := by rw [words_length]; omega
  rw [this, List.getElem?_append_right (Nat.le_refl _)]
  simp [wd]
theorem take_succ_at {α : Type} {l : List α} {i : Nat} {p : α} (h : l[i]? = some p) : l.take (i + 1) = l.take i ++ [p] := by rw [List.take_add_one, h]; rfl
theorem get_lt {α : Type} {l : List α} {i : Nat} {p : α} (h : l[i]? = some p) : i < l.length := by
  rcases Nat.lt_or_ge i l.length with h1 | h1
  · exact h1
  · rw [List.getElem?_eq_none h1] at h; cases h
theorem word_pair (c : Int) (ps : List Pr) (hp : PairsOk c ps) (i : Nat) (p : Pr) (h : ps[i]? = some p) : wd c ps (c + 2 + i) = wd c ps p.1 ++ [byt p.2] := by
  have hi := get_lt h
  have h1 := (hp i p h).1
  rw [← word_take c ps (i + 1) _ (by omega) (Or.inr (by omega)), take_succ_at h]
  have e : (ps.take i).length = i := by simp; omega
  have := word_new c (ps.take i) p
  rw [e] at this
  rw [this, word_take c ps i _ (by omega) h1]
theorem HasW.mono {c code : Int} {n m : Nat} (h : HasW c code n) (hnm : n ≤ m) : HasW c code m := by unfold HasW at *; omega
theorem PairsOk.take {c : Int} {ps : List Pr} (h : PairsOk c ps) (n : Nat) : PairsOk c (ps.take n) := by
  intro i p hp
  rw [List.getElem?_take] at hp
  split at hp
  · exact h i p hp
  · cases hp
theorem PairsOk.snoc {c : Int} {ps : List Pr} (h : PairsOk c ps) {p : Pr} (hp : PairOk c ps.length p) : PairsOk c (ps ++ [p]) := by
  intro i q hq
  by_cases hi : i < ps.length
  · rw [List.getElem?_append_left hi] at hq; exact h i q hq
  · have := get_lt hq
    simp at this
    have e : i = ps.length := by omega
    subst e
    simp at hq
    subst hq; exact hp
/-- induction over the codes that have a word -/
theorem word_ind (c : Int) (ps : List Pr) (hp : PairsOk c ps) {P : Int → Prop} (h0 : ∀ code, 0 ≤ code → code < c → P code) (h1 : ∀ (i : Nat) (p : Pr), ps[i]? = some p → HasW c p.1 i → P p.1 → P (c + 2 + i)) (code : Int) (h : HasW c code ps.length) : P code := by
  have key : ∀ n : Nat, n ≤ ps.length → ∀ code, HasW c code n → P code := by
    intro n
    induction n with
    | zero => intro _ code h; rcases h with h | h; exact h0 _ h.1 h.2; omega
    | succ n ih =>
      intro hn code h
      by_cases h2 : HasW c code n
      · exact ih (by omega) code h2
      · have e : code = c + 2 + (n : Int) := by unfold HasW at *; omega
        have hg : ps[n]? = some ps[n] := List.getElem?_eq_getElem (by omega)
        have h3 := (hp n _ hg).1
        rw [e]
        exact h1 n _ hg h3 (ih (by omega) _ h3)
  exact key _ (Nat.le_refl _) code h
theorem word_ne (c : Int) (ps : List Pr) (hp : PairsOk c ps) (code : Int) (h : HasW c code ps.length) : wd c ps code ≠ [] := by
  refine word_ind c ps hp (P := fun code => wd c ps code ≠ []) ?_ ?_ code h
  · intro code _ h2; rw [word_lit _ _ _ (by omega)]; simp
  · intro i p hg _ _; rw [word_pair _ _ hp _ _ hg]; simp
theorem word_len_at (c : Int) (ps : List Pr) (hp : PairsOk c ps) (n : Nat) (hn : n ≤ ps.length) (code : Int) (h : HasW c code n) : (wd c ps code).length ≤ n + 1 := by
  induction n generalizing code with
  | zero => rcases h with h | h; rw [word_lit _ _ _ (by omega)]; simp; omega
  | succ n ih =>
    by_cases h2 : HasW c code n
    · have := ih (by omega) code h2; omega
    · have e : code = c + 2 + (n : Int) := by unfold HasW at *; omega
      have hg : ps[n]? = some ps[n] := List.getElem?_eq_getElem (by omega)
      have h3 := (hp n _ hg).1
      rw [e, word_pair _ _ hp _ _ hg]
      have := ih (by omega) _ h3
      simp; omega
theorem word_len (c : Int) (ps : List Pr) (hp : PairsOk c ps) (code : Int) (h : HasW c code ps.length) : (wd c ps code).length ≤ ps.length + 1 := word_len_at c ps hp _ (Nat.le_refl _) code h
/-- the first byte, as a number -/
def fstN (c : Int) (ps : List Pr) (code : Int) : Int := (((wd c ps code).head?.getD 0).toNat : Int)
theorem word_lt (c : Int) (ps : List Pr) (hc : c ≤ 256) (hp : PairsOk c ps) (code : Int) (h : HasW c code ps.length) : ∀ b ∈ wd c ps code, (b.toNat : Int) < c := by
  refine word_ind c ps hp (P := fun code => ∀ b ∈ wd c ps code, (b.toNat : Int) < c) ?_ ?_ code h
  · intro code h0 h2 b hb
    rw [word_lit _ _ _ (by omega)] at hb
    simp at hb
    rw [hb, byt_nat h0 (by omega)]; omega
  · intro i p hg _ ih b hb
    have h3 := (hp i p hg).2
    rw [word_pair _ _ hp _ _ hg] at hb
    simp at hb
    rcases hb with hb | hb
    · exact ih b hb
    · rw [hb, byt_nat h3.1 (by omega)]; omega
theorem fstN_lit (c : Int) (ps : List Pr) (hc : c ≤ 256) (code : Int) (h0 : 0 ≤ code) (h : code < c) : fstN c ps code = code := by
  rw [fstN, word_lit _ _ _ (by omega)]
  simpa using byt_nat h0 (by omega)
theorem fstN_pair (c : Int) (ps : List Pr) (hp : PairsOk c ps) (i : Nat) (p : Pr) (h : ps[i]? = some p) : fstN c ps (c + 2 + i) = fstN c ps p.1 := by
  have h1 := word_ne c ps hp p.1 ((hp i p h).1.mono (Nat.le_of_lt (get_lt h)))
  rw [fstN, word_pair _ _ hp _ _ h, head_app h1]; rfl
theorem fstN_bd (c : Int) (ps : List Pr) (hc : c ≤ 256) (hp : PairsOk c ps) (code : Int) (h : HasW c code ps.length) : 0 ≤ fstN c ps code ∧ fstN c ps code < c := by
  have h1 := word_ne c ps hp code h
  have h2 := word_lt c ps hc hp code h
  cases hw : wd c ps code with
  | nil => exact absurd hw h1
  | cons b t =>
    have := h2 b (by rw [hw]; simp)
    simp [fstN, hw]; omega

/-! ### What is known -/
structure Kn where
  o : Int
  l : Int
  m : Int
  ps : List Pr
  base : Int
  last : Int
namespace Kn
variable (k : Kn)
def c : Int := pow2 k.l
def lc : Int := pow2 k.m - 1
def next : Int := k.c + 2 + k.ps.length
def grows : Bool := decide (0 ≤ k.last ∧ k.next ≤ k.lc)
def great : Int := if k.grows = true then k.next else k.next - 1
def width : Int := max (k.l + 1) (nd k.great.toNat)
/-- a code that has a word, and can follow -/
def Fol (code : Int) : Prop := HasW k.c code k.ps.length ∨ (k.grows = true ∧ code = k.next)
instance (code : Int) : Decidable (k.Fol code) := by unfold Fol; infer_instance
structure Ok : Prop where
  set : setOk k.o k.l k.m = true
  room : (k.ps.length : Int) ≤ k.lc - (k.c + 1)
  pairs : PairsOk k.c k.ps
  base0 : 0 ≤ k.base
  base1 : k.base ≤ k.ps.length
  lastOk : HasW k.c k.last k.ps.length ∨ (k.last = -1 ∧ k.base = k.ps.length)
def word (code : Int) : List UInt8 := wd k.c k.ps code
/-- the word of a code that can follow -/
def any (code : Int) : List UInt8 := if code = k.next then k.word k.last ++ (k.word k.last).take 1 else k.word code
def fst (code : Int) : Int := (((k.any code).head?.getD 0).toNat : Int)
def cleared : Kn := { k with ps := k.ps.take k.base.toNat, last := -1 }
def after (code : Int) : Kn := { k with ps := if k.grows = true then k.ps ++ [(k.last, k.fst code)] else k.ps, last := code }
def step (code : Int) : Kn := if code = k.c then k.cleared else k.after code
end Kn
theorem Kn.Ok.cbd {k : Kn} (h : k.Ok) : 2 ≤ k.c ∧ k.c ≤ 256 ∧ k.c + 3 ≤ k.lc ∧ k.lc ≤ 1023 := by
  obtain ⟨_, ⟨h1, h2⟩, h3, h4⟩ := setOk_iff.1 h.set
  have e : ∀ a : Int, 0 ≤ a → pow2 a = ((2 ^ a.toNat : Nat) : Int) := fun a _ => by simp [pow2]
  have hl : (2 : Nat) ^ 1 ≤ 2 ^ k.l.toNat := Nat.pow_le_pow_right (by omega) (by omega)
  have hl2 : (2 : Nat) ^ k.l.toNat ≤ 2 ^ 8 := Nat.pow_le_pow_right (by omega) (by omega)
  have hm : (2 : Nat) ^ (k.l.toNat + 2) ≤ 2 ^ k.m.toNat := Nat.pow_le_pow_right (by omega) (by omega)
  have hm2 : (2 : Nat) ^ k.m.toNat ≤ 2 ^ 10 := Nat.pow_le_pow_right (by omega) (by omega)
  rw [Nat.pow_add] at hm
  unfold Kn.c Kn.lc
  rw [e _ (by omega), e _ (by omega)]
  omega
theorem Kn.Ok.len {k : Kn} (h : k.Ok) : k.ps.length ≤ 1020 := by have := h.cbd; have := h.room; omega
theorem Kn.Ok.lastBd {k : Kn} (h : k.Ok) : -1 ≤ k.last ∧ k.last < k.next := by
  have := h.cbd; have := h.lastOk; unfold HasW at this; unfold Kn.next; omega
theorem Kn.Ok.lastW {k : Kn} (h : k.Ok) (hg : k.grows = true) : HasW k.c k.last k.ps.length := by
  have h1 := h.lastOk
  simp [Kn.grows] at hg
  rcases h1 with h1 | h1
  · exact h1
  · omega
theorem Kn.Ok.next_le {k : Kn} (h : k.Ok) : k.next ≤ k.lc + 1 := by have := h.room; unfold Kn.next; omega
theorem Kn.Ok.great_bd {k : Kn} (h : k.Ok) : k.c + 1 ≤ k.great ∧ k.great ≤ k.lc := by
  have := h.room
  unfold Kn.great
  split
  · rename_i hg; simp [Kn.grows] at hg; unfold Kn.next at *; omega
  · unfold Kn.next; omega
theorem Kn.Ok.fol_iff {k : Kn} (h : k.Ok) (code : Int) : k.Fol code ↔ 0 ≤ code ∧ code ≤ k.great ∧ code ≠ k.c ∧ code ≠ k.c + 1 := by
  have := h.cbd
  unfold Kn.Fol HasW Kn.great Kn.next
  split <;> rename_i hg <;> simp only [hg, true_and, false_and, Bool.false_eq_true, or_false] <;> omega
theorem Kn.any_has {k : Kn} {code : Int} (h : HasW k.c code k.ps.length) : k.any code = k.word code := by
  unfold Kn.any
  rw [if_neg]
  unfold Kn.next; unfold HasW at h; omega
theorem Kn.any_next (k : Kn) : k.any k.next = k.word k.last ++ (k.word k.last).take 1 := by simp [Kn.any]
theorem Kn.Ok.any_ne {k : Kn} (h : k.Ok) {code : Int} (hf : k.Fol code) : k.any code ≠ [] := by
  rcases hf with hf | ⟨hg, rfl⟩
  · rw [Kn.any_has hf]; exact word_ne _ _ h.pairs _ hf
  · rw [Kn.any_next]
    have := word_ne _ _ h.pairs _ (h.lastW hg)
    exact List.append_ne_nil_of_left_ne_nil this _
theorem Kn.Ok.any_len {k : Kn} (h : k.Ok) {code : Int} (hf : k.Fol code) : (k.any code).length ≤ 1022 := by
  have hl := h.len
  rcases hf with hf | ⟨hg, rfl⟩
  · rw [Kn.any_has hf]; have := word_len _ _ h.pairs _ hf; unfold Kn.word; omega
  · rw [Kn.any_next]
    have := word_len _ _ h.pairs _ (h.lastW hg)
    simp only [List.length_append, List.length_take]; unfold Kn.word; omega
theorem Kn.Ok.any_lt {k : Kn} (h : k.Ok) {code : Int} (hf : k.Fol code) : ∀ b ∈ k.any code, (b.toNat : Int) < k.c := by
  have hc := h.cbd
  rcases hf with hf | ⟨hg, rfl⟩
  · rw [Kn.any_has hf]; exact word_lt _ _ (by omega) h.pairs _ hf
  · rw [Kn.any_next]
    have := word_lt _ _ (by omega) h.pairs _ (h.lastW hg)
    intro b hb
    rw [List.mem_append] at hb
    rcases hb with hb | hb
    · exact this b hb
    · exact this b (List.mem_of_mem_take hb)
theorem Kn.Ok.fst_bd {k : Kn} (h : k.Ok) {code : Int} (hf : k.Fol code) : 0 ≤ k.fst code ∧ k.fst code < k.c := by
  have h1 := h.any_ne hf
  have h2 := h.any_lt hf
  cases hw : k.any code with
  | nil => exact absurd hw h1
  | cons b t =>
    have := h2 b (by rw [hw]; simp)
    simp [Kn.fst, hw]; omega
theorem Kn.Ok.fst_next {k : Kn} (h : k.Ok) (hg : k.grows = true) : k.fst k.next = fstN k.c k.ps k.last := by
  rw [Kn.fst, Kn.any_next, head_app (a := k.word k.last) (word_ne _ _ h.pairs _ (h.lastW hg))]; rfl
theorem Kn.fst_has {k : Kn} {code : Int} (h : HasW k.c code k.ps.length) : k.fst code = fstN k.c k.ps code := by rw [Kn.fst, Kn.any_has h]; rfl
theorem Kn.Ok.cleared {k : Kn} (h : k.Ok) : k.cleared.Ok := by
  have h0 := h.base0
  have h1 := h.base1
  have e : (k.ps.take k.base.toNat).length = k.base.toNat := by simp; omega
  refine ⟨h.set, ?_, h.pairs.take _, h.base0, ?_, Or.inr ⟨rfl, ?_⟩⟩
  · have := h.room; simp only [Kn.cleared, e]; show ((k.base.toNat : Nat) : Int) ≤ k.lc - (k.c + 1); omega
  · simp only [Kn.cleared, e]; omega
  · simp only [Kn.cleared, e]; omega
theorem Kn.Ok.after {k : Kn} (h : k.Ok) {code : Int} (hf : k.Fol code) : (k.after code).Ok := by
  have h0 := h.base0
  have h1 := h.base1
  have hc := h.cbd
  have hb := h.fst_bd hf
  by_cases hg : k.grows = true
  · have e : (k.after code).ps = k.ps ++ [(k.last, k.fst code)] := by simp [Kn.after, hg]
    have hl := h.lastW hg
    have hn : k.next ≤ k.lc := by simp [Kn.grows] at hg; exact hg.2
    refine ⟨h.set, ?_, ?_, h.base0, ?_, Or.inl ?_⟩
    · rw [e]; show ((k.ps ++ [_]).length : Int) ≤ k.lc - (k.c + 1); simp; unfold Kn.next at hn; omega
    · rw [e]; exact h.pairs.snoc ⟨hl, hb.1, hb.2⟩
    · rw [e]; show k.base ≤ _; simp; omega
    · rw [e]; show HasW k.c code _
      rcases hf with hf | ⟨_, rfl⟩
      · exact hf.mono (by simp)
      · right; unfold Kn.next; simp; omega
  · have e : (k.after code).ps = k.ps := by simp [Kn.after, hg]
    refine ⟨h.set, by rw [e]; exact h.room, by rw [e]; exact h.pairs, h.base0, by rw [e]; exact h.base1, Or.inl ?_⟩
    rw [e]; show HasW k.c code _
    rcases hf with hf | ⟨hg2, _⟩
    · exact hf
    · exact absurd hg2 hg
theorem Kn.Ok.step {k : Kn} (h : k.Ok) {code : Int} (hf : code = k.c ∨ k.Fol code) : (k.step code).Ok := by
  unfold Kn.step
  split
  · exact h.cleared
  · rcases hf with hf | hf
    · contradiction
    · exact h.after hf
end Go.Proofs.Ytoiifopjipfjhaa
