/- Plain mathematics: words of pairs, and what is known. No condition. Pairs in memory: a slice that holds them, and one that owns them. No condition. Laws of make, append and store on slices of pairs that the call itself owns. No condition. Plain mathematics: codes that follow each other, their widths, data and bits. No condition. Plain mathematics: codes that are read from bits. No condition. Plain mathematics: trails, that is, codes that have been followed, with their widths and data. No condition. Plain mathematics: a trail that goes on by the codes of bits. No condition. What a world is known to hold, a list of cells: kept behind a draw, a call that only adds boxes, an alloc. No condition. -/
import Derived.Test.YtlekjmgjnnljcaaBa
import Derived.Laws.AppendOwnNone
import Derived.Deep.RegionHeld3
namespace Go.Proofs.Ytlekjmgjnnljcaa
section
abbrev Pr := Int × Int
theorem head_app {α : Type} {a b : List α} (h : a ≠ []) : (a ++ b).head? = a.head? := by cases a with | nil => exact absurd rfl h | cons x t => rfl
/-- a code has a word among the literals and n pairs (c: the clear code) -/
def HasW (c code : Int) (n : Nat) : Prop := (0 ≤ code ∧ code < c) ∨ (c + 2 ≤ code ∧ code < c + 2 + n)
instance (c code : Int) (n : Nat) : Decidable (HasW c code n) := by unfold HasW; infer_instance
def PairOk (c : Int) (i : Nat) (p : Pr) : Prop := HasW c p.1 i ∧ 0 ≤ p.2 ∧ p.2 < c
instance (c : Int) (i : Nat) (p : Pr) : Decidable (PairOk c i p) := by unfold PairOk; infer_instance
def PairsOk (c : Int) (ps : List Pr) : Prop := ∀ i p, ps[i]? = some p → PairOk c i p
def byt (n : Int) : UInt8 := UInt8.ofNat n.toNat
theorem byt_nat {n : Int} (h0 : 0 ≤ n) (h1 : n ≤ 255) : ((byt n).toNat : Int) = n := by simp [byt]; omega

/-- a word out of the words of the pairs -/
def wIn (c : Int) (ws : List (List UInt8)) (code : Int) : List UInt8 := if code < c + 2 then [byt code] else (ws[(code - c - 2).toNat]?).getD []
def words (c : Int) (ps : List Pr) : List (List UInt8) := ps.foldl (fun ws p => ws ++ [wIn c ws p.1 ++ [byt p.2]]) []
theorem words_snoc (c : Int) (ps : List Pr) (p : Pr) : words c (ps ++ [p]) = words c ps ++ [wIn c (words c ps) p.1 ++ [byt p.2]] := by simp [words, List.foldl_append]
theorem snoc_ind {α : Type} {P : List α → Prop} (h0 : P []) (h1 : ∀ l a, P l → P (l ++ [a])) (l : List α) : P l := by
  rw [← List.reverse_reverse l]
  induction l.reverse with
  | nil => simpa using h0
  | cons a t ih => rw [List.reverse_cons]; exact h1 _ _ ih
theorem words_length (c : Int) (ps : List Pr) : (words c ps).length = ps.length := by
  induction ps using snoc_ind with
  | h0 => rfl
  | h1 l a ih => rw [words_snoc]; simp [ih]
theorem words_append (c : Int) (ps qs : List Pr) : ∃ r, words c (ps ++ qs) = words c ps ++ r := by
  induction qs using snoc_ind with
  | h0 => exact ⟨[], by simp⟩
  | h1 l a ih =>
    obtain ⟨r, hr⟩ := ih
    rw [← List.append_assoc, words_snoc, hr]
    exact ⟨r ++ [wIn c (words c ps ++ r) a.1 ++ [byt a.2]], by simp⟩
theorem wIn_append (c : Int) (ws r : List (List UInt8)) (code : Int) (h : HasW c code ws.length) : wIn c (ws ++ r) code = wIn c ws code := by
  unfold wIn
  split
  · rfl
  · rcases h with h | h
    · omega
    · rw [List.getElem?_append_left (by omega)]
/-- the word of a code that has one -/
def wd (c : Int) (ps : List Pr) (code : Int) : List UInt8 := wIn c (words c ps) code
theorem word_lit (c : Int) (ps : List Pr) (code : Int) (h : code < c + 2) : wd c ps code = [byt code] := by simp [wd, wIn, h]
theorem word_append (c : Int) (ps qs : List Pr) (code : Int) (h : HasW c code ps.length) : wd c (ps ++ qs) code = wd c ps code := by
  obtain ⟨r, hr⟩ := words_append c ps qs
  rw [wd, hr, wIn_append _ _ _ _ (by rw [words_length]; exact h)]; rfl
theorem word_take (c : Int) (ps : List Pr) (i : Nat) (code : Int) (hi : i ≤ ps.length) (h : HasW c code i) : wd c (ps.take i) code = wd c ps code := by
  conv => rhs; rw [← List.take_append_drop i ps]
  rw [word_append]
  simpa [Nat.min_eq_left hi] using h
theorem word_new (c : Int) (ps : List Pr) (p : Pr) : wd c (ps ++ [p]) (c + 2 + ps.length) = wd c ps p.1 ++ [byt p.2] := by
  rw [wd, words_snoc, wIn, if_neg (by omega)]
  have : (c + 2 + (ps.length : Int) - c - 2).toNat = (words c ps).length := by rw [words_length]; omega
  rw [this, List.getElem?_append_right (Nat.le_refl _)]
  simp [wd]
theorem take_succ_at {α : Type} {l : List α} {i : Nat} {p : α} (h : l[i]? = some p) : l.take (i + 1) = l.take i ++ [p] := by rw [List.take_add_one, h]; rfl
theorem get_lt {α : Type} {l : List α} {i : Nat} {p : α} (h : l[i]? = some p) : i < l.length := by
  rcases Nat.lt_or_ge i l.length with h1 | h1
  · exact h1
  · rw [List.getElem?_eq_none h1] at h; cases h
theorem word_pair (c : Int) (ps : List Pr) (hp : PairsOk c ps) (i : Nat) (p : Pr) (h : ps[i]? = some p) : wd c ps (c + 2 + i) = wd c ps p.1 ++ [byt p.2] := by
  have hi := get_lt h
  have h1 := (hp i p h).1
  rw [← word_take c ps (i + 1) _ (by omega) (Or.inr (by omega)), take_succ_at h]
  have e : (ps.take i).length = i := by simp; omega
  have := word_new c (ps.take i) p
  rw [e] at this
  rw [this, word_take c ps i _ (by omega) h1]
theorem HasW.mono {c code : Int} {n m : Nat} (h : HasW c code n) (hnm : n ≤ m) : HasW c code m := by unfold HasW at *; omega
theorem PairsOk.take {c : Int} {ps : List Pr} (h : PairsOk c ps) (n : Nat) : PairsOk c (ps.take n) := by
  intro i p hp
  rw [List.getElem?_take] at hp
  split at hp
  · exact h i p hp
  · cases hp
theorem PairsOk.snoc {c : Int} {ps : List Pr} (h : PairsOk c ps) {p : Pr} (hp : PairOk c ps.length p) : PairsOk c (ps ++ [p]) := by
  intro i q hq
  by_cases hi : i < ps.length
  · rw [List.getElem?_append_left hi] at hq; exact h i q hq
  · have := get_lt hq
    simp at this
    have e : i = ps.length := by omega
    subst e
    simp at hq
    subst hq; exact hp
/-- induction over the codes that have a word -/
theorem word_ind (c : Int) (ps : List Pr) (hp : PairsOk c ps) {P : Int → Prop} (h0 : ∀ code, 0 ≤ code → code < c → P code) (h1 : ∀ (i : Nat) (p : Pr), ps[i]? = some p → HasW c p.1 i → P p.1 → P (c + 2 + i)) (code : Int) (h : HasW c code ps.length) : P code := by
  have key : ∀ n : Nat, n ≤ ps.length → ∀ code, HasW c code n → P code := by
    intro n
    induction n with
    | zero => intro _ code h; rcases h with h | h; exact h0 _ h.1 h.2; omega
    | succ n ih =>
      intro hn code h
      by_cases h2 : HasW c code n
      · exact ih (by omega) code h2
      · have e : code = c + 2 + (n : Int) := by unfold HasW at *; omega
        have hg : ps[n]? = some ps[n] := List.getElem?_eq_getElem (by omega)
        have h3 := (hp n _ hg).1
        rw [e]
        exact h1 n _ hg h3 (ih (by omega) _ h3)
  exact key _ (Nat.le_refl _) code h
theorem word_ne (c : Int) (ps : List Pr) (hp : PairsOk c ps) (code : Int) (h : HasW c code ps.length) : wd c ps code ≠ [] := by
  refine word_ind c ps hp (P := fun code => wd c ps code ≠ []) ?_ ?_ code h
  · intro code _ h2; rw [word_lit _ _ _ (by omega)]; simp
  · intro i p hg _ _; rw [word_pair _ _ hp _ _ hg]; simp
theorem word_len_at (c : Int) (ps : List Pr) (hp : PairsOk c ps) (n : Nat) (hn : n ≤ ps.length) (code : Int) (h : HasW c code n) : (wd c ps code).length ≤ n + 1 := by
  induction n generalizing code with
  | zero => rcases h with h | h; rw [word_lit _ _ _ (by omega)]; simp; omega
  | succ n ih =>
    by_cases h2 : HasW c code n
    · have := ih (by omega) code h2; omega
    · have e : code = c + 2 + (n : Int) := by unfold HasW at *; omega
      have hg : ps[n]? = some ps[n] := List.getElem?_eq_getElem (by omega)
      have h3 := (hp n _ hg).1
      rw [e, word_pair _ _ hp _ _ hg]
      have := ih (by omega) _ h3
      simp; omega
theorem word_len (c : Int) (ps : List Pr) (hp : PairsOk c ps) (code : Int) (h : HasW c code ps.length) : (wd c ps code).length ≤ ps.length + 1 := word_len_at c ps hp _ (Nat.le_refl _) code h
/-- the first byte, as a number -/
def fstN (c : Int) (ps : List Pr) (code : Int) : Int := (((wd c ps code).head?.getD 0).toNat : Int)
theorem word_lt (c : Int) (ps : List Pr) (hc : c ≤ 256) (hp : PairsOk c ps) (code : Int) (h : HasW c code ps.length) : ∀ b ∈ wd c ps code, (b.toNat : Int) < c := by
  refine word_ind c ps hp (P := fun code => ∀ b ∈ wd c ps code, (b.toNat : Int) < c) ?_ ?_ code h
  · intro code h0 h2 b hb
    rw [word_lit _ _ _ (by omega)] at hb
    simp at hb
    rw [hb, byt_nat h0 (by omega)]; omega
  · intro i p hg _ ih b hb
    have h3 := (hp i p hg).2
    rw [word_pair _ _ hp _ _ hg] at hb
    simp at hb
    rcases hb with hb | hb
    · exact ih b hb
    · rw [hb, byt_nat h3.1 (by omega)]; omega
theorem fstN_lit (c : Int) (ps : List Pr) (hc : c ≤ 256) (code : Int) (h0 : 0 ≤ code) (h : code < c) : fstN c ps code = code := by
  rw [fstN, word_lit _ _ _ (by omega)]
  simpa using byt_nat h0 (by omega)
theorem fstN_pair (c : Int) (ps : List Pr) (hp : PairsOk c ps) (i : Nat) (p : Pr) (h : ps[i]? = some p) : fstN c ps (c + 2 + i) = fstN c ps p.1 := by
  have h1 := word_ne c ps hp p.1 ((hp i p h).1.mono (Nat.le_of_lt (get_lt h)))
  rw [fstN, word_pair _ _ hp _ _ h, head_app h1]; rfl
theorem fstN_bd (c : Int) (ps : List Pr) (hc : c ≤ 256) (hp : PairsOk c ps) (code : Int) (h : HasW c code ps.length) : 0 ≤ fstN c ps code ∧ fstN c ps code < c := by
  have h1 := word_ne c ps hp code h
  have h2 := word_lt c ps hc hp code h
  cases hw : wd c ps code with
  | nil => exact absurd hw h1
  | cons b t =>
    have := h2 b (by rw [hw]; simp)
    simp [fstN, hw]; omega

/-! ### What is known -/
structure Kn where
  o : Int
  l : Int
  m : Int
  ps : List Pr
  base : Int
  last : Int
namespace Kn
variable (k : Kn)

def c : Int := pow2 k.l
def lc : Int := pow2 k.m - 1
def next : Int := k.c + 2 + k.ps.length
def grows : Bool := decide (0 ≤ k.last ∧ k.next ≤ k.lc)
def great : Int := if k.grows = true then k.next else k.next - 1
def width : Int := max (k.l + 1) (nd k.great.toNat)
/-- a code that has a word, and can follow -/
def Fol (code : Int) : Prop := HasW k.c code k.ps.length ∨ (k.grows = true ∧ code = k.next)
instance (code : Int) : Decidable (k.Fol code) := by unfold Fol; infer_instance
structure Ok : Prop where
  set : setOk k.o k.l k.m = true
  room : (k.ps.length : Int) ≤ k.lc - (k.c + 1)
  pairs : PairsOk k.c k.ps
  base0 : 0 ≤ k.base
  base1 : k.base ≤ k.ps.length
  lastOk : HasW k.c k.last k.ps.length ∨ (k.last = -1 ∧ k.base = k.ps.length)
def word (code : Int) : List UInt8 := wd k.c k.ps code
/-- the word of a code that can follow -/
def any (code : Int) : List UInt8 := if code = k.next then k.word k.last ++ (k.word k.last).take 1 else k.word code
def fst (code : Int) : Int := (((k.any code).head?.getD 0).toNat : Int)
def cleared : Kn := { k with ps := k.ps.take k.base.toNat, last := -1 }
def after (code : Int) : Kn := { k with ps := if k.grows = true then k.ps ++ [(k.last, k.fst code)] else k.ps, last := code }
def step (code : Int) : Kn := if code = k.c then k.cleared else k.after code
end Kn
theorem Kn.Ok.cbd {k : Kn} (h : k.Ok) : 2 ≤ k.c ∧ k.c ≤ 256 ∧ k.c + 3 ≤ k.lc ∧ k.lc ≤ 1023 := by
  obtain ⟨_, ⟨h1, h2⟩, h3, h4⟩ := setOk_iff.1 h.set
  have e : ∀ a : Int, 0 ≤ a → pow2 a = ((2 ^ a.toNat : Nat) : Int) := fun a _ => by simp [pow2]
  have hl : (2 : Nat) ^ 1 ≤ 2 ^ k.l.toNat := Nat.pow_le_pow_right (by omega) (by omega)
  have hl2 : (2 : Nat) ^ k.l.toNat ≤ 2 ^ 8 := Nat.pow_le_pow_right (by omega) (by omega)
  have hm : (2 : Nat) ^ (k.l.toNat + 2) ≤ 2 ^ k.m.toNat := Nat.pow_le_pow_right (by omega) (by omega)
  have hm2 : (2 : Nat) ^ k.m.toNat ≤ 2 ^ 10 := Nat.pow_le_pow_right (by omega) (by omega)
  rw [Nat.pow_add] at hm
  unfold Kn.c Kn.lc
  rw [e _ (by omega), e _ (by omega)]
  omega
theorem Kn.Ok.len {k : Kn} (h : k.Ok) : k.ps.length ≤ 1020 := by have := h.cbd; have := h.room; omega
theorem Kn.Ok.lastBd {k : Kn} (h : k.Ok) : -1 ≤ k.last ∧ k.last < k.next := by
  have := h.cbd; have := h.lastOk; unfold HasW at this; unfold Kn.next; omega
theorem Kn.Ok.lastW {k : Kn} (h : k.Ok) (hg : k.grows = true) : HasW k.c k.last k.ps.length := by
  have h1 := h.lastOk
  simp [Kn.grows] at hg
  rcases h1 with h1 | h1
  · exact h1
  · omega
theorem Kn.Ok.next_le {k : Kn} (h : k.Ok) : k.next ≤ k.lc + 1 := by have := h.room; unfold Kn.next; omega
theorem Kn.Ok.great_bd {k : Kn} (h : k.Ok) : k.c + 1 ≤ k.great ∧ k.great ≤ k.lc := by
  have := h.room
  unfold Kn.great
  split
  · rename_i hg; simp [Kn.grows] at hg; unfold Kn.next at *; omega
  · unfold Kn.next; omega
theorem Kn.Ok.fol_iff {k : Kn} (h : k.Ok) (code : Int) : k.Fol code ↔ 0 ≤ code ∧ code ≤ k.great ∧ code ≠ k.c ∧ code ≠ k.c + 1 := by
  have := h.cbd
  unfold Kn.Fol HasW Kn.great Kn.next
  split <;> rename_i hg <;> simp only [hg, true_and, false_and, Bool.false_eq_true, or_false] <;> omega
theorem Kn.any_has {k : Kn} {code : Int} (h : HasW k.c code k.ps.length) : k.any code = k.word code := by
  unfold Kn.any
  rw [if_neg]
  unfold Kn.next; unfold HasW at h; omega
theorem Kn.any_next (k : Kn) : k.any k.next = k.word k.last ++ (k.word k.last).take 1 := by simp [Kn.any]
theorem Kn.Ok.any_ne {k : Kn} (h : k.Ok) {code : Int} (hf : k.Fol code) : k.any code ≠ [] := by
  rcases hf with hf | ⟨hg, rfl⟩
  · rw [Kn.any_has hf]; exact word_ne _ _ h.pairs _ hf
  · rw [Kn.any_next]
    have := word_ne _ _ h.pairs _ (h.lastW hg)
    exact List.append_ne_nil_of_left_ne_nil this _
theorem Kn.Ok.any_len {k : Kn} (h : k.Ok) {code : Int} (hf : k.Fol code) : (k.any code).length ≤ 1022 := by
  have hl := h.len
  rcases hf with hf | ⟨hg, rfl⟩
  · rw [Kn.any_has hf]; have := word_len _ _ h.pairs _ hf; unfold Kn.word; omega
  · rw [Kn.any_next]
    have := word_len _ _ h.pairs _ (h.lastW hg)
    simp only [List.length_append, List.length_take]; unfold Kn.word; omega
theorem Kn.Ok.any_lt {k : Kn} (h : k.Ok) {code : Int} (hf : k.Fol code) : ∀ b ∈ k.any code, (b.toNat : Int) < k.c := by
  have hc := h.cbd
  rcases hf with hf | ⟨hg, rfl⟩
  · rw [Kn.any_has hf]; exact word_lt _ _ (by omega) h.pairs _ hf
  · rw [Kn.any_next]
    have := word_lt _ _ (by omega) h.pairs _ (h.lastW hg)
    intro b hb
    rw [List.mem_append] at hb
    rcases hb with hb | hb
    · exact this b hb
    · exact this b (List.mem_of_mem_take hb)
theorem Kn.Ok.fst_bd {k : Kn} (h : k.Ok) {code : Int} (hf : k.Fol code) : 0 ≤ k.fst code ∧ k.fst code < k.c := by
  have h1 := h.any_ne hf
  have h2 := h.any_lt hf
  cases hw : k.any code with
  | nil => exact absurd hw h1
  | cons b t =>
    have := h2 b (by rw [hw]; simp)
    simp [Kn.fst, hw]; omega
theorem Kn.Ok.fst_next {k : Kn} (h : k.Ok) (hg : k.grows = true) : k.fst k.next = fstN k.c k.ps k.last := by
  rw [Kn.fst, Kn.any_next, head_app (a := k.word k.last) (word_ne _ _ h.pairs _ (h.lastW hg))]; rfl
theorem Kn.fst_has {k : Kn} {code : Int} (h : HasW k.c code k.ps.length) : k.fst code = fstN k.c k.ps code := by rw [Kn.fst, Kn.any_has h]; rfl
theorem Kn.Ok.cleared {k : Kn} (h : k.Ok) : k.cleared.Ok := by
  have h0 := h.base0
  have h1 := h.base1
  have e : (k.ps.take k.base.toNat).length = k.base.toNat := by simp; omega
  refine ⟨h.set, ?_, h.pairs.take _, h.base0, ?_, Or.inr ⟨rfl, ?_⟩⟩
  · have := h.room; simp only [Kn.cleared, e]; show ((k.base.toNat : Nat) : Int) ≤ k.lc - (k.c + 1); omega
  · simp only [Kn.cleared, e]; omega
  · simp only [Kn.cleared, e]; omega
theorem Kn.Ok.after {k : Kn} (h : k.Ok) {code : Int} (hf : k.Fol code) : (k.after code).Ok := by
  have h0 := h.base0
  have h1 := h.base1
  have hc := h.cbd
  have hb := h.fst_bd hf
  by_cases hg : k.grows = true
  · have e : (k.after code).ps = k.ps ++ [(k.last, k.fst code)] := by simp [Kn.after, hg]
    have hl := h.lastW hg
    have hn : k.next ≤ k.lc := by simp [Kn.grows] at hg; exact hg.2
    refine ⟨h.set, ?_, ?_, h.base0, ?_, Or.inl ?_⟩
    · rw [e]; show ((k.ps ++ [_]).length : Int) ≤ k.lc - (k.c + 1); simp; unfold Kn.next at hn; omega
    · rw [e]; exact h.pairs.snoc ⟨hl, hb.1, hb.2⟩
    · rw [e]; show k.base ≤ _; simp; omega
    · rw [e]; show HasW k.c code _
      rcases hf with hf | ⟨_, rfl⟩
      · exact hf.mono (by simp)
      · right; unfold Kn.next; simp; omega
  · have e : (k.after code).ps = k.ps := by simp [Kn.after, hg]
    refine ⟨h.set, by rw [e]; exact h.room, by rw [e]; exact h.pairs, h.base0, by rw [e]; exact h.base1, Or.inl ?_⟩
    rw [e]; show HasW k.c code _
    rcases hf with hf | ⟨hg2, _⟩
    · exact hf
    · exact absurd hg2 hg
theorem Kn.Ok.step {k : Kn} (h : k.Ok) {code : Int} (hf : code = k.c ∨ k.Fol code) : (k.step code).Ok := by
  unfold Kn.step
  split
  · exact h.cleared
  · rcases hf with hf | hf
    · contradiction
    · exact h.after hf
end

section
open Go.ChangeShapes Go.WideShapes Go.ChangeAt Go.RowKit Go.Joins
set_option linter.unusedVariables false

def pv (p : Pr) : List Value := [.int .i64 p.1, .int .i64 p.2]
def prs (ps : List Pr) : List Value := ps.flatMap pv
theorem prs_nil : prs [] = [] := rfl
theorem prs_cons (p : Pr) (ps : List Pr) : prs (p :: ps) = pv p ++ prs ps := by simp [prs]
theorem prs_append (ps qs : List Pr) : prs (ps ++ qs) = prs ps ++ prs qs := by simp [prs]
theorem prs_len (ps : List Pr) : (prs ps).length = ps.length * 2 := by
  induction ps with
  | nil => rfl
  | cons p t ih => rw [prs_cons, List.length_append, ih]; simp [pv]; omega
theorem prs_get (ps : List Pr) (i : Nat) (p : Pr) (h : ps[i]? = some p) : (prs ps)[i * 2]? = some (.int .i64 p.1) ∧ (prs ps)[i * 2 + 1]? = some (.int .i64 p.2) := by
  induction ps generalizing i with
  | nil => simp at h
  | cons q t ih =>
    cases i with
    | zero => simp at h; subst h; exact ⟨rfl, rfl⟩
    | succ i =>
      rw [List.getElem?_cons_succ] at h
      have := ih i h
      rw [prs_cons, show (i + 1) * 2 = i * 2 + 1 + 1 from by omega]
      simp only [pv, List.cons_append, List.nil_append, List.getElem?_cons_succ]
      exact this
theorem prs_one (ps : List Pr) : ∀ u ∈ prs ps, u.oneCell' = true := by
  intro u hu
  simp only [prs, List.mem_flatMap] at hu
  obtain ⟨p, _, hp⟩ := hu
  simp [pv] at hp
  rcases hp with rfl | rfl <;> rfl
theorem prs_take (ps : List Pr) (n : Nat) : prs (ps.take n) = (prs ps).take (n * 2) := by
  induction n generalizing ps with
  | zero => simp [prs]
  | succ n ih =>
    cases ps with
    | nil => simp [prs]
    | cons p t =>
      rw [List.take_succ_cons, prs_cons, ih, prs_cons, show (n + 1) * 2 = n * 2 + 1 + 1 from by omega]
      simp [pv]

/-- A slice of pairs, in a block below L. -/
def PsAt (w : World) (L : Nat) (A : Option Addr) (cap : Nat) (ps : List Pr) : Prop :=
  ps.length ≤ cap ∧ cap ≤ maxLen ∧ (A = none → cap = 0) ∧ (0 < ps.length → ∃ b off, A = some ⟨b, off, none⟩ ∧ b < L ∧ ∀ i p, ps[i]? = some p → w.cell? ⟨b, off + i * 2, none⟩ = some (.int .i64 p.1) ∧ w.cell? ⟨b, off + i * 2 + 1, none⟩ = some (.int .i64 p.2))
theorem PsAt.keep {w w' : World} {L cap : Nat} {A : Option Addr} {ps : List Pr} (h : PsAt w L A cap ps) (hk : ∀ k, k < L → w'.heap[k]? = w.heap[k]?) : PsAt w' L A cap ps :=
  ⟨h.1, h.2.1, h.2.2.1, fun hn => by
    obtain ⟨b, off, e, hb, hc⟩ := h.2.2.2 hn
    refine ⟨b, off, e, hb, fun i p hi => ?_⟩
    have h1 := hc i p hi
    exact ⟨(World.cell?_of_block (a := ⟨b, off + i * 2, none⟩) (hk b hb)).trans h1.1, (World.cell?_of_block (a := ⟨b, off + i * 2 + 1, none⟩) (hk b hb)).trans h1.2⟩⟩
theorem PsAt.mono {w : World} {L L' cap : Nat} {A : Option Addr} {ps : List Pr} (h : PsAt w L A cap ps) (hL : L ≤ L') : PsAt w L' A cap ps :=
  ⟨h.1, h.2.1, h.2.2.1, fun hn => by obtain ⟨b, off, e, hb, hc⟩ := h.2.2.2 hn; exact ⟨b, off, e, by omega, hc⟩⟩
theorem PsAt.below {w w' : World} {L B cap : Nat} {A : Option Addr} {ps : List Pr} (h : PsAt w L A cap ps) (hb : Below B w w') (hL : L ≤ B) : PsAt w' L A cap ps :=
  h.keep fun k hk => hb.block k (by omega)
theorem PsAt.on {w w' : World} {L cap : Nat} {A : Option Addr} {ps : List Pr} (h : PsAt w L A cap ps) (hb : Below w.heap.size w w') (hL : L ≤ w.heap.size) : PsAt w' L A cap ps := h.below hb hL
theorem PsAt.alloc {w : World} {L cap : Nat} {A : Option Addr} {ps : List Pr} (h : PsAt w L A cap ps) (hL : L ≤ w.heap.size) (o : Obj) : PsAt (w.alloc o) L A cap ps :=
  h.keep fun k hk => Below.heap_alloc w o k (by omega)
theorem PsAt.take {w : World} {L cap : Nat} {A : Option Addr} {ps : List Pr} (h : PsAt w L A cap ps) (n : Nat) : PsAt w L A cap (ps.take n) :=
  ⟨by have := h.1; simp; omega, h.2.1, h.2.2.1, fun hn => by
    have hn2 : 0 < ps.length := by simp at hn; omega
    obtain ⟨b, off, e, hb, hc⟩ := h.2.2.2 hn2
    refine ⟨b, off, e, hb, fun i p hi => hc i p ?_⟩
    rw [List.getElem?_take] at hi
    split at hi
    · exact hi
    · cases hi⟩
theorem PsAt.nil (w : World) (L : Nat) : PsAt w L none 0 [] := ⟨Nat.zero_le _, by simp [maxLen], fun _ => rfl, fun hn => absurd hn (by simp)⟩

/-- What owns pairs holds them. -/
theorem own_ps {w : World} {B : Nat} {e : TypeId} {v : Value} {n : Nat} {ps : List Pr} (h : w.ownsRow B e 2 v n (prs ps)) : ∃ A cap, v = .slice A ps.length cap ∧ PsAt w w.heap.size A cap ps ∧ n = ps.length ∧ (A = none ∨ ∃ g, A = some ⟨g, 0, none⟩ ∧ B ≤ g ∧ g < w.heap.size) := by
  have hl := h.1
  rw [prs_len] at hl
  have hn : n = ps.length := by omega
  subst hn
  have hlt := h.lt
  rcases h.2 with ⟨rfl, h0⟩ | ⟨g, cap, cur, rfl, hb, hh, hnc, hcm, hsz, htk⟩
  · have : ps = [] := List.length_eq_zero_iff.1 h0
    subst this
    exact ⟨none, 0, rfl, PsAt.nil _ _, rfl, .inl rfl⟩
  · have hg := hlt g rfl
    refine ⟨some ⟨g, 0, none⟩, cap, rfl, ⟨hnc, hcm, by simp, fun hn => ⟨g, 0, rfl, hg.2, fun i p hi => ?_⟩⟩, rfl, .inr ⟨g, rfl, hb, hg.2⟩⟩
    have hi2 := get_lt hi
    have hp := prs_get ps i p hi
    have c0 := h.cellAt (i * 2) (by omega)
    have c1 := h.cellAt (i * 2 + 1) (by omega)
    rw [Nat.zero_add]
    exact ⟨c0.trans hp.1, c1.trans hp.2⟩
theorem own_ps_nil (w : World) (B : Nat) (e : TypeId) : w.ownsRow B e 2 (.slice none 0 0) 0 (prs []) := World.ownsRow_nil w B e 2
/-- the same memory, cut to its first pairs -/
theorem own_ps_cut {w : World} {B : Nat} {e : TypeId} {A : Option Addr} {n cap : Nat} {ps : List Pr} (h : w.ownsRow B e 2 (.slice A n cap) n (prs ps)) (m : Nat) (hm : m ≤ n) : w.ownsRow B e 2 (.slice A m cap) m (prs (ps.take m)) := by
  have hl := h.1
  rw [prs_len] at hl
  refine ⟨by rw [prs_len, List.length_take]; omega, ?_⟩
  rcases h.2 with ⟨e1, h0⟩ | ⟨g, cap', cur, e1, hb, hh, hnc, hcm, hsz, htk⟩
  · left
    simp at e1
    obtain ⟨rfl, _, rfl⟩ := e1
    have : m = 0 := by omega
    subst this
    exact ⟨rfl, rfl⟩
  · right
    simp at e1
    obtain ⟨rfl, rfl⟩ := e1
    refine ⟨g, cap, cur, rfl, hb, hh, by omega, hcm, hsz, ?_⟩
    rw [prs_take, ← htk, List.take_take]
    congr 1; omega
theorem own_mono {w : World} {B B' : Nat} {e : TypeId} {size : Nat} {v : Value} {n : Nat} {xs : List Value} (h : w.ownsRow B e size v n xs) (hB : B' ≤ B) : w.ownsRow B' e size v n xs := by
  refine ⟨h.1, ?_⟩
  rcases h.2 with h1 | ⟨g, cap', cur, e1, hb, h2⟩
  · exact .inl h1
  · exact .inr ⟨g, cap', cur, e1, by omega, h2⟩
/-! ### A box of six cells -/
theorem Blk.far {w : World} {g R : Nat} {t : TypeId} {cs : Array Value} (h : Blk w g t cs) (i : Nat) (a : Value) (hn : g ≠ R) : Blk (w.setCell ⟨R, i, none⟩ a) g t cs := (Below.heap_setCell w ⟨R, i, none⟩ a g hn).trans h
theorem Blk.cells6 {w : World} {g : Nat} {t : TypeId} {a b c d e f : Value} (h : Blk w g t #[a, b, c, d, e, f]) : w.cell? ⟨g, 0, none⟩ = some a ∧ w.cell? ⟨g, 1, none⟩ = some b ∧ w.cell? ⟨g, 2, none⟩ = some c ∧ w.cell? ⟨g, 3, none⟩ = some d ∧ w.cell? ⟨g, 4, none⟩ = some e ∧ w.cell? ⟨g, 5, none⟩ = some f := ⟨h.cell 0, h.cell 1, h.cell 2, h.cell 3, h.cell 4, h.cell 5⟩
theorem Blk.free6 {w : World} {g : Nat} {t : TypeId} {cs : Array Value} (h : Blk w g t cs) : w.frozen? ⟨g, 0, none⟩ = false ∧ w.frozen? ⟨g, 1, none⟩ = false ∧ w.frozen? ⟨g, 2, none⟩ = false ∧ w.frozen? ⟨g, 3, none⟩ = false ∧ w.frozen? ⟨g, 4, none⟩ = false ∧ w.frozen? ⟨g, 5, none⟩ = false := ⟨h.frozen 0, h.frozen 1, h.frozen 2, h.frozen 3, h.frozen 4, h.frozen 5⟩
theorem Blk.put6 {w : World} {g : Nat} {t : TypeId} {a b c d e f : Value} (h : Blk w g t #[a, b, c, d, e, f]) (a' b' c' d' e' f' : Value) : Blk ((((((w.setCell ⟨g, 0, none⟩ a').setCell ⟨g, 1, none⟩ b').setCell ⟨g, 2, none⟩ c').setCell ⟨g, 3, none⟩ d').setCell ⟨g, 4, none⟩ e').setCell ⟨g, 5, none⟩ f') g t #[a', b', c', d', e', f'] :=
  (((((h.set_ 0 a').set_ 1 b').set_ 2 c').set_ 3 d').set_ 4 e').set_ 5 f'
theorem Blk.mid (w : World) (o o' : Obj) (t : TypeId) (cs : Array Value) : Blk (((w.alloc o).alloc (.cells cs t)).alloc o') (w.heap.size + 1) t cs := by
  have h := (Blk.new (w.alloc o) t cs).alloc o'
  rw [World.size_alloc] at h; exact h
theorem Blk.top (w : World) (o : Obj) (t : TypeId) (cs : Array Value) : Blk ((w.alloc o).alloc (.cells cs t)) (w.heap.size + 1) t cs := by
  have h := Blk.new (w.alloc o) t cs
  rw [World.size_alloc] at h; exact h
theorem Blk.third (w : World) (o o' : Obj) (t : TypeId) (cs : Array Value) : Blk (((w.alloc o).alloc o').alloc (.cells cs t)) (w.heap.size + 1 + 1) t cs := by
  have h := Blk.new ((w.alloc o).alloc o') t cs
  rw [World.size_alloc, World.size_alloc] at h; exact h
theorem Blk.at_ {w : World} {g g' : Nat} {t : TypeId} {cs : Array Value} (h : Blk w g t cs) (e : g' = g) : Blk w g' t cs := e ▸ h
theorem cell_on {v v' : World} {B : Nat} {a : Addr} {x : Value} (h : v.cell? a = some x) (hb : Below B v v') (ha : a.block < B) : v'.cell? a = some x := (hb.cell ha).trans h
end

section
open Go.ChangeShapes Go.WideShapes Go.ChangeAt Go.RowKit Go.Joins
set_option linter.unusedVariables false

theorem pair_new (w : World) (x y : Value) (t : TypeId) (p : Pr) (hx : x = .int .i64 p.1) (hy : y = .int .i64 p.2) : ∀ j u, (pv p)[j]? = some u → (w.alloc (.cells #[x, y] t)).cell? ((⟨w.heap.size, 0, none⟩ : Addr).add j) = some u := by
  subst hx hy
  exact two_new w _ _ t

/-- 'out = append(out, p)' of one pair, out the call's own: ONE goal is left. -/
theorem app_pair {P : Program} {w : World} {ops : Array Oper} {rest : List Oper} {o : Oper} {a : Act} {Q : Exit → Act → World → Prop} (hgd : o.guard = none) (s x : Operand) (t : TypeId)
    (ho : o.op = .call { callee := .builtin .append, args := #[s, x], argTypes := #[t, t] }) (B : Nat) (e : TypeId) (ht : P.underlying t = some (.slice e))
    (hinfo : (P.info? e).map (fun i => (i.zero, i.size, i.bytes)) = some (some (.agg #[.int .i64 0, .int .i64 0]), 2, 16)) (v : Value) (n : Nat) (l : List Pr) (hs : a.eval s = v) (hown : w.ownsRow B e 2 v n (prs l)) (p : Pr) (X Y : Value) (hX : X = .int .i64 p.1) (hY : Y = .int .i64 p.2) (cp : Nat)
    (hx : a.eval x = .slice (some ⟨w.heap.size, 0, none⟩) 1 cp) (hn : n ≤ 1000000000000) (hB : B ≤ w.heap.size)
    (h : ∀ v' w', w'.ownsRow B e 2 v' (n + 1) (prs (l ++ [p])) → Below B w w' → w.grownBy w' v.ownBlock → wpList P ops Q rest (a.put o.dst v') w') : wpList P ops Q (o :: rest) a (w.alloc (.cells #[X, Y] e)) := by
  obtain ⟨i0, hi, hz0, hz1, hz2⟩ := info_parts hinfo
  refine wpList_append_own _ hgd s x t ho B e i0 (.agg #[.int .i64 0, .int .i64 0]) 2 16 ht hi hz0 hz1 hz2 rfl (by decide) v n (prs l) hs (hown.alloc _) ⟨w.heap.size, 0, none⟩ 1 cp (pv p) hx rfl (pair_new w _ _ e p hX hY) ?_ ?_ (by omega) ?_ ?_
  · intro u hu; simp [pv] at hu; rcases hu with rfl | rfl <;> rfl
  · unfold maxLen; omega
  · have := World.size_alloc w (.cells #[X, Y] e); omega
  · intro v' w' hown' hg _
    have hg2 : w.grownBy w' v.ownBlock := grown_trans (World.grownBy_alloc w _ _) hg
    refine h v' w' ?_ (below_of_grown hg2 hB (fun g hg => (hown.lt g hg).1)) hg2
    rw [prs_append]; exact hown'

/-- 'out = append(out, s...)', out the call's own, s any slice of pairs: ONE goal is left. -/
theorem app_pairs {P : Program} {w : World} {ops : Array Oper} {rest : List Oper} {o : Oper} {a : Act} {Q : Exit → Act → World → Prop} (hgd : o.guard = none) (s x : Operand) (t : TypeId)
    (ho : o.op = .call { callee := .builtin .append, args := #[s, x], argTypes := #[t, t] }) (B : Nat) (e : TypeId) (ht : P.underlying t = some (.slice e))
    (hinfo : (P.info? e).map (fun i => (i.zero, i.size, i.bytes)) = some (some (.agg #[.int .i64 0, .int .i64 0]), 2, 16)) (v : Value) (n : Nat) (l : List Pr) (hs : a.eval s = v) (hown : w.ownsRow B e 2 v n (prs l)) (A : Option Addr) (cap L m : Nat) (ps : List Pr) (hA : PsAt w L A cap ps) (hm : m = ps.length)
    (hx : a.eval x = .slice A m cap) (hn : n + ps.length ≤ 1000000000000) (hB : B ≤ w.heap.size)
    (h : ∀ v' w', w'.ownsRow B e 2 v' (n + ps.length) (prs (l ++ ps)) → Below B w w' → w.grownBy w' v.ownBlock → wpList P ops Q rest (a.put o.dst v') w') : wpList P ops Q (o :: rest) a w := by
  subst hm
  obtain ⟨i0, hi, hz0, hz1, hz2⟩ := info_parts hinfo
  cases A with
  | none =>
    have hc := hA.2.2.1 rfl
    subst hc
    have h0 : ps = [] := List.length_eq_zero_iff.1 (by have := hA.1; omega)
    subst h0
    refine wpList_append_own_none hgd s x t ho B e i0 2 ht hi v n (prs l) hs hown hx ?_
    exact h v w (by simpa using hown) (Below.refl _ _) (grown_refl _ _)
  | some ad =>
    refine wpList_append_own _ hgd s x t ho B e i0 (.agg #[.int .i64 0, .int .i64 0]) 2 16 ht hi hz0 hz1 hz2 rfl (by decide) v n (prs l) hs hown ad ps.length cap (prs ps) hx (prs_len _) ?_ (prs_one _) ?_ (by omega) hB ?_
    · intro j u hj
      have hjl := get_lt hj
      rw [prs_len] at hjl
      obtain ⟨b, off, e1, _, hc⟩ := hA.2.2.2 (by omega)
      simp at e1
      subst e1
      have hg : ps[j / 2]? = some ps[j / 2] := List.getElem?_eq_getElem (by omega)
      have h1 := hc _ _ hg
      have h2 := prs_get ps _ _ hg
      have e2 : ((⟨b, off, none⟩ : Addr).add j) = ⟨b, off + j, none⟩ := by unfold Addr.add; split <;> simp_all
      rw [e2]
      rcases (show j = j / 2 * 2 ∨ j = j / 2 * 2 + 1 from by omega) with h3 | h3
      · rw [h3] at hj ⊢
        rw [h2.1] at hj
        rw [h1.1, hj]
      · rw [h3] at hj ⊢
        rw [h2.2] at hj
        rw [← Nat.add_assoc, h1.2, hj]
    · unfold maxLen; omega
    · intro v' w' hown' hg _
      refine h v' w' ?_ (below_of_grown hg hB (fun g hg => (hown.lt g hg).1)) hg
      rw [prs_append]; exact hown'

theorem made_pairs (n : Nat) : (madeCells (Value.agg #[.int .i64 0, .int .i64 0]).cells (n * 2)).toList = prs (List.replicate n (0, 0)) := by
  have hl : (prs (List.replicate n ((0 : Int), (0 : Int)))).length = n * 2 := by rw [prs_len]; simp
  apply List.ext_getElem?
  intro j
  by_cases hj : j < n * 2
  · have h2 := prs_get (List.replicate n ((0 : Int), (0 : Int))) (j / 2) (0, 0) (by rw [List.getElem?_replicate, if_pos (by omega)])
    have h1 : (madeCells (Value.agg #[.int .i64 0, .int .i64 0]).cells (n * 2)).toList[j]? = some (.int .i64 0) := by
      simp only [madeCells, Value.cells, Array.getElem?_toList, Array.getElem?_map, Array.getElem?_range, hj, if_true, Option.map_some]
      rcases (show j % 2 = 0 ∨ j % 2 = 1 from by omega) with h | h <;> simp [h]
    rw [h1]
    rcases (show j = j / 2 * 2 ∨ j = j / 2 * 2 + 1 from by omega) with h3 | h3
    · rw [h3, h2.1]
    · rw [h3, h2.2]
  · rw [List.getElem?_eq_none (by simp [size_madeCells]; omega), List.getElem?_eq_none (by omega)]

/-- 'make([]Pair, n)': ONE goal is left. -/
theorem make_pairs {P : Program} {w : World} {ops : Array Oper} {rest : List Oper} {o : Oper} {a : Act} {Q : Exit → Act → World → Prop} (hg : o.guard = none) (l c : Operand) (t : TypeId) (hop : o.op = Op.makeSlice t l c)
    (B : Nat) (e : TypeId) (ht : P.underlying t = some (.slice e)) (hinfo : (P.info? e).map (fun i => (i.zero, i.size, i.bytes)) = some (some (.agg #[.int .i64 0, .int .i64 0]), 2, 16)) (kl kc : IntKind) (L C : Int) (n : Nat)
    (hl : a.eval l = .int kl L) (hc : a.eval c = .int kc C) (hL : L = (n : Int)) (hC : C = (n : Int)) (hn : n ≤ 1000000000000) (hB : B ≤ w.heap.size)
    (hK : ∀ w', w'.ownsRow B e 2 (.slice (some ⟨w.heap.size, 0, none⟩) n n) n (prs (List.replicate n (0, 0))) → Below B w w' → w.grownBy w' none → wpList P ops Q rest (a.put o.dst (.slice (some ⟨w.heap.size, 0, none⟩) n n)) w') : wpList P ops Q (o :: rest) a w := by
  obtain ⟨i0, hi, hz0, hz1, hz2⟩ := info_parts hinfo
  refine wpList_make_full w hg l c t hop B e i0 (.agg #[.int .i64 0, .int .i64 0]) 2 ht hi hz0 hz1 kl kc L C n hl hc hL hC (by rw [hz2]; omega) (by unfold maxLen; omega) hB ?_
  intro w' hown hg'
  rw [made_pairs] at hown
  exact hK w' hown (below_of_grown hg' hB (by simp)) hg'

theorem prs_set (l : List Pr) (k : Nat) (p : Pr) : ((prs l).set (k * 2) (.int .i64 p.1)).set (k * 2 + 1) (.int .i64 p.2) = prs (l.set k p) := by
  induction l generalizing k with
  | nil => simp [prs]
  | cons q t ih =>
    cases k with
    | zero => rw [List.set_cons_zero, prs_cons, prs_cons]; rfl
    | succ k =>
      rw [List.set_cons_succ, prs_cons, prs_cons, ← ih k, show (k + 1) * 2 = k * 2 + 1 + 1 from by omega]
      rfl
theorem prs_set1 (l : List Pr) (k : Nat) (p : Pr) (h : l[k]? = some p) (x : Int) : (prs l).set (k * 2) (.int .i64 x) = prs (l.set k (x, p.2)) := by
  induction l generalizing k with
  | nil => simp at h
  | cons q t ih =>
    cases k with
    | zero => simp at h; subst h; rw [List.set_cons_zero, prs_cons, prs_cons]; rfl
    | succ k =>
      rw [List.getElem?_cons_succ] at h
      rw [List.set_cons_succ, prs_cons, prs_cons, ← ih k h, show (k + 1) * 2 = k * 2 + 1 + 1 from by omega]
      rfl
theorem prs_set2 (l : List Pr) (k : Nat) (p : Pr) (h : l[k]? = some p) (y : Int) : (prs l).set (k * 2 + 1) (.int .i64 y) = prs (l.set k (p.1, y)) := by
  induction l generalizing k with
  | nil => simp at h
  | cons q t ih =>
    cases k with
    | zero => simp at h; subst h; rw [List.set_cons_zero, prs_cons, prs_cons]; rfl
    | succ k =>
      rw [List.getElem?_cons_succ] at h
      rw [List.set_cons_succ, prs_cons, prs_cons, ← ih k h, show (k + 1) * 2 + 1 = k * 2 + 1 + 1 + 1 from by omega]
      rfl
/-- 'out[k] = p' -/
theorem own_store_pair {w : World} {B : Nat} {e : TypeId} {G n cap : Nat} {l : List Pr} (h : w.ownsRow B e 2 (.slice (some ⟨G, 0, none⟩) n cap) n (prs l)) (k : Nat) (p : Pr) :
    ((w.setCell ⟨G, k * 2, none⟩ (.int .i64 p.1)).setCell ⟨G, k * 2 + 1, none⟩ (.int .i64 p.2)).ownsRow B e 2 (.slice (some ⟨G, 0, none⟩) n cap) n (prs (l.set k p)) := by
  have h1 := (h.stored (k * 2) (.int .i64 p.1)).1
  have h2 := (h1.stored (k * 2 + 1) (.int .i64 p.2)).1
  rw [prs_set] at h2; exact h2
theorem own_lt {w : World} {B : Nat} {e : TypeId} {size : Nat} {G n cap : Nat} {xs : List Value} (h : w.ownsRow B e size (.slice (some ⟨G, 0, none⟩) n cap) n xs) : B ≤ G ∧ G < w.heap.size := h.lt G rfl
theorem own_on {w w' : World} {B : Nat} {e : TypeId} {size : Nat} {v : Value} {n : Nat} {xs : List Value} (h : w.ownsRow B e size v n xs) (hb : Below w.heap.size w w') : w'.ownsRow B e size v n xs :=
  h.kept (grown_below none hb) (by cases hv : v.ownBlock <;> simp)
/-- the first k done -/
theorem set_done {α : Type} (l done : List α) (d : α) (n k : Nat) (x : α) (hl : l = done ++ List.replicate (n - k) d) (hd : done.length = k) (hk : k < n) : l.set k x = (done ++ [x]) ++ List.replicate (n - (k + 1)) d := by
  subst hl
  rw [show n - k = (n - (k + 1)) + 1 from by omega, List.replicate_succ, List.set_append]
  simp [hd]
end

section
/-! ### Codes that follow each other -/
namespace Kn
/-- codes can follow each other (n: the bytes of data so far) -/
def good : Kn → Nat → List Int → Bool
  | _, _, [] => true
  | k, n, code :: t => if code = k.c + 1 then t.isEmpty else if code = k.c then good k.cleared n t else decide (k.Fol code) && (decide (n + (k.any code).length ≤ 2000) && good (k.after code) (n + (k.any code).length) t)
def widths : Kn → List Int → List Int
  | _, [] => []
  | k, code :: t => k.width :: widths (k.step code) t
/-- the word that a code stands for, if any -/
def part (k : Kn) (code : Int) : List UInt8 := if code = k.c ∨ code = k.c + 1 then [] else k.any code
def dat : Kn → List Int → List UInt8
  | _, [] => []
  | k, code :: t => k.part code ++ dat (k.step code) t
def run : Kn → List Int → Kn
  | k, [] => k
  | k, code :: t => run (k.step code) t
theorem good_end (k : Kn) (n : Nat) (t : List Int) : good k n ((k.c + 1) :: t) = t.isEmpty := by simp [good]
theorem good_clear (k : Kn) (n : Nat) (t : List Int) : good k n (k.c :: t) = good (k.step k.c) n t := by
  simp only [good, step, if_true]
  rw [if_neg (by omega)]
theorem good_code (k : Kn) (n : Nat) (code : Int) (t : List Int) (h1 : code ≠ k.c) (h2 : code ≠ k.c + 1) : good k n (code :: t) = (decide (k.Fol code) && (decide (n + (k.any code).length ≤ 2000) && good (k.step code) (n + (k.any code).length) t)) := by
  simp [good, h1, h2, step]
theorem part_code (k : Kn) (code : Int) (h1 : code ≠ k.c) (h2 : code ≠ k.c + 1) : k.part code = k.any code := by simp [part, h1, h2]
theorem part_none (k : Kn) (code : Int) (h : code = k.c ∨ code = k.c + 1) : k.part code = [] := by simp [part, h]
theorem widths_length (k : Kn) (cs : List Int) : (k.widths cs).length = cs.length := by
  induction cs generalizing k with
  | nil => rfl
  | cons a t ih => simp [widths, ih]
theorem step_o (k : Kn) (code : Int) : (k.step code).o = k.o := by unfold step; split <;> rfl
theorem step_l (k : Kn) (code : Int) : (k.step code).l = k.l := by unfold step; split <;> rfl
theorem step_m (k : Kn) (code : Int) : (k.step code).m = k.m := by unfold step; split <;> rfl
theorem step_base (k : Kn) (code : Int) : (k.step code).base = k.base := by unfold step; split <;> rfl
theorem step_c (k : Kn) (code : Int) : (k.step code).c = k.c := by unfold c; rw [step_l]
theorem step_lc (k : Kn) (code : Int) : (k.step code).lc = k.lc := by unfold lc; rw [step_m]
end Kn

theorem nd_up {x k : Nat} (hk : 1 ≤ k) (hx : x < 2 ^ k) (h64 : k ≤ 63) : nd x ≤ k := by
  induction k generalizing x with
  | zero => omega
  | succ k ih =>
    by_cases h : 2 ≤ x
    · have hp : (2 : Nat) ^ (k + 1) ≤ 2 ^ 63 := Nat.pow_le_pow_right (by omega) (by omega)
      rw [nd_half h (by omega)]
      rw [Nat.pow_succ] at hx
      have hk1 : 1 ≤ k := by
        rcases Nat.eq_zero_or_pos k with e | e
        · subst e; simp at hx; omega
        · exact e
      have := ih (x := x / 2) hk1 (by omega) (by omega)
      omega
    · rw [nd_small (by omega)]; omega
theorem nd_down {x : Nat} (hx : x < 2 ^ 63) : x < 2 ^ nd x := by
  have : ∀ k x : Nat, x < 2 ^ k → k ≤ 63 → x < 2 ^ nd x := by
    intro k
    induction k with
    | zero => intro x h _; simp at h; subst h; exact Nat.pow_pos (by omega)
    | succ k ih =>
      intro x h hk
      by_cases h2 : 2 ≤ x
      · have hp : (2 : Nat) ^ (k + 1) ≤ 2 ^ 63 := Nat.pow_le_pow_right (by omega) (by omega)
        rw [nd_half h2 (by omega), Nat.pow_succ]
        rw [Nat.pow_succ] at h
        have := ih (x / 2) (by omega) (by omega)
        omega
      · rw [nd_small (by omega)]; omega
  exact this 63 x hx (by omega)
theorem pow2_nat {n : Int} : pow2 n = ((2 ^ n.toNat : Nat) : Int) := by simp [pow2]
theorem Kn.Ok.width_bd {k : Kn} (h : k.Ok) : k.l + 1 ≤ k.width ∧ 2 ≤ k.width ∧ k.width ≤ k.m ∧ k.width ≤ 10 := by
  obtain ⟨_, ⟨h1, h2⟩, h3, h4⟩ := setOk_iff.1 h.set
  have hb := h.great_bd
  have hc := h.cbd
  have e : k.lc + 1 = ((2 ^ k.m.toNat : Nat) : Int) := by unfold Kn.lc; rw [pow2_nat]; omega
  have := nd_up (x := k.great.toNat) (k := k.m.toNat) (by omega) (by omega) (by omega)
  unfold Kn.width; omega
theorem Kn.Ok.code_fits {k : Kn} (h : k.Ok) {code : Int} (h0 : 0 ≤ code) (h1 : code ≤ k.great) : code < pow2 k.width := by
  have hb := h.great_bd
  have hc := h.cbd
  have hw := h.width_bd
  have := nd_down (x := k.great.toNat) (by omega)
  have h2 : (2 : Nat) ^ nd k.great.toNat ≤ 2 ^ k.width.toNat := Nat.pow_le_pow_right (by omega) (by unfold Kn.width; omega)
  rw [pow2_nat]; omega

/-- the bits of codes -/
def Kn.bits (k : Kn) : List Int → List UInt8
  | [] => []
  | code :: t => M.codeBits (k.o == 1) code.toNat k.width.toNat ++ Kn.bits (k.step code) t
theorem Kn.Ok.good_step {k : Kn} (h : k.Ok) {n : Nat} {code : Int} {t : List Int} (hg : k.good n (code :: t) = true) (hne : code ≠ k.c + 1) : (k.step code).Ok ∧ 0 ≤ code ∧ code ≤ k.great ∧ (k.step code).good (n + (k.part code).length) t = true := by
  have hb := h.great_bd
  have hc := h.cbd
  by_cases h1 : code = k.c
  · subst h1
    rw [Kn.good_clear] at hg
    exact ⟨h.step (.inl rfl), by omega, by omega, by rw [Kn.part_none _ _ (.inl rfl)]; simpa using hg⟩
  · rw [Kn.good_code _ _ _ _ h1 hne] at hg
    simp only [Bool.and_eq_true, decide_eq_true_eq] at hg
    have := (h.fol_iff code).1 hg.1
    exact ⟨h.step (.inr hg.1), this.1, this.2.1, by rw [Kn.part_code _ _ h1 hne]; exact hg.2.2⟩
theorem Kn.Ok.good_code0 {k : Kn} (h : k.Ok) {n : Nat} {code : Int} {t : List Int} (hg : k.good n (code :: t) = true) : 0 ≤ code ∧ code ≤ k.great := by
  by_cases h1 : code = k.c + 1
  · have hb := h.great_bd; have hc := h.cbd; omega
  · have := h.good_step hg h1; exact ⟨this.2.1, this.2.2.1⟩
theorem Kn.Ok.bits_len {k : Kn} (h : k.Ok) {n : Nat} {cs : List Int} (hg : k.good n cs = true) : (k.bits cs).length ≤ 10 * cs.length := by
  induction cs generalizing k n with
  | nil => simp [Kn.bits]
  | cons code t ih =>
    have hw := h.width_bd
    have hl : (M.codeBits (k.o == 1) code.toNat k.width.toNat).length = k.width.toNat := by simp [M.codeBits, M.asc, M.dir_length, M.bitsOf_length]
    simp only [Kn.bits, List.length_append, hl, List.length_cons]
    by_cases h1 : code = k.c + 1
    · subst h1
      rw [Kn.good_end] at hg
      have : t = [] := by simpa using hg
      subst this; simp [Kn.bits]; omega
    · have hs := h.good_step hg h1
      have := ih hs.1 hs.2.2.2
      omega
theorem Kn.Ok.dat_len {k : Kn} (h : k.Ok) {n : Nat} {cs : List Int} (hn : n ≤ 2000) (hg : k.good n cs = true) : n + (k.dat cs).length ≤ 2000 := by
  induction cs generalizing k n with
  | nil => simpa [Kn.dat] using hn
  | cons code t ih =>
    simp only [Kn.dat, List.length_append]
    by_cases h1 : code = k.c + 1
    · subst h1
      rw [Kn.good_end] at hg
      have : t = [] := by simpa using hg
      subst this; simp [Kn.dat, Kn.part]; omega
    · have hs := h.good_step hg h1
      have hp : n + (k.part code).length ≤ 2000 := by
        by_cases h2 : code = k.c
        · rw [Kn.part_none _ _ (.inl h2)]; simpa using hn
        · rw [Kn.part_code _ _ h2 h1]
          rw [Kn.good_code _ _ _ _ h2 h1] at hg
          simp only [Bool.and_eq_true, decide_eq_true_eq] at hg
          exact hg.2.1
      have := ih hs.1 hp hs.2.2.2
      omega
end

section
/-! ### Codes read from bits -/
/-- the code of the next bits -/
def Kn.codeAt (k : Kn) (B : List Bool) (at' : Nat) : Int := ((M.num (M.dir (k.o == 1) ((B.drop at').take k.width.toNat)) : Nat) : Int)
/-- (codes, end, bits used): n codes and sz bytes of data so far -/
def Kn.rd (B : List Bool) : Nat → Kn → Nat → Nat → Nat → List Int × Int × Nat
  | 0, _, _, _, _ => ([], 1, B.length)
  | f + 1, k, at', n, sz =>
    if at' + k.width.toNat ≤ B.length then
      if k.codeAt B at' = k.c + 1 then ([k.codeAt B at'], 0, at' + k.width.toNat)
      else if k.codeAt B at' = k.c ∨ k.Fol (k.codeAt B at') then
        if 2000 < sz + (k.part (k.codeAt B at')).length then ([], 3, at' + k.width.toNat)
        else if n + 1 = 3100 then ([k.codeAt B at'], 3, at' + k.width.toNat)
        else (k.codeAt B at' :: (Kn.rd B f (k.step (k.codeAt B at')) (at' + k.width.toNat) (n + 1) (sz + (k.part (k.codeAt B at')).length)).1, (Kn.rd B f (k.step (k.codeAt B at')) (at' + k.width.toNat) (n + 1) (sz + (k.part (k.codeAt B at')).length)).2)
      else ([], 2, at' + k.width.toNat)
    else ([], 1, B.length)
theorem Kn.Ok.rd_good (B : List Bool) (f : Nat) {k : Kn} (h : k.Ok) (at' n sz : Nat) (hn : n < 3100) (hs : sz ≤ 2000) : k.good sz (Kn.rd B f k at' n sz).1 = true ∧ n + (Kn.rd B f k at' n sz).1.length ≤ 3100 := by
  induction f generalizing k at' n sz with
  | zero => simp [Kn.rd, Kn.good]; omega
  | succ f ih =>
    have hc := h.cbd
    rw [Kn.rd]
    generalize k.codeAt B at' = code
    split
    · split
      · rename_i h1; subst h1; simp [Kn.good]; omega
      · rename_i h1
        split
        · rename_i h2
          split
          · simp [Kn.good]; omega
          · rename_i h3
            have hone : ∀ t, (k.step code).good (sz + (k.part code).length) t = true → k.good sz (code :: t) = true := by
              intro t ht
              by_cases h5 : code = k.c
              · subst h5; rw [Kn.good_clear]; rw [Kn.part_none _ _ (.inl rfl)] at ht; simpa using ht
              · rw [Kn.part_code _ _ h5 h1] at ht h3
                rw [Kn.good_code _ _ _ _ h5 h1, ht]
                have : k.Fol code := by rcases h2 with h2 | h2; exact absurd h2 h5; exact h2
                simp [this]; omega
            split
            · exact ⟨hone [] (by simp [Kn.good]), by simp; omega⟩
            · have := ih (h.step h2) (at' + k.width.toNat) (n + 1) (sz + (k.part code).length) (by omega) (by omega)
              exact ⟨hone _ this.1, by simp only [List.length_cons]; omega⟩
        · simp [Kn.good]; omega
    · simp [Kn.good]; omega
theorem Kn.Ok.rd_used (B : List Bool) (f : Nat) {k : Kn} (h : k.Ok) (at' n sz : Nat) (ha : at' ≤ B.length) : (Kn.rd B f k at' n sz).2.2 ≤ B.length := by
  induction f generalizing k at' n sz with
  | zero => simp [Kn.rd]
  | succ f ih =>
    rw [Kn.rd]
    generalize k.codeAt B at' = code
    split
    · split
      · assumption
      · split
        · rename_i h2
          split
          · assumption
          · split
            · assumption
            · exact ih (h.step h2) _ _ _ (by assumption)
        · assumption
    · simp
end

section
structure Tr where
  k : Kn
  n : Nat
  sz : Nat
  cs : List Int
  ws : List Int
  ds : List UInt8
namespace Tr
variable (T : Tr)

/-- behind a code that is not the end code -/
def next (code : Int) : Tr := { k := T.k.step code, n := T.n + 1, sz := T.sz + (T.k.part code).length, cs := T.cs ++ [code], ws := T.ws ++ [T.k.width], ds := T.ds ++ T.k.part code }
/-- behind the end code -/
def last (code : Int) : Tr := { T with n := T.n + 1, cs := T.cs ++ [code], ws := T.ws ++ [T.k.width] }
/-- how a code ends -/
def fin (code : Int) : Int := if code = T.k.c + 1 then 0 else if code = T.k.c ∨ T.k.Fol code then (if 2000 < T.sz + (T.k.part code).length then 3 else 1) else 2
def goto_ (code : Int) : Tr := if T.fin code = 0 then T.last code else if T.fin code = 1 then T.next code else T
def start (k : Kn) : Tr := ⟨k, 0, 0, [], [], []⟩
structure Ok : Prop where
  kn : T.k.Ok
  size : T.sz ≤ 2000
  lens : T.ws.length = T.cs.length
  short : T.cs.length ≤ 3100
  count : T.n ≤ 1000000
  data : T.ds.length ≤ 2000
end Tr

theorem Kn.not_fol_end (k : Kn) (h : k.Ok) : ¬ k.Fol (k.c + 1) := by rw [h.fol_iff]; omega
theorem Kn.not_fol_clear (k : Kn) (h : k.Ok) : ¬ k.Fol k.c := by rw [h.fol_iff]; omega
theorem Tr.fin_end {T : Tr} : T.fin (T.k.c + 1) = 0 := by simp [Tr.fin]
theorem Tr.fin_wrong {T : Tr} (h : T.k.Ok) {code : Int} (hc : ¬ (0 ≤ code ∧ code ≤ T.k.great)) : T.fin code = 2 := by
  have hb := h.great_bd
  have hcb := h.cbd
  have hf : ¬ T.k.Fol code := by rw [h.fol_iff]; omega
  unfold Tr.fin
  rw [if_neg (by omega), if_neg (by rintro (h1 | h1); omega; exact hf h1)]
theorem Tr.fin_clear {T : Tr} (h : T.Ok) : T.fin T.k.c = 1 := by
  have := h.size
  unfold Tr.fin
  rw [if_neg (by omega), if_pos (.inl rfl), if_neg (by rw [Kn.part_none _ _ (.inl rfl)]; simpa using this)]
theorem Tr.fin_code {T : Tr} (h : T.k.Ok) {code : Int} (hf : T.k.Fol code) : T.fin code = if 2000 < T.sz + (T.k.any code).length then 3 else 1 := by
  have h1 := (h.fol_iff code).1 hf
  unfold Tr.fin
  rw [if_neg h1.2.2.2, if_pos (.inr hf), Kn.part_code _ _ h1.2.2.1 h1.2.2.2]
theorem Tr.fin_range (T : Tr) (code : Int) : T.fin code = 0 ∨ T.fin code = 1 ∨ T.fin code = 2 ∨ T.fin code = 3 := by
  unfold Tr.fin
  split
  · simp
  · split
    · split <;> simp
    · simp
theorem Tr.fin_one {T : Tr} {code : Int} (h : T.fin code = 1) : code ≠ T.k.c + 1 ∧ (code = T.k.c ∨ T.k.Fol code) ∧ T.sz + (T.k.part code).length ≤ 2000 := by
  unfold Tr.fin at h
  split at h
  · omega
  · split at h
    · split at h
      · omega
      · exact ⟨by assumption, by assumption, by omega⟩
    · omega
theorem Tr.fin_zero {T : Tr} {code : Int} (h : T.fin code = 0) : code = T.k.c + 1 := by
  unfold Tr.fin at h
  split at h
  · assumption
  · split at h
    · split at h <;> omega
    · omega
theorem Tr.to_one {T : Tr} {code : Int} (h : T.fin code = 1) : T.goto_ code = T.next code := by unfold Tr.goto_; rw [h]; simp
theorem Tr.to_zero {T : Tr} {code : Int} (h : T.fin code = 0) : T.goto_ code = T.last code := by unfold Tr.goto_; rw [h]; simp
theorem Tr.to_no {T : Tr} {code : Int} (h : T.fin code = 2 ∨ T.fin code = 3) : T.goto_ code = T := by unfold Tr.goto_; rcases h with h | h <;> rw [h] <;> simp
theorem Tr.Ok.next {T : Tr} (h : T.Ok) {code : Int} (hf : T.fin code = 1) (hn : T.n + 1 ≤ 1000000) (hl : T.cs.length + 1 ≤ 3100) (hd : T.ds.length + (T.k.part code).length ≤ 2000) : (T.next code).Ok := by
  have h1 := Tr.fin_one hf
  exact ⟨h.kn.step h1.2.1, h1.2.2, by simp [Tr.next, h.lens], by simpa [Tr.next] using hl, hn, by simpa [Tr.next] using hd⟩
theorem Tr.Ok.last {T : Tr} (h : T.Ok) {code : Int} (hn : T.n + 1 ≤ 1000000) (hl : T.cs.length + 1 ≤ 3100) : (T.last code).Ok :=
  ⟨h.kn, h.size, by simp [Tr.last, h.lens], by simpa [Tr.last] using hl, hn, h.data⟩
theorem Tr.start_ok {k : Kn} (h : k.Ok) : (Tr.start k).Ok := ⟨h, by simp [Tr.start], rfl, by simp [Tr.start], by simp [Tr.start], by simp [Tr.start]⟩

/-- what a trail and the codes that are left make together -/
structure Tr.Goes (k : Kn) (codes : List Int) (T : Tr) (rest : List Int) : Prop where
  good : T.k.good T.sz rest = k.good 0 codes
  cs : T.cs ++ rest = codes
  ws : T.ws ++ T.k.widths rest = k.widths codes
  ds : T.ds ++ T.k.dat rest = k.dat codes
  n : T.n = T.cs.length
  sz : T.sz = T.ds.length
theorem Tr.goes_start (k : Kn) (codes : List Int) : Tr.Goes k codes (Tr.start k) codes := ⟨rfl, rfl, rfl, rfl, rfl, rfl⟩
theorem Tr.Goes.next {k : Kn} {codes : List Int} {T : Tr} {code : Int} {t : List Int} (h : Tr.Goes k codes T (code :: t)) (hf : T.fin code = 1) : Tr.Goes k codes (T.next code) t := by
  have h1 := Tr.fin_one hf
  refine ⟨?_, ?_, ?_, ?_, ?_, ?_⟩
  · rw [← h.good]
    by_cases hc : code = T.k.c
    · subst hc
      rw [Kn.good_clear]
      simp [Tr.next, Kn.part]
    · rw [Kn.good_code _ _ _ _ hc h1.1]
      have hp := Kn.part_code _ _ hc h1.1
      have hfl : T.k.Fol code := h1.2.1.resolve_left hc
      have h2 := h1.2.2
      rw [hp] at h2
      simp [Tr.next, hp, hfl, h2]
  · rw [← h.cs]; simp [Tr.next]
  · rw [← h.ws]; simp [Tr.next, Kn.widths]
  · rw [← h.ds]; simp [Tr.next, Kn.dat]
  · simp [Tr.next, h.n]
  · simp [Tr.next, h.sz]
theorem Tr.Goes.last {k : Kn} {codes : List Int} {T : Tr} (h : Tr.Goes k codes T [T.k.c + 1]) : Tr.Goes k codes (T.last (T.k.c + 1)) [] := by
  refine ⟨?_, ?_, ?_, ?_, ?_, ?_⟩
  · rw [← h.good, Kn.good_end]; simp [Kn.good]
  · rw [← h.cs]; simp [Tr.last]
  · rw [← h.ws]; simp [Tr.last, Kn.widths]
  · rw [← h.ds]; simp [Tr.last, Kn.dat, Kn.part]
  · simp [Tr.last, h.n]
  · simp [Tr.last, h.sz]
theorem Tr.Goes.bad {k : Kn} {codes : List Int} {T : Tr} {code : Int} {t : List Int} (h : Tr.Goes k codes T (code :: t)) (hf : T.fin code ≠ 1) (hl : ¬ (T.fin code = 0 ∧ t = [])) (hs : T.sz ≤ 2000) : k.good 0 codes = false := by
  rw [← h.good]
  by_cases he : code = T.k.c + 1
  · subst he
    rw [Kn.good_end]
    have := Tr.fin_end (T := T)
    cases t with
    | nil => exact absurd ⟨this, rfl⟩ hl
    | cons a b => rfl
  · by_cases hc : code = T.k.c
    · subst hc
      exfalso
      unfold Tr.fin at hf
      rw [if_neg he, if_pos (.inl rfl)] at hf
      split at hf
      · rename_i h2
        rw [Kn.part_none _ _ (.inl rfl)] at h2
        simp at h2
        omega
      · exact hf rfl
    · rw [Kn.good_code _ _ _ _ hc he]
      unfold Tr.fin at hf
      rw [if_neg he] at hf
      by_cases hfl : T.k.Fol code
      · rw [if_pos (.inr hfl), Kn.part_code _ _ hc he] at hf
        split at hf
        · rename_i h2
          have : ¬ T.sz + (T.k.any code).length ≤ 2000 := by omega
          simp [this]
        · exact absurd rfl hf
      · simp [hfl]
end

section
/-- (the trail, how it ends, how many bits have been read as codes) -/
def Tr.rd (B : List Bool) : Nat → Tr → Nat → Tr × Int × Nat
  | 0, T, at' => (T, 1, at')
  | f + 1, T, at' =>
    if at' + T.k.width.toNat ≤ B.length then
      if T.fin (T.k.codeAt B at') = 1 then
        if T.n + 1 = 3100 then (T.next (T.k.codeAt B at'), 3, at' + T.k.width.toNat)
        else Tr.rd B f (T.next (T.k.codeAt B at')) (at' + T.k.width.toNat)
      else (T.goto_ (T.k.codeAt B at'), T.fin (T.k.codeAt B at'), at' + T.k.width.toNat)
    else (T, 1, at')
theorem Tr.rd_stop {B : List Bool} {f : Nat} {T : Tr} {at' : Nat} (h : ¬ at' + T.k.width.toNat ≤ B.length) : Tr.rd B f T at' = (T, 1, at') := by
  cases f with
  | zero => rfl
  | succ f => rw [Tr.rd, if_neg h]
theorem Tr.rd_end {B : List Bool} {f : Nat} {T : Tr} {at' : Nat} (hf : 0 < f) (h : at' + T.k.width.toNat ≤ B.length) (h1 : T.fin (T.k.codeAt B at') ≠ 1) : Tr.rd B f T at' = (T.goto_ (T.k.codeAt B at'), T.fin (T.k.codeAt B at'), at' + T.k.width.toNat) := by
  cases f with
  | zero => omega
  | succ f => rw [Tr.rd, if_pos h, if_neg h1]
theorem Tr.rd_most {B : List Bool} {f : Nat} {T : Tr} {at' : Nat} (hf : 0 < f) (h : at' + T.k.width.toNat ≤ B.length) (h1 : T.fin (T.k.codeAt B at') = 1) (h2 : T.n + 1 = 3100) : Tr.rd B f T at' = (T.next (T.k.codeAt B at'), 3, at' + T.k.width.toNat) := by
  cases f with
  | zero => omega
  | succ f => rw [Tr.rd, if_pos h, if_pos h1, if_pos h2]
theorem Tr.rd_next {B : List Bool} {f : Nat} {T : Tr} {at' : Nat} (h : at' + T.k.width.toNat ≤ B.length) (h1 : T.fin (T.k.codeAt B at') = 1) (h2 : T.n + 1 ≠ 3100) : Tr.rd B (f + 1) T at' = Tr.rd B f (T.next (T.k.codeAt B at')) (at' + T.k.width.toNat) := by
  rw [Tr.rd, if_pos h, if_pos h1, if_neg h2]

/-- a trail reads what its Known reads -/
theorem Tr.rd_kn (B : List Bool) (f : Nat) (T : Tr) (at' : Nat) :
    (Tr.rd B f T at').1.cs = T.cs ++ (Kn.rd B f T.k at' T.n T.sz).1 ∧ (Tr.rd B f T at').2.1 = (Kn.rd B f T.k at' T.n T.sz).2.1 ∧ (Tr.rd B f T at').1.ds = T.ds ++ T.k.dat (Kn.rd B f T.k at' T.n T.sz).1 ∧ ((Tr.rd B f T at').2.1 ≠ 1 → (Tr.rd B f T at').2.2 = (Kn.rd B f T.k at' T.n T.sz).2.2) ∧ ((Tr.rd B f T at').2.1 = 1 → (Kn.rd B f T.k at' T.n T.sz).2.2 = B.length) := by
  induction f generalizing T at' with
  | zero => simp [Tr.rd, Kn.rd, Kn.dat]
  | succ f ih =>
    by_cases h : at' + T.k.width.toNat ≤ B.length
    · obtain ⟨code, hcode⟩ : ∃ code, code = T.k.codeAt B at' := ⟨_, rfl⟩
      rcases Tr.fin_range T code with h0 | h1 | h2 | h3
      · have he := Tr.fin_zero h0
        rw [Tr.rd_end (by omega) h (by rw [← hcode]; omega), Kn.rd, if_pos h, ← hcode, if_pos he, h0, Tr.to_zero h0]
        simp [Tr.last, Kn.dat, he, Kn.part]
      · have he := Tr.fin_one h1
        have hl : ¬ 2000 < T.sz + (T.k.part code).length := by omega
        by_cases hm : T.n + 1 = 3100
        · rw [Tr.rd_most (by omega) h (by rw [← hcode]; exact h1) hm, Kn.rd, if_pos h, ← hcode, if_neg he.1, if_pos he.2.1, if_neg hl, if_pos hm]
          simp [Tr.next, Kn.dat]
        · rw [Tr.rd_next h (by rw [← hcode]; exact h1) hm, Kn.rd, if_pos h, ← hcode, if_neg he.1, if_pos he.2.1, if_neg hl, if_neg hm]
          have := ih (T.next code) (at' + T.k.width.toNat)
          simp only [Tr.next] at this ⊢
          simp only [Kn.dat]
          simpa [List.append_assoc] using this
      · rw [Tr.rd_end (by omega) h (by rw [← hcode]; omega), Kn.rd, if_pos h, ← hcode, h2, Tr.to_no (.inl h2)]
        have hne : ¬ code = T.k.c + 1 := fun e => by subst e; rw [Tr.fin_end] at h2; omega
        have hno : ¬ (code = T.k.c ∨ T.k.Fol code) := fun e => by
          unfold Tr.fin at h2
          rw [if_neg hne, if_pos e] at h2
          split at h2 <;> omega
        rw [if_neg hne, if_neg hno]
        simp [Kn.dat]
      · rw [Tr.rd_end (by omega) h (by rw [← hcode]; omega), Kn.rd, if_pos h, ← hcode, h3, Tr.to_no (.inr h3)]
        have hne : ¬ code = T.k.c + 1 := fun e => by subst e; rw [Tr.fin_end] at h3; omega
        have hyes : (code = T.k.c ∨ T.k.Fol code) := by
          apply Classical.byContradiction
          intro e
          unfold Tr.fin at h3
          rw [if_neg hne, if_neg e] at h3
          omega
        have hlong : 2000 < T.sz + (T.k.part code).length := by
          apply Classical.byContradiction
          intro e
          unfold Tr.fin at h3
          rw [if_neg hne, if_pos hyes, if_neg e] at h3
          omega
        rw [if_neg hne, if_pos hyes, if_pos hlong]
        simp [Kn.dat]
    · rw [Tr.rd_stop h, Kn.rd, if_neg h]
      simp [Kn.dat]

/-! ### The specification's walk: data may be too long for one code -/
structure Tr.Walks (k : Kn) (codes : List Int) (T : Tr) (rest : List Int) : Prop where
  good : (T.sz ≤ 2000 ∧ T.k.good T.sz rest = k.good 0 codes) ∨ (2000 < T.sz ∧ k.good 0 codes = false)
  cs : T.cs ++ rest = codes
  ws : T.ws ++ T.k.widths rest = k.widths codes
  ds : T.ds ++ T.k.dat rest = k.dat codes
  n : T.n = T.cs.length
  sz : T.sz = T.ds.length
  most : T.sz ≤ 4000
  kn : T.k.Ok
theorem Tr.walks_start (k : Kn) (h : k.Ok) (codes : List Int) : Tr.Walks k codes (Tr.start k) codes := ⟨.inl ⟨by simp [Tr.start], rfl⟩, rfl, rfl, rfl, rfl, rfl, by simp [Tr.start], h⟩
theorem Tr.Walks.clear {k : Kn} {codes : List Int} {T : Tr} {t : List Int} (h : Tr.Walks k codes T (T.k.c :: t)) : Tr.Walks k codes (T.next T.k.c) t := by
  have hp := Kn.part_none T.k T.k.c (.inl rfl)
  refine ⟨?_, ?_, ?_, ?_, ?_, ?_, ?_, ?_⟩
  · rcases h.good with ⟨h1, h2⟩ | h1
    · left; rw [Kn.good_clear] at h2; simpa [Tr.next, hp, h1] using h2
    · right; simpa [Tr.next, hp] using h1
  · rw [← h.cs]; simp [Tr.next]
  · rw [← h.ws]; simp [Tr.next, Kn.widths]
  · rw [← h.ds]; simp [Tr.next, Kn.dat]
  · simp [Tr.next, h.n]
  · simp [Tr.next, h.sz]
  · simpa [Tr.next, hp] using h.most
  · exact h.kn.step (.inl rfl)
theorem Tr.Walks.code {k : Kn} {codes : List Int} {T : Tr} {code : Int} {t : List Int} (h : Tr.Walks k codes T (code :: t)) (hf : T.k.Fol code) (hs : T.sz ≤ 2000) : Tr.Walks k codes (T.next code) t := by
  have h0 := (h.kn.fol_iff code).1 hf
  have hp := Kn.part_code _ _ h0.2.2.1 h0.2.2.2
  have hl := h.kn.any_len hf
  refine ⟨?_, ?_, ?_, ?_, ?_, ?_, ?_, ?_⟩
  · rcases h.good with ⟨h1, h2⟩ | h1
    · rw [Kn.good_code _ _ _ _ h0.2.2.1 h0.2.2.2] at h2
      by_cases hx : T.sz + (T.k.any code).length ≤ 2000
      · left; simpa [Tr.next, hp, hf, hx] using h2
      · right; rw [← h2]; simp [Tr.next, hp, hx]; omega
    · omega
  · rw [← h.cs]; simp [Tr.next]
  · rw [← h.ws]; simp [Tr.next, Kn.widths]
  · rw [← h.ds]; simp [Tr.next, Kn.dat]
  · simp [Tr.next, h.n]
  · simp [Tr.next, h.sz]
  · simp only [Tr.next, hp]; omega
  · exact h.kn.step (.inr hf)
theorem Tr.Walks.wrong {k : Kn} {codes : List Int} {T : Tr} {code : Int} {t : List Int} (h : Tr.Walks k codes T (code :: t)) (h1 : code ≠ T.k.c) (h2 : code ≠ T.k.c + 1) (hf : ¬ T.k.Fol code ∨ 2000 < T.sz) : k.good 0 codes = false := by
  rcases h.good with ⟨h3, h4⟩ | h3
  · rw [← h4, Kn.good_code _ _ _ _ h1 h2]
    rcases hf with hf | hf
    · simp [hf]
    · omega
  · exact h3.2
theorem Tr.Walks.ends {k : Kn} {codes : List Int} {T : Tr} {t : List Int} (h : Tr.Walks k codes T ((T.k.c + 1) :: t)) : k.good 0 codes = (t.isEmpty && decide (T.sz ≤ 2000)) ∧ (t = [] → k.dat codes = T.ds ∧ k.widths codes = T.ws ++ [T.k.width]) := by
  refine ⟨?_, ?_⟩
  · rcases h.good with ⟨h3, h4⟩ | h3
    · rw [← h4, Kn.good_end]; simp [h3]
    · rw [h3.2]; simp; omega
  · rintro rfl
    refine ⟨?_, ?_⟩
    · rw [← h.ds]; simp [Kn.dat, Kn.part]
    · rw [← h.ws]; simp [Kn.widths]
theorem Tr.Walks.done {k : Kn} {codes : List Int} {T : Tr} (h : Tr.Walks k codes T []) : k.good 0 codes = decide (T.sz ≤ 2000) ∧ k.dat codes = T.ds ∧ k.widths codes = T.ws := by
  refine ⟨?_, ?_, ?_⟩
  · rcases h.good with ⟨h3, h4⟩ | h3
    · rw [← h4]; simp [Kn.good, h3]
    · rw [h3.2]; simp; omega
  · rw [← h.ds]; simp [Kn.dat]
  · rw [← h.ws]; simp [Kn.widths]
end

section
open Go.ChangeShapes Go.WideShapes Go.ChangeAt Go.RowKit Go.Joins
set_option linter.unusedVariables false

theorem cell_to {v v' : World} {a : Addr} {x : Value} (h : v.cell? a = some x) (hb : Below v.heap.size v v') : v'.cell? a = some x := cell_on h hb (World.block_lt_of_cell? v a h)
theorem cell_al {v : World} {a : Addr} {x : Value} (h : v.cell? a = some x) (o : Obj) : (v.alloc o).cell? a = some x := cell_to h (bel_alloc (Below.refl _ v) o)
theorem s1_bel {w v v' : World} {a0 : Addr} {x0 : Value} (hb : Below v.heap.size v v') (h : v.cell? a0 = some x0 ∧ Below w.heap.size w v) : v'.cell? a0 = some x0 ∧ Below w.heap.size w v' := ⟨cell_to h.1 hb, bel_trans h.2 hb⟩
theorem s1_drew {w v : World} {a0 : Addr} {x0 : Value} (h : v.cell? a0 = some x0 ∧ Below w.heap.size w v) : v.drew.cell? a0 = some x0 ∧ Below w.heap.size w v.drew := ⟨h.1, bel_drew h.2⟩
theorem s1_alloc {w v : World} {a0 : Addr} {x0 : Value} (h : v.cell? a0 = some x0 ∧ Below w.heap.size w v) (o : Obj) : (v.alloc o).cell? a0 = some x0 ∧ Below w.heap.size w (v.alloc o) := ⟨cell_al h.1 o, bel_alloc h.2 o⟩
theorem s2_bel {w v v' : World} {a0 a1 : Addr} {x0 x1 : Value} (hb : Below v.heap.size v v') (h : v.cell? a0 = some x0 ∧ v.cell? a1 = some x1 ∧ Below w.heap.size w v) : v'.cell? a0 = some x0 ∧ v'.cell? a1 = some x1 ∧ Below w.heap.size w v' := ⟨cell_to h.1 hb, cell_to h.2.1 hb, bel_trans h.2.2 hb⟩
theorem s2_drew {w v : World} {a0 a1 : Addr} {x0 x1 : Value} (h : v.cell? a0 = some x0 ∧ v.cell? a1 = some x1 ∧ Below w.heap.size w v) : v.drew.cell? a0 = some x0 ∧ v.drew.cell? a1 = some x1 ∧ Below w.heap.size w v.drew := ⟨h.1, h.2.1, bel_drew h.2.2⟩
theorem s2_alloc {w v : World} {a0 a1 : Addr} {x0 x1 : Value} (h : v.cell? a0 = some x0 ∧ v.cell? a1 = some x1 ∧ Below w.heap.size w v) (o : Obj) : (v.alloc o).cell? a0 = some x0 ∧ (v.alloc o).cell? a1 = some x1 ∧ Below w.heap.size w (v.alloc o) := ⟨cell_al h.1 o, cell_al h.2.1 o, bel_alloc h.2.2 o⟩
theorem s3_bel {w v v' : World} {a0 a1 a2 : Addr} {x0 x1 x2 : Value} (hb : Below v.heap.size v v') (h : v.cell? a0 = some x0 ∧ v.cell? a1 = some x1 ∧ v.cell? a2 = some x2 ∧ Below w.heap.size w v) : v'.cell? a0 = some x0 ∧ v'.cell? a1 = some x1 ∧ v'.cell? a2 = some x2 ∧ Below w.heap.size w v' := ⟨cell_to h.1 hb, cell_to h.2.1 hb, cell_to h.2.2.1 hb, bel_trans h.2.2.2 hb⟩
theorem s3_drew {w v : World} {a0 a1 a2 : Addr} {x0 x1 x2 : Value} (h : v.cell? a0 = some x0 ∧ v.cell? a1 = some x1 ∧ v.cell? a2 = some x2 ∧ Below w.heap.size w v) : v.drew.cell? a0 = some x0 ∧ v.drew.cell? a1 = some x1 ∧ v.drew.cell? a2 = some x2 ∧ Below w.heap.size w v.drew := ⟨h.1, h.2.1, h.2.2.1, bel_drew h.2.2.2⟩
theorem s3_alloc {w v : World} {a0 a1 a2 : Addr} {x0 x1 x2 : Value} (h : v.cell? a0 = some x0 ∧ v.cell? a1 = some x1 ∧ v.cell? a2 = some x2 ∧ Below w.heap.size w v) (o : Obj) : (v.alloc o).cell? a0 = some x0 ∧ (v.alloc o).cell? a1 = some x1 ∧ (v.alloc o).cell? a2 = some x2 ∧ Below w.heap.size w (v.alloc o) := ⟨cell_al h.1 o, cell_al h.2.1 o, cell_al h.2.2.1 o, bel_alloc h.2.2.2 o⟩
theorem s4_bel {w v v' : World} {a0 a1 a2 a3 : Addr} {x0 x1 x2 x3 : Value} (hb : Below v.heap.size v v') (h : v.cell? a0 = some x0 ∧ v.cell? a1 = some x1 ∧ v.cell? a2 = some x2 ∧ v.cell? a3 = some x3 ∧ Below w.heap.size w v) : v'.cell? a0 = some x0 ∧ v'.cell? a1 = some x1 ∧ v'.cell? a2 = some x2 ∧ v'.cell? a3 = some x3 ∧ Below w.heap.size w v' := ⟨cell_to h.1 hb, cell_to h.2.1 hb, cell_to h.2.2.1 hb, cell_to h.2.2.2.1 hb, bel_trans h.2.2.2.2 hb⟩
theorem s4_drew {w v : World} {a0 a1 a2 a3 : Addr} {x0 x1 x2 x3 : Value} (h : v.cell? a0 = some x0 ∧ v.cell? a1 = some x1 ∧ v.cell? a2 = some x2 ∧ v.cell? a3 = some x3 ∧ Below w.heap.size w v) : v.drew.cell? a0 = some x0 ∧ v.drew.cell? a1 = some x1 ∧ v.drew.cell? a2 = some x2 ∧ v.drew.cell? a3 = some x3 ∧ Below w.heap.size w v.drew := ⟨h.1, h.2.1, h.2.2.1, h.2.2.2.1, bel_drew h.2.2.2.2⟩
theorem s4_alloc {w v : World} {a0 a1 a2 a3 : Addr} {x0 x1 x2 x3 : Value} (h : v.cell? a0 = some x0 ∧ v.cell? a1 = some x1 ∧ v.cell? a2 = some x2 ∧ v.cell? a3 = some x3 ∧ Below w.heap.size w v) (o : Obj) : (v.alloc o).cell? a0 = some x0 ∧ (v.alloc o).cell? a1 = some x1 ∧ (v.alloc o).cell? a2 = some x2 ∧ (v.alloc o).cell? a3 = some x3 ∧ Below w.heap.size w (v.alloc o) := ⟨cell_al h.1 o, cell_al h.2.1 o, cell_al h.2.2.1 o, cell_al h.2.2.2.1 o, bel_alloc h.2.2.2.2 o⟩
theorem s5_bel {w v v' : World} {a0 a1 a2 a3 a4 : Addr} {x0 x1 x2 x3 x4 : Value} (hb : Below v.heap.size v v') (h : v.cell? a0 = some x0 ∧ v.cell? a1 = some x1 ∧ v.cell? a2 = some x2 ∧ v.cell? a3 = some x3 ∧ v.cell? a4 = some x4 ∧ Below w.heap.size w v) : v'.cell? a0 = some x0 ∧ v'.cell? a1 = some x1 ∧ v'.cell? a2 = some x2 ∧ v'.cell? a3 = some x3 ∧ v'.cell? a4 = some x4 ∧ Below w.heap.size w v' := ⟨cell_to h.1 hb, cell_to h.2.1 hb, cell_to h.2.2.1 hb, cell_to h.2.2.2.1 hb, cell_to h.2.2.2.2.1 hb, bel_trans h.2.2.2.2.2 hb⟩
theorem s5_drew {w v : World} {a0 a1 a2 a3 a4 : Addr} {x0 x1 x2 x3 x4 : Value} (h : v.cell? a0 = some x0 ∧ v.cell? a1 = some x1 ∧ v.cell? a2 = some x2 ∧ v.cell? a3 = some x3 ∧ v.cell? a4 = some x4 ∧ Below w.heap.size w v) : v.drew.cell? a0 = some x0 ∧ v.drew.cell? a1 = some x1 ∧ v.drew.cell? a2 = some x2 ∧ v.drew.cell? a3 = some x3 ∧ v.drew.cell? a4 = some x4 ∧ Below w.heap.size w v.drew := ⟨h.1, h.2.1, h.2.2.1, h.2.2.2.1, h.2.2.2.2.1, bel_drew h.2.2.2.2.2⟩
theorem s5_alloc {w v : World} {a0 a1 a2 a3 a4 : Addr} {x0 x1 x2 x3 x4 : Value} (h : v.cell? a0 = some x0 ∧ v.cell? a1 = some x1 ∧ v.cell? a2 = some x2 ∧ v.cell? a3 = some x3 ∧ v.cell? a4 = some x4 ∧ Below w.heap.size w v) (o : Obj) : (v.alloc o).cell? a0 = some x0 ∧ (v.alloc o).cell? a1 = some x1 ∧ (v.alloc o).cell? a2 = some x2 ∧ (v.alloc o).cell? a3 = some x3 ∧ (v.alloc o).cell? a4 = some x4 ∧ Below w.heap.size w (v.alloc o) := ⟨cell_al h.1 o, cell_al h.2.1 o, cell_al h.2.2.1 o, cell_al h.2.2.2.1 o, cell_al h.2.2.2.2.1 o, bel_alloc h.2.2.2.2.2 o⟩
theorem s6_bel {w v v' : World} {a0 a1 a2 a3 a4 a5 : Addr} {x0 x1 x2 x3 x4 x5 : Value} (hb : Below v.heap.size v v') (h : v.cell? a0 = some x0 ∧ v.cell? a1 = some x1 ∧ v.cell? a2 = some x2 ∧ v.cell? a3 = some x3 ∧ v.cell? a4 = some x4 ∧ v.cell? a5 = some x5 ∧ Below w.heap.size w v) : v'.cell? a0 = some x0 ∧ v'.cell? a1 = some x1 ∧ v'.cell? a2 = some x2 ∧ v'.cell? a3 = some x3 ∧ v'.cell? a4 = some x4 ∧ v'.cell? a5 = some x5 ∧ Below w.heap.size w v' := ⟨cell_to h.1 hb, cell_to h.2.1 hb, cell_to h.2.2.1 hb, cell_to h.2.2.2.1 hb, cell_to h.2.2.2.2.1 hb, cell_to h.2.2.2.2.2.1 hb, bel_trans h.2.2.2.2.2.2 hb⟩
theorem s6_drew {w v : World} {a0 a1 a2 a3 a4 a5 : Addr} {x0 x1 x2 x3 x4 x5 : Value} (h : v.cell? a0 = some x0 ∧ v.cell? a1 = some x1 ∧ v.cell? a2 = some x2 ∧ v.cell? a3 = some x3 ∧ v.cell? a4 = some x4 ∧ v.cell? a5 = some x5 ∧ Below w.heap.size w v) : v.drew.cell? a0 = some x0 ∧ v.drew.cell? a1 = some x1 ∧ v.drew.cell? a2 = some x2 ∧ v.drew.cell? a3 = some x3 ∧ v.drew.cell? a4 = some x4 ∧ v.drew.cell? a5 = some x5 ∧ Below w.heap.size w v.drew := ⟨h.1, h.2.1, h.2.2.1, h.2.2.2.1, h.2.2.2.2.1, h.2.2.2.2.2.1, bel_drew h.2.2.2.2.2.2⟩
theorem s6_alloc {w v : World} {a0 a1 a2 a3 a4 a5 : Addr} {x0 x1 x2 x3 x4 x5 : Value} (h : v.cell? a0 = some x0 ∧ v.cell? a1 = some x1 ∧ v.cell? a2 = some x2 ∧ v.cell? a3 = some x3 ∧ v.cell? a4 = some x4 ∧ v.cell? a5 = some x5 ∧ Below w.heap.size w v) (o : Obj) : (v.alloc o).cell? a0 = some x0 ∧ (v.alloc o).cell? a1 = some x1 ∧ (v.alloc o).cell? a2 = some x2 ∧ (v.alloc o).cell? a3 = some x3 ∧ (v.alloc o).cell? a4 = some x4 ∧ (v.alloc o).cell? a5 = some x5 ∧ Below w.heap.size w (v.alloc o) := ⟨cell_al h.1 o, cell_al h.2.1 o, cell_al h.2.2.1 o, cell_al h.2.2.2.1 o, cell_al h.2.2.2.2.1 o, cell_al h.2.2.2.2.2.1 o, bel_alloc h.2.2.2.2.2.2 o⟩
theorem s7_bel {w v v' : World} {a0 a1 a2 a3 a4 a5 a6 : Addr} {x0 x1 x2 x3 x4 x5 x6 : Value} (hb : Below v.heap.size v v') (h : v.cell? a0 = some x0 ∧ v.cell? a1 = some x1 ∧ v.cell? a2 = some x2 ∧ v.cell? a3 = some x3 ∧ v.cell? a4 = some x4 ∧ v.cell? a5 = some x5 ∧ v.cell? a6 = some x6 ∧ Below w.heap.size w v) : v'.cell? a0 = some x0 ∧ v'.cell? a1 = some x1 ∧ v'.cell? a2 = some x2 ∧ v'.cell? a3 = some x3 ∧ v'.cell? a4 = some x4 ∧ v'.cell? a5 = some x5 ∧ v'.cell? a6 = some x6 ∧ Below w.heap.size w v' := ⟨cell_to h.1 hb, cell_to h.2.1 hb, cell_to h.2.2.1 hb, cell_to h.2.2.2.1 hb, cell_to h.2.2.2.2.1 hb, cell_to h.2.2.2.2.2.1 hb, cell_to h.2.2.2.2.2.2.1 hb, bel_trans h.2.2.2.2.2.2.2 hb⟩
theorem s7_drew {w v : World} {a0 a1 a2 a3 a4 a5 a6 : Addr} {x0 x1 x2 x3 x4 x5 x6 : Value} (h : v.cell? a0 = some x0 ∧ v.cell? a1 = some x1 ∧ v.cell? a2 = some x2 ∧ v.cell? a3 = some x3 ∧ v.cell? a4 = some x4 ∧ v.cell? a5 = some x5 ∧ v.cell? a6 = some x6 ∧ Below w.heap.size w v) : v.drew.cell? a0 = some x0 ∧ v.drew.cell? a1 = some x1 ∧ v.drew.cell? a2 = some x2 ∧ v.drew.cell? a3 = some x3 ∧ v.drew.cell? a4 = some x4 ∧ v.drew.cell? a5 = some x5 ∧ v.drew.cell? a6 = some x6 ∧ Below w.heap.size w v.drew := ⟨h.1, h.2.1, h.2.2.1, h.2.2.2.1, h.2.2.2.2.1, h.2.2.2.2.2.1, h.2.2.2.2.2.2.1, bel_drew h.2.2.2.2.2.2.2⟩
theorem s7_alloc {w v : World} {a0 a1 a2 a3 a4 a5 a6 : Addr} {x0 x1 x2 x3 x4 x5 x6 : Value} (h : v.cell? a0 = some x0 ∧ v.cell? a1 = some x1 ∧ v.cell? a2 = some x2 ∧ v.cell? a3 = some x3 ∧ v.cell? a4 = some x4 ∧ v.cell? a5 = some x5 ∧ v.cell? a6 = some x6 ∧ Below w.heap.size w v) (o : Obj) : (v.alloc o).cell? a0 = some x0 ∧ (v.alloc o).cell? a1 = some x1 ∧ (v.alloc o).cell? a2 = some x2 ∧ (v.alloc o).cell? a3 = some x3 ∧ (v.alloc o).cell? a4 = some x4 ∧ (v.alloc o).cell? a5 = some x5 ∧ (v.alloc o).cell? a6 = some x6 ∧ Below w.heap.size w (v.alloc o) := ⟨cell_al h.1 o, cell_al h.2.1 o, cell_al h.2.2.1 o, cell_al h.2.2.2.1 o, cell_al h.2.2.2.2.1 o, cell_al h.2.2.2.2.2.1 o, cell_al h.2.2.2.2.2.2.1 o, bel_alloc h.2.2.2.2.2.2.2 o⟩
theorem s8_bel {w v v' : World} {a0 a1 a2 a3 a4 a5 a6 a7 : Addr} {x0 x1 x2 x3 x4 x5 x6 x7 : Value} (hb : Below v.heap.size v v') (h : v.cell? a0 = some x0 ∧ v.cell? a1 = some x1 ∧ v.cell? a2 = some x2 ∧ v.cell? a3 = some x3 ∧ v.cell? a4 = some x4 ∧ v.cell? a5 = some x5 ∧ v.cell? a6 = some x6 ∧ v.cell? a7 = some x7 ∧ Below w.heap.size w v) : v'.cell? a0 = some x0 ∧ v'.cell? a1 = some x1 ∧ v'.cell? a2 = some x2 ∧ v'.cell? a3 = some x3 ∧ v'.cell? a4 = some x4 ∧ v'.cell? a5 = some x5 ∧ v'.cell? a6 = some x6 ∧ v'.cell? a7 = some x7 ∧ Below w.heap.size w v' := ⟨cell_to h.1 hb, cell_to h.2.1 hb, cell_to h.2.2.1 hb, cell_to h.2.2.2.1 hb, cell_to h.2.2.2.2.1 hb, cell_to h.2.2.2.2.2.1 hb, cell_to h.2.2.2.2.2.2.1 hb, cell_to h.2.2.2.2.2.2.2.1 hb, bel_trans h.2.2.2.2.2.2.2.2 hb⟩
theorem s8_drew {w v : World} {a0 a1 a2 a3 a4 a5 a6 a7 : Addr} {x0 x1 x2 x3 x4 x5 x6 x7 : Value} (h : v.cell? a0 = some x0 ∧ v.cell? a1 = some x1 ∧ v.cell? a2 = some x2 ∧ v.cell? a3 = some x3 ∧ v.cell? a4 = some x4 ∧ v.cell? a5 = some x5 ∧ v.cell? a6 = some x6 ∧ v.cell? a7 = some x7 ∧ Below w.heap.size w v) : v.drew.cell? a0 = some x0 ∧ v.drew.cell? a1 = some x1 ∧ v.drew.cell? a2 = some x2 ∧ v.drew.cell? a3 = some x3 ∧ v.drew.cell? a4 = some x4 ∧ v.drew.cell? a5 = some x5 ∧ v.drew.cell? a6 = some x6 ∧ v.drew.cell? a7 = some x7 ∧ Below w.heap.size w v.drew := ⟨h.1, h.2.1, h.2.2.1, h.2.2.2.1, h.2.2.2.2.1, h.2.2.2.2.2.1, h.2.2.2.2.2.2.1, h.2.2.2.2.2.2.2.1, bel_drew h.2.2.2.2.2.2.2.2⟩
theorem s8_alloc {w v : World} {a0 a1 a2 a3 a4 a5 a6 a7 : Addr} {x0 x1 x2 x3 x4 x5 x6 x7 : Value} (h : v.cell? a0 = some x0 ∧ v.cell? a1 = some x1 ∧ v.cell? a2 = some x2 ∧ v.cell? a3 = some x3 ∧ v.cell? a4 = some x4 ∧ v.cell? a5 = some x5 ∧ v.cell? a6 = some x6 ∧ v.cell? a7 = some x7 ∧ Below w.heap.size w v) (o : Obj) : (v.alloc o).cell? a0 = some x0 ∧ (v.alloc o).cell? a1 = some x1 ∧ (v.alloc o).cell? a2 = some x2 ∧ (v.alloc o).cell? a3 = some x3 ∧ (v.alloc o).cell? a4 = some x4 ∧ (v.alloc o).cell? a5 = some x5 ∧ (v.alloc o).cell? a6 = some x6 ∧ (v.alloc o).cell? a7 = some x7 ∧ Below w.heap.size w (v.alloc o) := ⟨cell_al h.1 o, cell_al h.2.1 o, cell_al h.2.2.1 o, cell_al h.2.2.2.1 o, cell_al h.2.2.2.2.1 o, cell_al h.2.2.2.2.2.1 o, cell_al h.2.2.2.2.2.2.1 o, cell_al h.2.2.2.2.2.2.2.1 o, bel_alloc h.2.2.2.2.2.2.2.2 o⟩
theorem s9_bel {w v v' : World} {a0 a1 a2 a3 a4 a5 a6 a7 a8 : Addr} {x0 x1 x2 x3 x4 x5 x6 x7 x8 : Value} (hb : Below v.heap.size v v') (h : v.cell? a0 = some x0 ∧ v.cell? a1 = some x1 ∧ v.cell? a2 = some x2 ∧ v.cell? a3 = some x3 ∧ v.cell? a4 = some x4 ∧ v.cell? a5 = some x5 ∧ v.cell? a6 = some x6 ∧ v.cell? a7 = some x7 ∧ v.cell? a8 = some x8 ∧ Below w.heap.size w v) : v'.cell? a0 = some x0 ∧ v'.cell? a1 = some x1 ∧ v'.cell? a2 = some x2 ∧ v'.cell? a3 = some x3 ∧ v'.cell? a4 = some x4 ∧ v'.cell? a5 = some x5 ∧ v'.cell? a6 = some x6 ∧ v'.cell? a7 = some x7 ∧ v'.cell? a8 = some x8 ∧ Below w.heap.size w v' := ⟨cell_to h.1 hb, cell_to h.2.1 hb, cell_to h.2.2.1 hb, cell_to h.2.2.2.1 hb, cell_to h.2.2.2.2.1 hb, cell_to h.2.2.2.2.2.1 hb, cell_to h.2.2.2.2.2.2.1 hb, cell_to h.2.2.2.2.2.2.2.1 hb, cell_to h.2.2.2.2.2.2.2.2.1 hb, bel_trans h.2.2.2.2.2.2.2.2.2 hb⟩
theorem s9_drew {w v : World} {a0 a1 a2 a3 a4 a5 a6 a7 a8 : Addr} {x0 x1 x2 x3 x4 x5 x6 x7 x8 : Value} (h : v.cell? a0 = some x0 ∧ v.cell? a1 = some x1 ∧ v.cell? a2 = some x2 ∧ v.cell? a3 = some x3 ∧ v.cell? a4 = some x4 ∧ v.cell? a5 = some x5 ∧ v.cell? a6 = some x6 ∧ v.cell? a7 = some x7 ∧ v.cell? a8 = some x8 ∧ Below w.heap.size w v) : v.drew.cell? a0 = some x0 ∧ v.drew.cell? a1 = some x1 ∧ v.drew.cell? a2 = some x2 ∧ v.drew.cell? a3 = some x3 ∧ v.drew.cell? a4 = some x4 ∧ v.drew.cell? a5 = some x5 ∧ v.drew.cell? a6 = some x6 ∧ v.drew.cell? a7 = some x7 ∧ v.drew.cell? a8 = some x8 ∧ Below w.heap.size w v.drew := ⟨h.1, h.2.1, h.2.2.1, h.2.2.2.1, h.2.2.2.2.1, h.2.2.2.2.2.1, h.2.2.2.2.2.2.1, h.2.2.2.2.2.2.2.1, h.2.2.2.2.2.2.2.2.1, bel_drew h.2.2.2.2.2.2.2.2.2⟩
theorem s9_alloc {w v : World} {a0 a1 a2 a3 a4 a5 a6 a7 a8 : Addr} {x0 x1 x2 x3 x4 x5 x6 x7 x8 : Value} (h : v.cell? a0 = some x0 ∧ v.cell? a1 = some x1 ∧ v.cell? a2 = some x2 ∧ v.cell? a3 = some x3 ∧ v.cell? a4 = some x4 ∧ v.cell? a5 = some x5 ∧ v.cell? a6 = some x6 ∧ v.cell? a7 = some x7 ∧ v.cell? a8 = some x8 ∧ Below w.heap.size w v) (o : Obj) : (v.alloc o).cell? a0 = some x0 ∧ (v.alloc o).cell? a1 = some x1 ∧ (v.alloc o).cell? a2 = some x2 ∧ (v.alloc o).cell? a3 = some x3 ∧ (v.alloc o).cell? a4 = some x4 ∧ (v.alloc o).cell? a5 = some x5 ∧ (v.alloc o).cell? a6 = some x6 ∧ (v.alloc o).cell? a7 = some x7 ∧ (v.alloc o).cell? a8 = some x8 ∧ Below w.heap.size w (v.alloc o) := ⟨cell_al h.1 o, cell_al h.2.1 o, cell_al h.2.2.1 o, cell_al h.2.2.2.1 o, cell_al h.2.2.2.2.1 o, cell_al h.2.2.2.2.2.1 o, cell_al h.2.2.2.2.2.2.1 o, cell_al h.2.2.2.2.2.2.2.1 o, cell_al h.2.2.2.2.2.2.2.2.1 o, bel_alloc h.2.2.2.2.2.2.2.2.2 o⟩
theorem s10_bel {w v v' : World} {a0 a1 a2 a3 a4 a5 a6 a7 a8 a9 : Addr} {x0 x1 x2 x3 x4 x5 x6 x7 x8 x9 : Value} (hb : Below v.heap.size v v') (h : v.cell? a0 = some x0 ∧ v.cell? a1 = some x1 ∧ v.cell? a2 = some x2 ∧ v.cell? a3 = some x3 ∧ v.cell? a4 = some x4 ∧ v.cell? a5 = some x5 ∧ v.cell? a6 = some x6 ∧ v.cell? a7 = some x7 ∧ v.cell? a8 = some x8 ∧ v.cell? a9 = some x9 ∧ Below w.heap.size w v) : v'.cell? a0 = some x0 ∧ v'.cell? a1 = some x1 ∧ v'.cell? a2 = some x2 ∧ v'.cell? a3 = some x3 ∧ v'.cell? a4 = some x4 ∧ v'.cell? a5 = some x5 ∧ v'.cell? a6 = some x6 ∧ v'.cell? a7 = some x7 ∧ v'.cell? a8 = some x8 ∧ v'.cell? a9 = some x9 ∧ Below w.heap.size w v' := ⟨cell_to h.1 hb, cell_to h.2.1 hb, cell_to h.2.2.1 hb, cell_to h.2.2.2.1 hb, cell_to h.2.2.2.2.1 hb, cell_to h.2.2.2.2.2.1 hb, cell_to h.2.2.2.2.2.2.1 hb, cell_to h.2.2.2.2.2.2.2.1 hb, cell_to h.2.2.2.2.2.2.2.2.1 hb, cell_to h.2.2.2.2.2.2.2.2.2.1 hb, bel_trans h.2.2.2.2.2.2.2.2.2.2 hb⟩
theorem s10_drew {w v : World} {a0 a1 a2 a3 a4 a5 a6 a7 a8 a9 : Addr} {x0 x1 x2 x3 x4 x5 x6 x7 x8 x9 : Value} (h : v.cell? a0 = some x0 ∧ v.cell? a1 = some x1 ∧ v.cell? a2 = some x2 ∧ v.cell? a3 = some x3 ∧ v.cell? a4 = some x4 ∧ v.cell? a5 = some x5 ∧ v.cell? a6 = some x6 ∧ v.cell? a7 = some x7 ∧ v.cell? a8 = some x8 ∧ v.cell? a9 = some x9 ∧ Below w.heap.size w v) : v.drew.cell? a0 = some x0 ∧ v.drew.cell? a1 = some x1 ∧ v.drew.cell? a2 = some x2 ∧ v.drew.cell? a3 = some x3 ∧ v.drew.cell? a4 = some x4 ∧ v.drew.cell? a5 = some x5 ∧ v.drew.cell? a6 = some x6 ∧ v.drew.cell? a7 = some x7 ∧ v.drew.cell? a8 = some x8 ∧ v.drew.cell? a9 = some x9 ∧ Below w.heap.size w v.drew := ⟨h.1, h.2.1, h.2.2.1, h.2.2.2.1, h.2.2.2.2.1, h.2.2.2.2.2.1, h.2.2.2.2.2.2.1, h.2.2.2.2.2.2.2.1, h.2.2.2.2.2.2.2.2.1, h.2.2.2.2.2.2.2.2.2.1, bel_drew h.2.2.2.2.2.2.2.2.2.2⟩
theorem s10_alloc {w v : World} {a0 a1 a2 a3 a4 a5 a6 a7 a8 a9 : Addr} {x0 x1 x2 x3 x4 x5 x6 x7 x8 x9 : Value} (h : v.cell? a0 = some x0 ∧ v.cell? a1 = some x1 ∧ v.cell? a2 = some x2 ∧ v.cell? a3 = some x3 ∧ v.cell? a4 = some x4 ∧ v.cell? a5 = some x5 ∧ v.cell? a6 = some x6 ∧ v.cell? a7 = some x7 ∧ v.cell? a8 = some x8 ∧ v.cell? a9 = some x9 ∧ Below w.heap.size w v) (o : Obj) : (v.alloc o).cell? a0 = some x0 ∧ (v.alloc o).cell? a1 = some x1 ∧ (v.alloc o).cell? a2 = some x2 ∧ (v.alloc o).cell? a3 = some x3 ∧ (v.alloc o).cell? a4 = some x4 ∧ (v.alloc o).cell? a5 = some x5 ∧ (v.alloc o).cell? a6 = some x6 ∧ (v.alloc o).cell? a7 = some x7 ∧ (v.alloc o).cell? a8 = some x8 ∧ (v.alloc o).cell? a9 = some x9 ∧ Below w.heap.size w (v.alloc o) := ⟨cell_al h.1 o, cell_al h.2.1 o, cell_al h.2.2.1 o, cell_al h.2.2.2.1 o, cell_al h.2.2.2.2.1 o, cell_al h.2.2.2.2.2.1 o, cell_al h.2.2.2.2.2.2.1 o, cell_al h.2.2.2.2.2.2.2.1 o, cell_al h.2.2.2.2.2.2.2.2.1 o, cell_al h.2.2.2.2.2.2.2.2.2.1 o, bel_alloc h.2.2.2.2.2.2.2.2.2.2 o⟩
theorem s11_bel {w v v' : World} {a0 a1 a2 a3 a4 a5 a6 a7 a8 a9 a10 : Addr} {x0 x1 x2 x3 x4 x5 x6 x7 x8 x9 x10 : Value} (hb : Below v.heap.size v v') (h : v.cell? a0 = some x0 ∧ v.cell? a1 = some x1 ∧ v.cell? a2 = some x2 ∧ v.cell? a3 = some x3 ∧ v.cell? a4 = some x4 ∧ v.cell? a5 = some x5 ∧ v.cell? a6 = some x6 ∧ v.cell? a7 = some x7 ∧ v.cell? a8 = some x8 ∧ v.cell? a9 = some x9 ∧ v.cell? a10 = some x10 ∧ Below w.heap.size w v) : v'.cell? a0 = some x0 ∧ v'.cell? a1 = some x1 ∧ v'.cell? a2 = some x2 ∧ v'.cell? a3 = some x3 ∧ v'.cell? a4 = some x4 ∧ v'.cell? a5 = some x5 ∧ v'.cell? a6 = some x6 ∧ v'.cell? a7 = some x7 ∧ v'.cell? a8 = some x8 ∧ v'.cell? a9 = some x9 ∧ v'.cell? a10 = some x10 ∧ Below w.heap.size w v' := ⟨cell_to h.1 hb, cell_to h.2.1 hb, cell_to h.2.2.1 hb, cell_to h.2.2.2.1 hb, cell_to h.2.2.2.2.1 hb, cell_to h.2.2.2.2.2.1 hb, cell_to h.2.2.2.2.2.2.1 hb, cell_to h.2.2.2.2.2.2.2.1 hb, cell_to h.2.2.2.2.2.2.2.2.1 hb, cell_to h.2.2.2.2.2.2.2.2.2.1 hb, cell_to h.2.2.2.2.2.2.2.2.2.2.1 hb, bel_trans h.2.2.2.2.2.2.2.2.2.2.2 hb⟩
theorem s11_drew {w v : World} {a0 a1 a2 a3 a4 a5 a6 a7 a8 a9 a10 : Addr} {x0 x1 x2 x3 x4 x5 x6 x7 x8 x9 x10 : Value} (h : v.cell? a0 = some x0 ∧ v.cell? a1 = some x1 ∧ v.cell? a2 = some x2 ∧ v.cell? a3 = some x3 ∧ v.cell? a4 = some x4 ∧ v.cell? a5 = some x5 ∧ v.cell? a6 = some x6 ∧ v.cell? a7 = some x7 ∧ v.cell? a8 = some x8 ∧ v.cell? a9 = some x9 ∧ v.cell? a10 = some x10 ∧ Below w.heap.size w v) : v.drew.cell? a0 = some x0 ∧ v.drew.cell? a1 = some x1 ∧ v.drew.cell? a2 = some x2 ∧ v.drew.cell? a3 = some x3 ∧ v.drew.cell? a4 = some x4 ∧ v.drew.cell? a5 = some x5 ∧ v.drew.cell? a6 = some x6 ∧ v.drew.cell? a7 = some x7 ∧ v.drew.cell? a8 = some x8 ∧ v.drew.cell? a9 = some x9 ∧ v.drew.cell? a10 = some x10 ∧ Below w.heap.size w v.drew := ⟨h.1, h.2.1, h.2.2.1, h.2.2.2.1, h.2.2.2.2.1, h.2.2.2.2.2.1, h.2.2.2.2.2.2.1, h.2.2.2.2.2.2.2.1, h.2.2.2.2.2.2.2.2.1, h.2.2.2.2.2.2.2.2.2.1, h.2.2.2.2.2.2.2.2.2.2.1, bel_drew h.2.2.2.2.2.2.2.2.2.2.2⟩
theorem s11_alloc {w v : World} {a0 a1 a2 a3 a4 a5 a6 a7 a8 a9 a10 : Addr} {x0 x1 x2 x3 x4 x5 x6 x7 x8 x9 x10 : Value} (h : v.cell? a0 = some x0 ∧ v.cell? a1 = some x1 ∧ v.cell? a2 = some x2 ∧ v.cell? a3 = some x3 ∧ v.cell? a4 = some x4 ∧ v.cell? a5 = some x5 ∧ v.cell? a6 = some x6 ∧ v.cell? a7 = some x7 ∧ v.cell? a8 = some x8 ∧ v.cell? a9 = some x9 ∧ v.cell? a10 = some x10 ∧ Below w.heap.size w v) (o : Obj) : (v.alloc o).cell? a0 = some x0 ∧ (v.alloc o).cell? a1 = some x1 ∧ (v.alloc o).cell? a2 = some x2 ∧ (v.alloc o).cell? a3 = some x3 ∧ (v.alloc o).cell? a4 = some x4 ∧ (v.alloc o).cell? a5 = some x5 ∧ (v.alloc o).cell? a6 = some x6 ∧ (v.alloc o).cell? a7 = some x7 ∧ (v.alloc o).cell? a8 = some x8 ∧ (v.alloc o).cell? a9 = some x9 ∧ (v.alloc o).cell? a10 = some x10 ∧ Below w.heap.size w (v.alloc o) := ⟨cell_al h.1 o, cell_al h.2.1 o, cell_al h.2.2.1 o, cell_al h.2.2.2.1 o, cell_al h.2.2.2.2.1 o, cell_al h.2.2.2.2.2.1 o, cell_al h.2.2.2.2.2.2.1 o, cell_al h.2.2.2.2.2.2.2.1 o, cell_al h.2.2.2.2.2.2.2.2.1 o, cell_al h.2.2.2.2.2.2.2.2.2.1 o, cell_al h.2.2.2.2.2.2.2.2.2.2.1 o, bel_alloc h.2.2.2.2.2.2.2.2.2.2.2 o⟩
theorem s12_bel {w v v' : World} {a0 a1 a2 a3 a4 a5 a6 a7 a8 a9 a10 a11 : Addr} {x0 x1 x2 x3 x4 x5 x6 x7 x8 x9 x10 x11 : Value} (hb : Below v.heap.size v v') (h : v.cell? a0 = some x0 ∧ v.cell? a1 = some x1 ∧ v.cell? a2 = some x2 ∧ v.cell? a3 = some x3 ∧ v.cell? a4 = some x4 ∧ v.cell? a5 = some x5 ∧ v.cell? a6 = some x6 ∧ v.cell? a7 = some x7 ∧ v.cell? a8 = some x8 ∧ v.cell? a9 = some x9 ∧ v.cell? a10 = some x10 ∧ v.cell? a11 = some x11 ∧ Below w.heap.size w v) : v'.cell? a0 = some x0 ∧ v'.cell? a1 = some x1 ∧ v'.cell? a2 = some x2 ∧ v'.cell? a3 = some x3 ∧ v'.cell? a4 = some x4 ∧ v'.cell? a5 = some x5 ∧ v'.cell? a6 = some x6 ∧ v'.cell? a7 = some x7 ∧ v'.cell? a8 = some x8 ∧ v'.cell? a9 = some x9 ∧ v'.cell? a10 = some x10 ∧ v'.cell? a11 = some x11 ∧ Below w.heap.size w v' := ⟨cell_to h.1 hb, cell_to h.2.1 hb, cell_to h.2.2.1 hb, cell_to h.2.2.2.1 hb, cell_to h.2.2.2.2.1 hb, cell_to h.2.2.2.2.2.1 hb, cell_to h.2.2.2.2.2.2.1 hb, cell_to h.2.2.2.2.2.2.2.1 hb, cell_to h.2.2.2.2.2.2.2.2.1 hb, cell_to h.2.2.2.2.2.2.2.2.2.1 hb, cell_to h.2.2.2.2.2.2.2.2.2.2.1 hb, cell_to h.2.2.2.2.2.2.2.2.2.2.2.1 hb, bel_trans h.2.2.2.2.2.2.2.2.2.2.2.2 hb⟩
theorem s12_drew {w v : World} {a0 a1 a2 a3 a4 a5 a6 a7 a8 a9 a10 a11 : Addr} {x0 x1 x2 x3 x4 x5 x6 x7 x8 x9 x10 x11 : Value} (h : v.cell? a0 = some x0 ∧ v.cell? a1 = some x1 ∧ v.cell? a2 = some x2 ∧ v.cell? a3 = some x3 ∧ v.cell? a4 = some x4 ∧ v.cell? a5 = some x5 ∧ v.cell? a6 = some x6 ∧ v.cell? a7 = some x7 ∧ v.cell? a8 = some x8 ∧ v.cell? a9 = some x9 ∧ v.cell? a10 = some x10 ∧ v.cell? a11 = some x11 ∧ Below w.heap.size w v) : v.drew.cell? a0 = some x0 ∧ v.drew.cell? a1 = some x1 ∧ v.drew.cell? a2 = some x2 ∧ v.drew.cell? a3 = some x3 ∧ v.drew.cell? a4 = some x4 ∧ v.drew.cell? a5 = some x5 ∧ v.drew.cell? a6 = some x6 ∧ v.drew.cell? a7 = some x7 ∧ v.drew.cell? a8 = some x8 ∧ v.drew.cell? a9 = some x9 ∧ v.drew.cell? a10 = some x10 ∧ v.drew.cell? a11 = some x11 ∧ Below w.heap.size w v.drew := ⟨h.1, h.2.1, h.2.2.1, h.2.2.2.1, h.2.2.2.2.1, h.2.2.2.2.2.1, h.2.2.2.2.2.2.1, h.2.2.2.2.2.2.2.1, h.2.2.2.2.2.2.2.2.1, h.2.2.2.2.2.2.2.2.2.1, h.2.2.2.2.2.2.2.2.2.2.1, h.2.2.2.2.2.2.2.2.2.2.2.1, bel_drew h.2.2.2.2.2.2.2.2.2.2.2.2⟩
theorem s12_alloc {w v : World} {a0 a1 a2 a3 a4 a5 a6 a7 a8 a9 a10 a11 : Addr} {x0 x1 x2 x3 x4 x5 x6 x7 x8 x9 x10 x11 : Value} (h : v.cell? a0 = some x0 ∧ v.cell? a1 = some x1 ∧ v.cell? a2 = some x2 ∧ v.cell? a3 = some x3 ∧ v.cell? a4 = some x4 ∧ v.cell? a5 = some x5 ∧ v.cell? a6 = some x6 ∧ v.cell? a7 = some x7 ∧ v.cell? a8 = some x8 ∧ v.cell? a9 = some x9 ∧ v.cell? a10 = some x10 ∧ v.cell? a11 = some x11 ∧ Below w.heap.size w v) (o : Obj) : (v.alloc o).cell? a0 = some x0 ∧ (v.alloc o).cell? a1 = some x1 ∧ (v.alloc o).cell? a2 = some x2 ∧ (v.alloc o).cell? a3 = some x3 ∧ (v.alloc o).cell? a4 = some x4 ∧ (v.alloc o).cell? a5 = some x5 ∧ (v.alloc o).cell? a6 = some x6 ∧ (v.alloc o).cell? a7 = some x7 ∧ (v.alloc o).cell? a8 = some x8 ∧ (v.alloc o).cell? a9 = some x9 ∧ (v.alloc o).cell? a10 = some x10 ∧ (v.alloc o).cell? a11 = some x11 ∧ Below w.heap.size w (v.alloc o) := ⟨cell_al h.1 o, cell_al h.2.1 o, cell_al h.2.2.1 o, cell_al h.2.2.2.1 o, cell_al h.2.2.2.2.1 o, cell_al h.2.2.2.2.2.1 o, cell_al h.2.2.2.2.2.2.1 o, cell_al h.2.2.2.2.2.2.2.1 o, cell_al h.2.2.2.2.2.2.2.2.1 o, cell_al h.2.2.2.2.2.2.2.2.2.1 o, cell_al h.2.2.2.2.2.2.2.2.2.2.1 o, cell_al h.2.2.2.2.2.2.2.2.2.2.2.1 o, bel_alloc h.2.2.2.2.2.2.2.2.2.2.2.2 o⟩
theorem t1_bel {v v' : World} {a0 : Addr} {x0 : Value} (hb : Below v.heap.size v v') (h : v.cell? a0 = some x0 ∧ True) : v'.cell? a0 = some x0 ∧ True := ⟨cell_to h.1 hb, trivial⟩
theorem t1_drew {v : World} {a0 : Addr} {x0 : Value} (h : v.cell? a0 = some x0 ∧ True) : v.drew.cell? a0 = some x0 ∧ True := ⟨h.1, trivial⟩
theorem t1_alloc {v : World} {a0 : Addr} {x0 : Value} (h : v.cell? a0 = some x0 ∧ True) (o : Obj) : (v.alloc o).cell? a0 = some x0 ∧ True := ⟨cell_al h.1 o, trivial⟩
theorem t2_bel {v v' : World} {a0 a1 : Addr} {x0 x1 : Value} (hb : Below v.heap.size v v') (h : v.cell? a0 = some x0 ∧ v.cell? a1 = some x1 ∧ True) : v'.cell? a0 = some x0 ∧ v'.cell? a1 = some x1 ∧ True := ⟨cell_to h.1 hb, cell_to h.2.1 hb, trivial⟩
theorem t2_drew {v : World} {a0 a1 : Addr} {x0 x1 : Value} (h : v.cell? a0 = some x0 ∧ v.cell? a1 = some x1 ∧ True) : v.drew.cell? a0 = some x0 ∧ v.drew.cell? a1 = some x1 ∧ True := ⟨h.1, h.2.1, trivial⟩
theorem t2_alloc {v : World} {a0 a1 : Addr} {x0 x1 : Value} (h : v.cell? a0 = some x0 ∧ v.cell? a1 = some x1 ∧ True) (o : Obj) : (v.alloc o).cell? a0 = some x0 ∧ (v.alloc o).cell? a1 = some x1 ∧ True := ⟨cell_al h.1 o, cell_al h.2.1 o, trivial⟩
theorem t3_bel {v v' : World} {a0 a1 a2 : Addr} {x0 x1 x2 : Value} (hb : Below v.heap.size v v') (h : v.cell? a0 = some x0 ∧ v.cell? a1 = some x1 ∧ v.cell? a2 = some x2 ∧ True) : v'.cell? a0 = some x0 ∧ v'.cell? a1 = some x1 ∧ v'.cell? a2 = some x2 ∧ True := ⟨cell_to h.1 hb, cell_to h.2.1 hb, cell_to h.2.2.1 hb, trivial⟩
theorem t3_drew {v : World} {a0 a1 a2 : Addr} {x0 x1 x2 : Value} (h : v.cell? a0 = some x0 ∧ v.cell? a1 = some x1 ∧ v.cell? a2 = some x2 ∧ True) : v.drew.cell? a0 = some x0 ∧ v.drew.cell? a1 = some x1 ∧ v.drew.cell? a2 = some x2 ∧ True := ⟨h.1, h.2.1, h.2.2.1, trivial⟩
theorem t3_alloc {v : World} {a0 a1 a2 : Addr} {x0 x1 x2 : Value} (h : v.cell? a0 = some x0 ∧ v.cell? a1 = some x1 ∧ v.cell? a2 = some x2 ∧ True) (o : Obj) : (v.alloc o).cell? a0 = some x0 ∧ (v.alloc o).cell? a1 = some x1 ∧ (v.alloc o).cell? a2 = some x2 ∧ True := ⟨cell_al h.1 o, cell_al h.2.1 o, cell_al h.2.2.1 o, trivial⟩
theorem t4_bel {v v' : World} {a0 a1 a2 a3 : Addr} {x0 x1 x2 x3 : Value} (hb : Below v.heap.size v v') (h : v.cell? a0 = some x0 ∧ v.cell? a1 = some x1 ∧ v.cell? a2 = some x2 ∧ v.cell? a3 = some x3 ∧ True) : v'.cell? a0 = some x0 ∧ v'.cell? a1 = some x1 ∧ v'.cell? a2 = some x2 ∧ v'.cell? a3 = some x3 ∧ True := ⟨cell_to h.1 hb, cell_to h.2.1 hb, cell_to h.2.2.1 hb, cell_to h.2.2.2.1 hb, trivial⟩
theorem t4_drew {v : World} {a0 a1 a2 a3 : Addr} {x0 x1 x2 x3 : Value} (h : v.cell? a0 = some x0 ∧ v.cell? a1 = some x1 ∧ v.cell? a2 = some x2 ∧ v.cell? a3 = some x3 ∧ True) : v.drew.cell? a0 = some x0 ∧ v.drew.cell? a1 = some x1 ∧ v.drew.cell? a2 = some x2 ∧ v.drew.cell? a3 = some x3 ∧ True := ⟨h.1, h.2.1, h.2.2.1, h.2.2.2.1, trivial⟩
theorem t4_alloc {v : World} {a0 a1 a2 a3 : Addr} {x0 x1 x2 x3 : Value} (h : v.cell? a0 = some x0 ∧ v.cell? a1 = some x1 ∧ v.cell? a2 = some x2 ∧ v.cell? a3 = some x3 ∧ True) (o : Obj) : (v.alloc o).cell? a0 = some x0 ∧ (v.alloc o).cell? a1 = some x1 ∧ (v.alloc o).cell? a2 = some x2 ∧ (v.alloc o).cell? a3 = some x3 ∧ True := ⟨cell_al h.1 o, cell_al h.2.1 o, cell_al h.2.2.1 o, cell_al h.2.2.2.1 o, trivial⟩
theorem t5_bel {v v' : World} {a0 a1 a2 a3 a4 : Addr} {x0 x1 x2 x3 x4 : Value} (hb : Below v.heap.size v v') (h : v.cell? a0 = some x0 ∧ v.cell? a1 = some x1 ∧ v.cell? a2 = some x2 ∧ v.cell? a3 = some x3 ∧ v.cell? a4 = some x4 ∧ True) : v'.cell? a0 = some x0 ∧ v'.cell? a1 = some x1 ∧ v'.cell? a2 = some x2 ∧ v'.cell? a3 = some x3 ∧ v'.cell? a4 = some x4 ∧ True := ⟨cell_to h.1 hb, cell_to h.2.1 hb, cell_to h.2.2.1 hb, cell_to h.2.2.2.1 hb, cell_to h.2.2.2.2.1 hb, trivial⟩
theorem t5_drew {v : World} {a0 a1 a2 a3 a4 : Addr} {x0 x1 x2 x3 x4 : Value} (h : v.cell? a0 = some x0 ∧ v.cell? a1 = some x1 ∧ v.cell? a2 = some x2 ∧ v.cell? a3 = some x3 ∧ v.cell? a4 = some x4 ∧ True) : v.drew.cell? a0 = some x0 ∧ v.drew.cell? a1 = some x1 ∧ v.drew.cell? a2 = some x2 ∧ v.drew.cell? a3 = some x3 ∧ v.drew.cell? a4 = some x4 ∧ True := ⟨h.1, h.2.1, h.2.2.1, h.2.2.2.1, h.2.2.2.2.1, trivial⟩
theorem t5_alloc {v : World} {a0 a1 a2 a3 a4 : Addr} {x0 x1 x2 x3 x4 : Value} (h : v.cell? a0 = some x0 ∧ v.cell? a1 = some x1 ∧ v.cell? a2 = some x2 ∧ v.cell? a3 = some x3 ∧ v.cell? a4 = some x4 ∧ True) (o : Obj) : (v.alloc o).cell? a0 = some x0 ∧ (v.alloc o).cell? a1 = some x1 ∧ (v.alloc o).cell? a2 = some x2 ∧ (v.alloc o).cell? a3 = some x3 ∧ (v.alloc o).cell? a4 = some x4 ∧ True := ⟨cell_al h.1 o, cell_al h.2.1 o, cell_al h.2.2.1 o, cell_al h.2.2.2.1 o, cell_al h.2.2.2.2.1 o, trivial⟩
theorem t6_bel {v v' : World} {a0 a1 a2 a3 a4 a5 : Addr} {x0 x1 x2 x3 x4 x5 : Value} (hb : Below v.heap.size v v') (h : v.cell? a0 = some x0 ∧ v.cell? a1 = some x1 ∧ v.cell? a2 = some x2 ∧ v.cell? a3 = some x3 ∧ v.cell? a4 = some x4 ∧ v.cell? a5 = some x5 ∧ True) : v'.cell? a0 = some x0 ∧ v'.cell? a1 = some x1 ∧ v'.cell? a2 = some x2 ∧ v'.cell? a3 = some x3 ∧ v'.cell? a4 = some x4 ∧ v'.cell? a5 = some x5 ∧ True := ⟨cell_to h.1 hb, cell_to h.2.1 hb, cell_to h.2.2.1 hb, cell_to h.2.2.2.1 hb, cell_to h.2.2.2.2.1 hb, cell_to h.2.2.2.2.2.1 hb, trivial⟩
theorem t6_drew {v : World} {a0 a1 a2 a3 a4 a5 : Addr} {x0 x1 x2 x3 x4 x5 : Value} (h : v.cell? a0 = some x0 ∧ v.cell? a1 = some x1 ∧ v.cell? a2 = some x2 ∧ v.cell? a3 = some x3 ∧ v.cell? a4 = some x4 ∧ v.cell? a5 = some x5 ∧ True) : v.drew.cell? a0 = some x0 ∧ v.drew.cell? a1 = some x1 ∧ v.drew.cell? a2 = some x2 ∧ v.drew.cell? a3 = some x3 ∧ v.drew.cell? a4 = some x4 ∧ v.drew.cell? a5 = some x5 ∧ True := ⟨h.1, h.2.1, h.2.2.1, h.2.2.2.1, h.2.2.2.2.1, h.2.2.2.2.2.1, trivial⟩
theorem t6_alloc {v : World} {a0 a1 a2 a3 a4 a5 : Addr} {x0 x1 x2 x3 x4 x5 : Value} (h : v.cell? a0 = some x0 ∧ v.cell? a1 = some x1 ∧ v.cell? a2 = some x2 ∧ v.cell? a3 = some x3 ∧ v.cell? a4 = some x4 ∧ v.cell? a5 = some x5 ∧ True) (o : Obj) : (v.alloc o).cell? a0 = some x0 ∧ (v.alloc o).cell? a1 = some x1 ∧ (v.alloc o).cell? a2 = some x2 ∧ (v.alloc o).cell? a3 = some x3 ∧ (v.alloc o).cell? a4 = some x4 ∧ (v.alloc o).cell? a5 = some x5 ∧ True := ⟨cell_al h.1 o, cell_al h.2.1 o, cell_al h.2.2.1 o, cell_al h.2.2.2.1 o, cell_al h.2.2.2.2.1 o, cell_al h.2.2.2.2.2.1 o, trivial⟩
theorem t7_bel {v v' : World} {a0 a1 a2 a3 a4 a5 a6 : Addr} {x0 x1 x2 x3 x4 x5 x6 : Value} (hb : Below v.heap.size v v') (h : v.cell? a0 = some x0 ∧ v.cell? a1 = some x1 ∧ v.cell? a2 = some x2 ∧ v.cell? a3 = some x3 ∧ v.cell? a4 = some x4 ∧ v.cell? a5 = some x5 ∧ v.cell? a6 = some x6 ∧ True) : v'.cell? a0 = some x0 ∧ v'.cell? a1 = some x1 ∧ v'.cell? a2 = some x2 ∧ v'.cell? a3 = some x3 ∧ v'.cell? a4 = some x4 ∧ v'.cell? a5 = some x5 ∧ v'.cell? a6 = some x6 ∧ True := ⟨cell_to h.1 hb, cell_to h.2.1 hb, cell_to h.2.2.1 hb, cell_to h.2.2.2.1 hb, cell_to h.2.2.2.2.1 hb, cell_to h.2.2.2.2.2.1 hb, cell_to h.2.2.2.2.2.2.1 hb, trivial⟩
theorem t7_drew {v : World} {a0 a1 a2 a3 a4 a5 a6 : Addr} {x0 x1 x2 x3 x4 x5 x6 : Value} (h : v.cell? a0 = some x0 ∧ v.cell? a1 = some x1 ∧ v.cell? a2 = some x2 ∧ v.cell? a3 = some x3 ∧ v.cell? a4 = some x4 ∧ v.cell? a5 = some x5 ∧ v.cell? a6 = some x6 ∧ True) : v.drew.cell? a0 = some x0 ∧ v.drew.cell? a1 = some x1 ∧ v.drew.cell? a2 = some x2 ∧ v.drew.cell? a3 = some x3 ∧ v.drew.cell? a4 = some x4 ∧ v.drew.cell? a5 = some x5 ∧ v.drew.cell? a6 = some x6 ∧ True := ⟨h.1, h.2.1, h.2.2.1, h.2.2.2.1, h.2.2.2.2.1, h.2.2.2.2.2.1, h.2.2.2.2.2.2.1, trivial⟩
theorem t7_alloc {v : World} {a0 a1 a2 a3 a4 a5 a6 : Addr} {x0 x1 x2 x3 x4 x5 x6 : Value} (h : v.cell? a0 = some x0 ∧ v.cell? a1 = some x1 ∧ v.cell? a2 = some x2 ∧ v.cell? a3 = some x3 ∧ v.cell? a4 = some x4 ∧ v.cell? a5 = some x5 ∧ v.cell? a6 = some x6 ∧ True) (o : Obj) : (v.alloc o).cell? a0 = some x0 ∧ (v.alloc o).cell? a1 = some x1 ∧ (v.alloc o).cell? a2 = some x2 ∧ (v.alloc o).cell? a3 = some x3 ∧ (v.alloc o).cell? a4 = some x4 ∧ (v.alloc o).cell? a5 = some x5 ∧ (v.alloc o).cell? a6 = some x6 ∧ True := ⟨cell_al h.1 o, cell_al h.2.1 o, cell_al h.2.2.1 o, cell_al h.2.2.2.1 o, cell_al h.2.2.2.2.1 o, cell_al h.2.2.2.2.2.1 o, cell_al h.2.2.2.2.2.2.1 o, trivial⟩
theorem t8_bel {v v' : World} {a0 a1 a2 a3 a4 a5 a6 a7 : Addr} {x0 x1 x2 x3 x4 x5 x6 x7 : Value} (hb : Below v.heap.size v v') (h : v.cell? a0 = some x0 ∧ v.cell? a1 = some x1 ∧ v.cell? a2 = some x2 ∧ v.cell? a3 = some x3 ∧ v.cell? a4 = some x4 ∧ v.cell? a5 = some x5 ∧ v.cell? a6 = some x6 ∧ v.cell? a7 = some x7 ∧ True) : v'.cell? a0 = some x0 ∧ v'.cell? a1 = some x1 ∧ v'.cell? a2 = some x2 ∧ v'.cell? a3 = some x3 ∧ v'.cell? a4 = some x4 ∧ v'.cell? a5 = some x5 ∧ v'.cell? a6 = some x6 ∧ v'.cell? a7 = some x7 ∧ True := ⟨cell_to h.1 hb, cell_to h.2.1 hb, cell_to h.2.2.1 hb, cell_to h.2.2.2.1 hb, cell_to h.2.2.2.2.1 hb, cell_to h.2.2.2.2.2.1 hb, cell_to h.2.2.2.2.2.2.1 hb, cell_to h.2.2.2.2.2.2.2.1 hb, trivial⟩
theorem t8_drew {v : World} {a0 a1 a2 a3 a4 a5 a6 a7 : Addr} {x0 x1 x2 x3 x4 x5 x6 x7 : Value} (h : v.cell? a0 = some x0 ∧ v.cell? a1 = some x1 ∧ v.cell? a2 = some x2 ∧ v.cell? a3 = some x3 ∧ v.cell? a4 = some x4 ∧ v.cell? a5 = some x5 ∧ v.cell? a6 = some x6 ∧ v.cell? a7 = some x7 ∧ True) : v.drew.cell? a0 = some x0 ∧ v.drew.cell? a1 = some x1 ∧ v.drew.cell? a2 = some x2 ∧ v.drew.cell? a3 = some x3 ∧ v.drew.cell? a4 = some x4 ∧ v.drew.cell? a5 = some x5 ∧ v.drew.cell? a6 = some x6 ∧ v.drew.cell? a7 = some x7 ∧ True := ⟨h.1, h.2.1, h.2.2.1, h.2.2.2.1, h.2.2.2.2.1, h.2.2.2.2.2.1, h.2.2.2.2.2.2.1, h.2.2.2.2.2.2.2.1, trivial⟩
theorem t8_alloc {v : World} {a0 a1 a2 a3 a4 a5 a6 a7 : Addr} {x0 x1 x2 x3 x4 x5 x6 x7 : Value} (h : v.cell? a0 = some x0 ∧ v.cell? a1 = some x1 ∧ v.cell? a2 = some x2 ∧ v.cell? a3 = some x3 ∧ v.cell? a4 = some x4 ∧ v.cell? a5 = some x5 ∧ v.cell? a6 = some x6 ∧ v.cell? a7 = some x7 ∧ True) (o : Obj) : (v.alloc o).cell? a0 = some x0 ∧ (v.alloc o).cell? a1 = some x1 ∧ (v.alloc o).cell? a2 = some x2 ∧ (v.alloc o).cell? a3 = some x3 ∧ (v.alloc o).cell? a4 = some x4 ∧ (v.alloc o).cell? a5 = some x5 ∧ (v.alloc o).cell? a6 = some x6 ∧ (v.alloc o).cell? a7 = some x7 ∧ True := ⟨cell_al h.1 o, cell_al h.2.1 o, cell_al h.2.2.1 o, cell_al h.2.2.2.1 o, cell_al h.2.2.2.2.1 o, cell_al h.2.2.2.2.2.1 o, cell_al h.2.2.2.2.2.2.1 o, cell_al h.2.2.2.2.2.2.2.1 o, trivial⟩
section
variable {P : Program} {ops : Array Oper} {Q : Exit → Act → World → Prop} {md : Region.Mode} {S : World → Prop}

/-- one operation of a region that reads: taken first -/
theorem tk (i : Nat) {oi : Oper} {v : Value} {fuel : Nat} {listed l' : Array Bool} {a a' : Act} {w : World} (h : wpAnyH P md ops Q S fuel l' a' w)
    (hi : ops[i]? = some oi := by (simp only [List.getElem?_toArray, List.getElem?_cons_succ, List.getElem?_cons_zero]; rfl))
    (hy : YieldsIf P ops S oi v a := by exact Or.inl ⟨by rfl, by intro v hSw; (try dsimp only at hSw); go_simp; try with_reducible rfl⟩)
    (ha : a.put oi.dst v = a' := by ((try simp only [Act.put, List.setIfInBounds_toArray, List.set_cons_zero, List.set_cons_succ]); rfl))
    (hl : listed.setIfInBounds i true = l' := by ((try simp only [List.setIfInBounds_toArray, List.set_cons_zero, List.set_cons_succ]); rfl))
    (hs : Region.noSelect ops = true := by kernel_rfl) (hf : Region.free md ops listed i = true := by kernel_rfl) (hr : (Region.ready md ops listed).contains i = true := by kernel_rfl)
    (hQ : ∀ c a w, Q (.panic c) (a.put oi.dst v) w → Q (.panic c) a w := by exact fun _ _ _ h => h) (hS : S w := by assumption) : wpAnyH P md ops Q S (fuel + 1) listed a w := by
  subst ha hl
  exact wpAnyH_take hi hs hf hr hQ hy hS h
/-- one that is not wanted -/
theorem tu (i : Nat) {oi : Oper} {fuel : Nat} {listed l' : Array Bool} {a a' : Act} {w : World} (h : wpAnyH P md ops Q S fuel l' a' w)
    (hi : ops[i]? = some oi := by (simp only [List.getElem?_toArray, List.getElem?_cons_succ, List.getElem?_cons_zero]; rfl))
    (hy : Region.wanted oi (yielded ops a.tmps) = false := by rfl)
    (ha : a.put oi.dst undef = a' := by ((try simp only [Act.put, List.setIfInBounds_toArray, List.set_cons_zero, List.set_cons_succ]); rfl))
    (hl : listed.setIfInBounds i true = l' := by ((try simp only [List.setIfInBounds_toArray, List.set_cons_zero, List.set_cons_succ]); rfl))
    (hs : Region.noSelect ops = true := by kernel_rfl) (hf : Region.free md ops listed i = true := by kernel_rfl) (hr : (Region.ready md ops listed).contains i = true := by kernel_rfl)
    (hQ : ∀ c a w, Q (.panic c) (a.put oi.dst undef) w → Q (.panic c) a w := by exact fun _ _ _ h => h) (hS : S w := by assumption) : wpAnyH P md ops Q S (fuel + 1) listed a w := by
  subst ha hl
  exact wpAnyH_take hi hs hf hr hQ (.inr ⟨hy, rfl⟩) hS h
end
end
end Go.Proofs.Ytlekjmgjnnljcaa
