/- Plain mathematics: the least code and the longest word, found by going through the codes. No condition. -/
import Derived.Test.YtblmifbpoopbdaaGr
namespace Go.Proofs.Ytblmifbpoopbdaa
set_option linter.unusedVariables false

theorem Kn.any_lit {k : Kn} {j : Int} (h0 : 0 ≤ j) (h1 : j < k.c) : k.any j = [byt j] := by
  rw [Kn.any_has (Or.inl ⟨h0, h1⟩)]; exact word_lit _ _ _ (by omega)
theorem Kn.Ok.fol_cases {k : Kn} (h : k.Ok) {j : Int} (hf : k.Fol j) : (0 ≤ j ∧ j < k.c) ∨ (k.c + 2 ≤ j ∧ j ≤ k.great) := by
  have := (h.fol_iff j).1 hf; omega
theorem Kn.Ok.fol_in {k : Kn} (h : k.Ok) {j : Int} (h1 : k.c + 2 ≤ j) (h2 : j ≤ k.great) : k.Fol j := (h.fol_iff j).2 (by have := h.cbd; omega)
theorem byt_u8 (b : UInt8) : byt (b.toNat : Int) = b := by simp [byt]
theorem Kn.Ok.find_lit1 {k : Kn} (h : k.Ok) {b : UInt8} (hb : (b.toNat : Int) < k.c) : k.find [b] = b.toNat := by
  have hc := h.cbd
  refine h.find_is (Or.inl (Or.inl ⟨by omega, hb⟩)) ?_ ?_
  · rw [Kn.any_lit (by omega) hb, byt_u8]
  · intro j hj hw
    rcases h.fol_cases hj with h1 | h1
    · rw [Kn.any_lit h1.1 h1.2] at hw
      have e : byt j = b := by simpa using hw
      have := byt_nat h1.1 (by omega)
      rw [e] at this
      omega
    · omega
/-- no literal of one byte -/
def NoLit (c : Int) (w : List UInt8) : Prop := ∀ b, w = [b] → c ≤ (b.toNat : Int)
theorem NoLit.any {k : Kn} (h : k.Ok) {w : List UInt8} (hn : NoLit k.c w) {j : Int} (h0 : 0 ≤ j) (h1 : j < k.c) : k.any j ≠ w := by
  intro e
  rw [Kn.any_lit h0 h1] at e
  have h2 := hn _ e.symm
  have := h.cbd
  rw [byt_nat h0 (by omega)] at h2
  omega
/-- none of the codes below 'code' has the word -/
def NoneTo (k : Kn) (w : List UInt8) (code : Int) : Prop := ∀ j, k.c + 2 ≤ j → j < code → k.any j ≠ w
theorem NoneTo.start (k : Kn) (w : List UInt8) : NoneTo k w (k.c + 2) := fun j h1 h2 => by omega
theorem NoneTo.next {k : Kn} {w : List UInt8} {code : Int} (h : NoneTo k w code) (hn : k.any code ≠ w) : NoneTo k w (code + 1) := fun j h1 h2 => by
  by_cases e : j = code
  · rw [e]; exact hn
  · exact h j h1 (by omega)
theorem NoneTo.found {k : Kn} (h : k.Ok) {w : List UInt8} (hn : NoLit k.c w) {code : Int} (hN : NoneTo k w code) (h1 : k.c + 2 ≤ code) (h2 : code ≤ k.great) (ha : k.any code = w) : k.find w = code := by
  refine h.find_is (h.fol_in h1 h2) ha (fun j hj hw => ?_)
  rcases h.fol_cases hj with h3 | h3
  · exact absurd hw (hn.any h h3.1 h3.2)
  · rcases Int.lt_or_le j code with h4 | h4
    · exact absurd hw (hN j h3.1 h4)
    · exact h4
theorem NoneTo.none {k : Kn} (h : k.Ok) {w : List UInt8} (hn : NoLit k.c w) (hN : NoneTo k w (k.great + 1)) : k.find w = -1 := by
  refine h.find_neg (fun j hj => ?_)
  rcases h.fol_cases hj with h3 | h3
  · exact hn.any h h3.1 h3.2
  · exact hN j h3.1 (by omega)
/-- the longest word of the codes below 'code' (and of the first byte) has s bytes -/
structure BestTo (k : Kn) (d : List UInt8) (code : Int) (s : Nat) : Prop where
  pos : 1 ≤ s
  le : s ≤ d.length
  has : ∃ j, k.Fol j ∧ k.any j = d.take s
  none : ∀ j, k.c + 2 ≤ j → j < code → ∀ i, s < i → i ≤ d.length → k.any j ≠ d.take i
theorem BestTo.start {k : Kn} (h : k.Ok) {d : List UInt8} {b : UInt8} (hd : d.head? = some b) (hb : (b.toNat : Int) < k.c) : BestTo k d (k.c + 2) 1 := by
  cases d with
  | nil => cases hd
  | cons x t =>
    simp at hd
    subst hd
    have := h.cbd
    refine ⟨by omega, by simp, ⟨x.toNat, Or.inl (Or.inl ⟨by omega, hb⟩), ?_⟩, fun j h1 h2 => by omega⟩
    rw [Kn.any_lit (by omega) hb, byt_u8]; simp
theorem BestTo.more {k : Kn} (h : k.Ok) {d : List UInt8} {code : Int} {s n : Nat} (hB : BestTo k d code s) (h1 : k.c + 2 ≤ code) (h2 : code ≤ k.great) (hn : (k.any code).length = n) (hs : s < n) (hl : n ≤ d.length) (he : d.take n = k.any code) : BestTo k d (code + 1) n := by
  refine ⟨by have := hB.pos; omega, hl, ⟨code, h.fol_in h1 h2, he.symm⟩, fun j h3 h4 i hi hid => ?_⟩
  by_cases e : j = code
  · rw [e]
    intro e2
    have := congrArg List.length e2
    rw [hn, take_len hid] at this
    omega
  · exact hB.none j h3 (by omega) i (by omega) hid
theorem BestTo.same {k : Kn} {d : List UInt8} {code : Int} {s n : Nat} (hB : BestTo k d code s) (hn : (k.any code).length = n) (hno : ¬ (s < n ∧ n ≤ d.length ∧ d.take n = k.any code)) : BestTo k d (code + 1) s := by
  refine ⟨hB.pos, hB.le, hB.has, fun j h3 h4 i hi hid => ?_⟩
  by_cases e : j = code
  · rw [e]
    intro e2
    have h5 := congrArg List.length e2
    rw [hn, take_len hid] at h5
    subst h5
    exact hno ⟨hi, hid, e2.symm⟩
  · exact hB.none j h3 (by omega) i hi hid
theorem BestTo.last {k : Kn} (h : k.Ok) {d : List UInt8} {s : Nat} (hB : BestTo k d (k.great + 1) s) : k.lng d = s := by
  obtain ⟨j, hj, ha⟩ := hB.has
  refine Kn.lng_is hB.le ?_ ?_
  · rcases Int.lt_or_le (k.find (d.take s)) 0 with h1 | h1
    · have := (Kn.find_no h.c0 h1 h.next_pos).2 j hj
      exact absurd ha this
    · exact h1
  · intro i hi hid
    rw [h.find_neg (fun j hj e => ?_)]
    · omega
    · rcases h.fol_cases hj with h3 | h3
      · rw [Kn.any_lit h3.1 h3.2] at e
        have := congrArg List.length e
        rw [take_len hid] at this
        simp at this
        have := hB.pos
        omega
      · exact hB.none j h3.1 (by omega) i hi hid e
end Go.Proofs.Ytblmifbpoopbdaa
