/- Plain mathematics: what is known behind the words of a text. No condition. -/
import Derived.Test.YtblmifbpoopbdaaNw
namespace Go.Proofs.Ytblmifbpoopbdaa
set_option linter.unusedVariables false

namespace Kn
/-- what is known behind the words of data, no clear code coming in between -/
def lrn : Nat → Kn → List UInt8 → Kn
  | 0, k, _ => k
  | f + 1, k, d => if d = [] then k else lrn f (k.after (k.code1 d)) (d.drop (k.lng d))
/-- all of its words are kept -/
def settled (q : Kn) : Kn := { q with base := q.ps.length, last := -1 }
def learned (k : Kn) (d : List UInt8) : Kn := (lrn d.length k.cleared d).settled
end Kn
structure LI (k0 : Kn) (D : List UInt8) (kk : Kn) (s f : Nat) : Prop where
  ok : kk.Ok
  c : kk.c = k0.c
  eq : Kn.lrn D.length k0.cleared D = Kn.lrn f kk (D.drop s)
  fuel : D.length - s ≤ f
  le : s ≤ D.length
theorem LI.start {k0 : Kn} (h : k0.Ok) (D : List UInt8) : LI k0 D k0.cleared 0 D.length := ⟨h.cleared, rfl, by simp, by omega, by omega⟩
section
variable {k0 kk : Kn} {D : List UInt8} {s f : Nat}
theorem LI.rest (hs : s < D.length) : D.drop s ≠ [] := by
  intro e
  have := congrArg List.length e
  simp at this
  omega
theorem LI.word (h : LI k0 D kk s f) (hl : Lits k0.c D) (hs : s < D.length) : kk.Fol (kk.code1 (D.drop s)) ∧ 1 ≤ kk.lng (D.drop s) ∧ kk.lng (D.drop s) ≤ D.length - s ∧ ∃ f', LI k0 D (kk.after (kk.code1 (D.drop s))) (s + kk.lng (D.drop s)) f' := by
  obtain ⟨f', rfl⟩ : ∃ f', f = f' + 1 := ⟨f - 1, by have := h.fuel; omega⟩
  have hl2 : Lits kk.c (D.drop s) := by rw [h.c]; exact hl.drop s
  obtain ⟨h1, h2, h3, h4⟩ := h.ok.code1 (LI.rest hs) hl2
  rw [List.length_drop] at h4
  refine ⟨h1, h3, h4, f', h.ok.after h1, h.c, ?_, by have := h.fuel; omega, by omega⟩
  rw [h.eq]
  simp only [Kn.lrn, if_neg (LI.rest hs), List.drop_drop]
theorem LI.done (h : LI k0 D kk s f) (hs : s = D.length) : k0.learned D = kk.settled := by
  unfold Kn.learned
  rw [h.eq, hs, List.drop_length]
  cases f <;> simp [Kn.lrn]
theorem LI.first (h : LI k0 D kk s f) (hl : Lits k0.c D) {b : UInt8} (hb : (D.drop s).head? = some b) : (b.toNat : Int) < kk.c := by
  rw [h.c]
  exact hl b (List.mem_of_mem_drop (i := s) (List.mem_of_mem_head? hb))
end
theorem lrn_ok : ∀ (f : Nat) {k : Kn} {d : List UInt8}, k.Ok → Lits k.c d → (Kn.lrn f k d).Ok ∧ (Kn.lrn f k d).o = k.o ∧ (Kn.lrn f k d).l = k.l ∧ (Kn.lrn f k d).m = k.m
  | 0, k, d, h, hl => ⟨h, rfl, rfl, rfl⟩
  | f + 1, k, d, h, hl => by
    unfold Kn.lrn
    split
    · exact ⟨h, rfl, rfl, rfl⟩
    · rename_i hd
      obtain ⟨h1, _, _, _⟩ := h.code1 hd hl
      obtain ⟨h2, h3, h4, h5⟩ := lrn_ok f (h.after h1) (d := d.drop (k.lng d)) (hl.drop _)
      exact ⟨h2, h3, h4, h5⟩
theorem Kn.Ok.settled {q : Kn} (h : q.Ok) : q.settled.Ok := ⟨h.set, h.room, h.pairs, by show (0 : Int) ≤ (q.ps.length : Nat); omega, Int.le_refl _, Or.inr ⟨rfl, rfl⟩⟩
theorem Kn.Ok.learned {k : Kn} (h : k.Ok) {d : List UInt8} (hl : Lits k.c d) : (k.learned d).Ok := (lrn_ok d.length h.cleared hl).1.settled
end Go.Proofs.Ytblmifbpoopbdaa
