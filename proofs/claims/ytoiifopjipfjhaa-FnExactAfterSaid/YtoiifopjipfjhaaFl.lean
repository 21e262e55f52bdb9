/- Appends to pairs as one step of a region; the contract of follow in the program. No condition but that what is known is valid. -/
import Derived.Test.YtoiifopjipfjhaaFb
namespace Go.Proofs.Ytoiifopjipfjhaa
open Go.ChangeShapes Go.WideShapes Go.ChangeAt Go.RowKit Go.Joins
set_option linter.unusedVariables false

theorem step_pairs {P : Program} {w : World} {ops : Array Oper} {o : Oper} {a : Act} {K : Act → World → Prop} {Q : Exit → Act → World → Prop} {E : Prop} (hgd : o.guard = none) (s x : Operand) (t : TypeId)
    (ho : o.op = .call { callee := .builtin .append, args := #[s, x], argTypes := #[t, t] }) (B : Nat) (e : TypeId) (ht : P.underlying t = some (.slice e))
    (hinfo : (P.info? e).map (fun i => (i.zero, i.size, i.bytes)) = some (some (.agg #[.int .i64 0, .int .i64 0]), 2, 16)) (v : Value) (n : Nat) (l : List Pr) (hs : a.eval s = v) (hown : w.ownsRow B e 2 v n (prs l)) (A : Option Addr) (cap L m : Nat) (ps : List Pr) (hA : PsAt w L A cap ps) (hm : m = ps.length)
    (hx : a.eval x = .slice A m cap) (hn : n + ps.length ≤ 1000000000000) (hB : B ≤ w.heap.size)
    (h : ∀ v' w', w'.ownsRow B e 2 v' (n + ps.length) (prs (l ++ ps)) → Below B w w' → w.grownBy w' v.ownBlock → K (a.put o.dst v') w') : if Region.wanted o (yielded ops a.tmps) = true then Oper.wp P o a w K Q else E := by
  have hw : Region.wanted o (yielded ops a.tmps) = true := by simp [Region.wanted, hgd]
  rw [if_pos hw]
  subst hm
  obtain ⟨i0, hi, hz0, hz1, hz2⟩ := info_parts hinfo
  cases A with
  | none =>
    have hc := hA.2.2.1 rfl
    subst hc
    have h0 : ps = [] := List.length_eq_zero_iff.1 (by have := hA.1; omega)
    subst h0
    have hrun := run_append_owned_none (P := P) (w := w) B t o.type e i0 2 ht hi v n (prs l) hown
    simp only [List.length_nil] at hx
    unfold Oper.wp
    simp [execOp, ho, resolve, invoke, builtin, hs, hx, hrun, Result.andThen]
    exact h v w (by simpa using hown) (Below.refl _ _) (grown_refl _ _)
  | some ad =>
    refine wp_append_own w s x t ho B e i0 (.agg #[.int .i64 0, .int .i64 0]) 2 16 ht hi hz0 hz1 hz2 rfl (by decide) v n (prs l) hs hown ad ps.length cap (prs ps) hx (prs_len _) ?_ (prs_one _) ?_ (by omega) hB ?_
    · intro j u hj
      have hjl := get_lt hj
      rw [prs_len] at hjl
      obtain ⟨b, off, e1, _, hc⟩ := hA.2.2.2 (by omega)
      simp at e1
      subst e1
      have hg : ps[j / 2]? = some ps[j / 2] := List.getElem?_eq_getElem (by omega)
      have h1 := hc _ _ hg
      have h2 := prs_get ps _ _ hg
      have e2 : ((⟨b, off, none⟩ : Addr).add j) = ⟨b, off + j, none⟩ := by unfold Addr.add; split <;> simp_all
      rw [e2]
      rcases (show j = j / 2 * 2 ∨ j = j / 2 * 2 + 1 from by omega) with h3 | h3
      · rw [h3] at hj ⊢
        rw [h2.1] at hj
        rw [h1.1, hj]
      · rw [h3] at hj ⊢
        rw [h2.2] at hj
        rw [← Nat.add_assoc, h1.2, hj]
    · unfold maxLen; omega
    · intro v' w' hown' hg _
      refine h v' w' ?_ (below_of_grown hg hB (fun g hg => (hown.lt g hg).1)) hg
      rw [prs_append]; exact hown'

/-- one new pair, as a slice -/
theorem ps_new (w : World) (x y : Int) (t : TypeId) : PsAt (w.alloc (.cells #[.int .i64 x, .int .i64 y] t)) (w.heap.size + 1) (some ⟨w.heap.size, 0, none⟩) 1 [(x, y)] := by
  have hb := (Blk.new w t #[.int .i64 x, .int .i64 y]).cells2
  refine ⟨by simp, by simp [maxLen], by simp, fun _ => ⟨w.heap.size, 0, rfl, by omega, fun i p hp => ?_⟩⟩
  match i, hp with
  | 0, hp => simp at hp; subst hp; exact hb

/-- two worlds: blocks b and those of 'row' aside, what was there is as it was -/
structure Near (w w' : World) (b : Nat) (row : Option Nat) : Prop where
  os : w'.os = w.os
  tape : w'.tape = w.tape
  output : w'.output = w.output
  size : w.heap.size ≤ w'.heap.size
  block : ∀ g, g < w.heap.size → g ≠ b → some g ≠ row → w'.heap[g]? = w.heap[g]?
theorem Near.of_below {w w' : World} {b : Nat} {row : Option Nat} (h : Below w.heap.size w w') : Near w w' b row := ⟨h.os, h.tape, h.output, h.size, fun g hg _ _ => h.block g hg⟩
theorem Near.trans {a c d : World} {b : Nat} {row : Option Nat} (h : Near a c b row) (k : Near c d b row) : Near a d b row :=
  ⟨k.os.trans h.os, k.tape.trans h.tape, k.output.trans h.output, Nat.le_trans h.size k.size, fun g hg hb hr => (k.block g (Nat.lt_of_lt_of_le hg h.size) hb hr).trans (h.block g hg hb hr)⟩
theorem Near.grown {w w' : World} {b : Nat} {row : Option Nat} (h : w.grownBy w' row) : Near w w' b row := ⟨h.os, h.tape, h.output, h.size, fun g hg _ hr => h.block g hg hr⟩
theorem Near.set_ (w : World) (b i : Nat) (row : Option Nat) (u : Value) : Near w (w.setCell ⟨b, i, none⟩ u) b row := ⟨rfl, rfl, rfl, by simp [World.setCell], fun g _ hb _ => Below.heap_setCell w _ u g hb⟩
theorem Near.drew (w : World) (b : Nat) (row : Option Nat) : Near w w.drew b row := ⟨rfl, rfl, rfl, Nat.le_refl _, fun _ _ _ _ => rfl⟩
theorem Near.alloc (w : World) (o : Obj) (b : Nat) (row : Option Nat) : Near w (w.alloc o) b row := Near.of_below (bel_alloc (Below.refl _ w) o)
theorem Near.below {w w' : World} {b B : Nat} {row : Option Nat} (h : Near w w' b row) (hb : B ≤ b) (hr : ∀ g, row = some g → B ≤ g) (hB : B ≤ w.heap.size) : Below B w w' :=
  ⟨h.os, h.tape, h.output, h.size, fun g hg => h.block g (by omega) (by omega) (fun e => by have := hr g e.symm; omega)⟩
end Go.Proofs.Ytoiifopjipfjhaa
