/- CountRaw in the program, and its law's walk. The layout of the header and the errors are as the program's text lays them. Slices of places that a call owns: the laws' own helpers on them; the places of blocks in the model. No condition but that they are few. IndexOf in both programs, and its law's walk. The layout of the header and the errors are as the program's text lays them. Slices of blocks that a call owns: the laws' own helpers on them. No condition but that they are few. SameBlocks in the model. No condition but that the strings are not too long. readBoth in the program. The layout of the header and the errors are as the program's text lays them. A container's bytes in the program, and the result of an edit in the model. The layout of the header and the errors are as the program's text lays them. -/
import Derived.Test.YtmlaaammfnboiaaGreatDoorUe
import Derived.Test.YtmlaaammfnboiaaGreatDoorBb
import Derived.Deep.SlicePairs
import Derived.BigQuiet
namespace Go.Proofs.YtmlaaammfnboiaaGreatDoor
section
open Go.ChangeShapes Go.WideShapes Go.ChangeAt Go.RowKit Go.Joins
set_option linter.unusedVariables false
set_option linter.unusedSimpArgs false
end

section
open Go.ChangeShapes Go.WideShapes Go.ChangeAt Go.RowKit Go.Joins
set_option linter.unusedVariables false
set_option linter.unusedSimpArgs false

end

section
open Go.ChangeShapes Go.WideShapes Go.ChangeAt Go.RowKit Go.Joins
set_option linter.unusedVariables false
set_option linter.unusedSimpArgs false

end

section
open Go.ChangeShapes Go.WideShapes Go.ChangeAt Go.RowKit Go.Joins
set_option linter.unusedVariables false
set_option linter.unusedSimpArgs false

end

section
open Go.ChangeShapes Go.WideShapes Go.ChangeAt Go.RowKit Go.Joins
set_option linter.unusedVariables false
set_option linter.unusedSimpArgs false

/-- k is how many of the first n things hold until one does not -/
def Agr (f : Nat → Bool) (n k : Nat) : Prop := k ≤ n ∧ (∀ i, i < k → f i = true) ∧ (k = n ∨ f k = false)
theorem Agr.lt {f : Nat → Bool} {n k i : Nat} (h : Agr f n k) (hi : i ≤ k) (hf : i < n → f i = true) (hn : i < n) : i < k := by
 rcases h.2.2 with e | e
 ·omega
 ·by_cases h2 : i = k
  ·subst h2
   rw [hf hn] at e
   exact absurd e (by simp)
  ·omega
end

section
open Go.ChangeShapes Go.WideShapes Go.ChangeAt Go.RowKit Go.Joins
set_option linter.unusedVariables false
set_option linter.unusedSimpArgs false

end

section
open Go.ChangeShapes Go.WideShapes Go.ChangeAt Go.RowKit Go.Joins
set_option linter.unusedVariables false
set_option linter.unusedSimpArgs false

theorem zs_le (l : List Bl) (hz : ∀ b ∈ l, 1 ≤ b.z ∧ b.z ≤ 64) : zs l ≤ 64 * l.length := by
 induction l with
 | nil => simp [zs]
 | cons b l ih =>
  have h1 := ih (fun c hc => hz c (by simp [hc]))
  have h2 := hz b (by simp)
  simp only [zs, List.length_cons]
  omega

theorem app_str8 {P : Program} {w : World} {ops : Array Oper} {rest : List Oper} {o : Oper} {a : Act} {Q : Exit → Act → World → Prop} (hgd : o.guard = none) (sl x : Operand) (t u : TypeId)
  (ho : o.op = .call { callee := .builtin .append, args := #[sl, x], argTypes := #[t, u] }) (B : Nat) (e : TypeId) (ht : P.underlying t = some (.slice e)) (hu : P.underlying u = some .string)
  (hinfo : (P.info? e).map (fun i => (i.zero, i.size, i.bytes)) = some (some (.int .u8 0), 1, 1)) (v : Value) (n : Nat) (l : List UInt8) (hs : a.eval sl = v) (hown : w.ownsRow B e 1 v n (l.map vb)) (s : ByteArray) (hx : a.eval x = .string s)
  (hn : n + s.size ≤ 100000000000) (hB : B ≤ w.heap.size)
  (h : ∀ v' w', w'.ownsRow B e 1 v' (n + s.size) ((l ++ s.data.toList).map vb) → Below B w w' → w.grownBy w' v.ownBlock → wpList P ops Q rest (a.put o.dst v') w') : wpList P ops Q (o :: rest) a w := by
 refine wpList_plain hgd fun K hK => ?_
 obtain ⟨i0, hi, hz0, hz1, hz2⟩ := info_parts hinfo
 obtain ⟨v', w', hr, hown', hg, _⟩ := Lib.run_append_own_string (P := P) w B t u o.type e i0 ht hu hi hz0 hz1 hz2 v n (l.map vb) hown s (by unfold maxLen; omega) (by omega) hB
 unfold Oper.wp execOp
 simp only [ho, resolve, invoke, builtin, Sem.run_bind, Sem.run_pure, Result.andThen_ok, List.map_toArray, List.map_cons, List.map_nil, hs, hx, hr]
 exact hK _ _ (h v' w' (by rw [List.map_append]; exact hown') (below_of_grown hg hB (fun g hg => (hown.lt g hg).1)) hg)

end
end Go.Proofs.YtmlaaammfnboiaaGreatDoor
