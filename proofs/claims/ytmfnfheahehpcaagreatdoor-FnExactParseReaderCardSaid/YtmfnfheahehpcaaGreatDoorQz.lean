/- Regions whose operations read, or call what only makes new memory, walked once in the order of the text, behind a goal that no whnf sees through. -/
import Derived.Test.YtmfnfheahehpcaaGreatDoorYn
import Derived.Deep.Quiet
import Derived.OrdersHeld
import Derived.Deep.QuietTactic
import Derived.BigQuiet
namespace Go.Proofs.YtmfnfheahehpcaaGreatDoor
open Go.ChangeShapes Go.WideShapes Go.ChangeAt Go.RowKit Go.Joins
set_option linter.unusedVariables false

/-! ### Regions whose operations read, or call what only makes new memory: one walk in the order of the text -/
section
variable {P : Program} {ops : Array Oper} {S : World → Prop} {Q : Act → Prop} {rest : List Oper} {oi : Oper}

theorem qbegin {id : Nat} {Q : Exit → Act → World → Prop} {a : Act} {w : World} {l : List Oper} (hm : P.follows .mixedOrders = true) (hB : Region.lexB .any l.toArray = true) (hS : S w.drew)
    (h : wpQuiet P l.toArray S (fun a' => ∀ w', S w' → Q .normal a' w') l a) : (Code.region id l.toArray true).wp P Q a w :=
  wp_region_quiet (C := S) hm hB hS (by simpa using h)
/-- an operation that reads -/
theorem qk {v : Value} {a a' : Act} (h : wpQuiet P ops S Q rest a')
    (hw : Region.wanted oi (yielded ops a.tmps) = true := by rfl)
    (hy : ∀ w, S w → (execOp a.eval oi).run P w = .ok (.value v) w := by exact fun v hSw => by ((try dsimp only at hSw); go_simp; try with_reducible rfl))
    (ha : a.put oi.dst v = a' := by ((try simp only [Act.put, List.setIfInBounds_toArray, List.set_cons_zero, List.set_cons_succ]); rfl)) : wpQuiet P ops S Q (oi :: rest) a := by
  subst ha
  refine wpQuiet_step fun K hK => ?_
  rw [if_pos hw]
  exact ⟨v, fun w hS => by unfold Oper.quietAt; rw [hy w hS]; exact ⟨rfl, rfl⟩, hK _ h⟩
/-- one that is not wanted -/
theorem qu {a a' : Act} (h : wpQuiet P ops S Q rest a')
    (hw : Region.wanted oi (yielded ops a.tmps) = false := by rfl)
    (ha : a.put oi.dst undef = a' := by ((try simp only [Act.put, List.setIfInBounds_toArray, List.set_cons_zero, List.set_cons_succ]); rfl)) : wpQuiet P ops S Q (oi :: rest) a := by
  subst ha
  refine wpQuiet_step fun K hK => ?_
  rw [if_neg (by rw [hw]; simp)]
  exact hK _ h
/-- a call that only makes new memory -/
theorem qc {v : Value} {f : FuncId} {args : Array Value} {a a' : Act} (hc : ∀ w, S w → Calls P f args w fun e w' => e = .returned v ∧ Below w.heap.size w w') (hk : ∀ w w', Below w.heap.size w w' → S w → S w') (h : wpQuiet P ops S Q rest a')
    (hw : Region.wanted oi (yielded ops a.tmps) = true := by rfl)
    (he : ∀ w, S w → (execOp a.eval oi).run P w = .ok (.enter f args) w := by exact fun v hSw => by ((try dsimp only at hSw); go_simp; first | done | exact ⟨rfl, rfl⟩ | with_reducible rfl))
    (ha : a.put oi.dst v = a' := by ((try simp only [Act.put, List.setIfInBounds_toArray, List.set_cons_zero, List.set_cons_succ]); rfl)) : wpQuiet P ops S Q (oi :: rest) a := by
  subst ha
  refine wpQuiet_step fun K hK => ?_
  rw [if_pos hw]
  exact ⟨v, fun w hS => by unfold Oper.quietAt; rw [he w hS]; exact ⟨rfl, (hc w hS).mono fun e w' ⟨h1, h2⟩ => ⟨h1, hk w w' h2 hS⟩⟩, hK _ h⟩
end

/-- a goal that no whnf sees through -/
structure QG (p : Prop) : Prop where
  out : p

section
variable {P : Program} {ops : Array Oper} {S : World → Prop} {Q : Act → Prop} {rest : List Oper} {oi : Oper}

theorem qB {id : Nat} {Q : Exit → Act → World → Prop} {a : Act} {w : World} {l : List Oper} (hm : P.follows .mixedOrders = true) (hB : Region.lexB .any l.toArray = true) (hS : S w.drew)
    (h : QG (wpQuiet P l.toArray S (fun a' => ∀ w', S w' → Q .normal a' w') l a)) : (Code.region id l.toArray true).wp P Q a w :=
  qbegin hm hB hS h.out

theorem qN {a : Act} (h : Q a) : QG (wpQuiet P ops S Q [] a) := ⟨wpQuiet_nil h⟩

/-- an operation that reads -/
theorem qK {v : Value} {a a' : Act} (h : QG (wpQuiet P ops S Q rest a'))
    (hw : Region.wanted oi (yielded ops a.tmps) = true := by rfl)
    (hy : ∀ w, S w → (execOp a.eval oi).run P w = .ok (.value v) w := by exact fun v hSw => by ((try dsimp only at hSw); go_simp; try with_reducible rfl))
    (ha : a.put oi.dst v = a' := by ((try simp only [Act.put, List.setIfInBounds_toArray, List.set_cons_zero, List.set_cons_succ]); rfl)) : QG (wpQuiet P ops S Q (oi :: rest) a) := ⟨qk h.out hw hy ha⟩

/-- one that is not wanted -/
theorem qU {a a' : Act} (h : QG (wpQuiet P ops S Q rest a'))
    (hw : Region.wanted oi (yielded ops a.tmps) = false := by rfl)
    (ha : a.put oi.dst undef = a' := by ((try simp only [Act.put, List.setIfInBounds_toArray, List.set_cons_zero, List.set_cons_succ]); rfl)) : QG (wpQuiet P ops S Q (oi :: rest) a) := ⟨qu h.out hw ha⟩

/-- a call that only makes new memory -/
theorem qC {v : Value} {f : FuncId} {args : Array Value} {a a' : Act} (hc : ∀ w, S w → Calls P f args w fun e w' => e = .returned v ∧ Below w.heap.size w w') (hk : ∀ w w', Below w.heap.size w w' → S w → S w') (h : QG (wpQuiet P ops S Q rest a'))
    (hw : Region.wanted oi (yielded ops a.tmps) = true := by rfl)
    (he : ∀ w, S w → (execOp a.eval oi).run P w = .ok (.enter f args) w := by exact fun v hSw => by ((try dsimp only at hSw); go_simp; first | done | exact ⟨rfl, rfl⟩ | with_reducible rfl))
    (ha : a.put oi.dst v = a' := by ((try simp only [Act.put, List.setIfInBounds_toArray, List.set_cons_zero, List.set_cons_succ]); rfl)) : QG (wpQuiet P ops S Q (oi :: rest) a) := ⟨qc hc hk h.out hw he ha⟩

end

theorem bytesNe {a b : ByteArray} (h : ¬ a = b) : (a.toList == b.toList) = false := by
  rw [ByteArray.toList_eq, ByteArray.toList_eq, beq_eq_false_iff_ne]
  intro e
  exact h (ByteArray.ext (Array.toList_inj.1 e))
end Go.Proofs.YtmfnfheahehpcaaGreatDoor
