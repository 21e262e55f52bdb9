/- Rows that the call owns, beside boxes and beside each other. No condition. -/
import Derived.Test.YthhgamnkidkanaaDoorBb
import Derived.Test.YthhgamnkidkanaaDoorBa
import Derived.Deep.Quiet
import Derived.OrdersHeld
namespace Go.Proofs.YthhgamnkidkanaaDoor
open Go.ChangeShapes Go.WideShapes Go.ChangeAt Go.RowKit Go.Joins
set_option linter.unusedVariables false

theorem y_elem {w : World} {B : Nat} {e : TypeId} {size n : Nat} {v : Value} {xs : List Value} (h : w.ownsRow B e size v n xs) (b : Nat) (hb : v.ownBlock = some b) : ∃ cs, w.heap[b]? = some (.cells cs e (0, 0)) := by
  rcases h.2 with ⟨rfl, _⟩ | ⟨g, cap', cur, rfl, _, hh, _⟩
  · simp [Value.ownBlock] at hb
  · have e3 : g = b := by simpa [Value.ownBlock] using hb
    subst e3
    exact ⟨cur, hh⟩
theorem y_apart_blk {w : World} {B : Nat} {e t : TypeId} {size n b : Nat} {v : Value} {xs : List Value} {cs : Array Value} (h : w.ownsRow B e size v n xs) (hk : Blk w b t cs) (ht : t ≠ e) : some b ≠ v.ownBlock := by
  intro e3
  obtain ⟨c1, h3⟩ := y_elem h b e3.symm
  have h5 := hk.symm.trans h3
  simp at h5
  exact ht h5.2
/-- a box of another type stays, whatever is done to the row -/
theorem y_box {w w' : World} {B b : Nat} {e t : TypeId} {size n : Nat} {v : Value} {xs : List Value} {cs : Array Value} (hk : Blk w b t cs) (ho : w.ownsRow B e size v n xs) (ht : t ≠ e) (hg : w.grownBy w' v.ownBlock) : Blk w' b t cs := hk.grown hg (y_apart_blk ho hk ht)
/-- a box below the row stays -/
theorem y_low {w w' : World} {B b : Nat} {e t : TypeId} {size n : Nat} {v : Value} {xs : List Value} {cs : Array Value} (hk : Blk w b t cs) (ho : w.ownsRow B e size v n xs) (hb : b < B) (hg : w.grownBy w' v.ownBlock) : Blk w' b t cs := hk.grown hg fun e3 => by have := (ho.lt b e3.symm).1; omega
theorem y_bel {w W w' : World} {B : Nat} {e : TypeId} {size n : Nat} {v : Value} {xs : List Value} (hB : Below w.heap.size w W) (ho : W.ownsRow B e size v n xs) (hw : w.heap.size ≤ B) (hg : W.grownBy w' v.ownBlock) : Below w.heap.size w w' :=
  hB.trans (below_of_grown hg hB.size (fun g e => by have := (ho.lt g e).1; omega))
/-- a row of another type stays, whatever is done to the row -/
theorem y_row {w w' : World} {B B2 : Nat} {e e2 : TypeId} {size size2 n n2 : Nat} {v v2 : Value} {xs xs2 : List Value} (h : w.ownsRow B e size v n xs) (h2 : w.ownsRow B2 e2 size2 v2 n2 xs2) (ht : e ≠ e2) (hg : w.grownBy w' v2.ownBlock) : w'.ownsRow B e size v n xs :=
  h.kept hg (by
    cases hv : v.ownBlock with
    | none => exact .inl rfl
    | some b =>
      refine .inr (fun e3 => ht ?_)
      obtain ⟨c1, h3⟩ := y_elem h b hv
      obtain ⟨c2, h4⟩ := y_elem h2 b e3.symm
      have h5 := h3.symm.trans h4
      simp at h5
      exact h5.2)
/-- an older row stays, whatever is done to a younger one -/
theorem y_old {w w' : World} {B B2 : Nat} {e e2 : TypeId} {size size2 n n2 : Nat} {v v2 : Value} {xs xs2 : List Value} (h : w.ownsRow B e size v n xs) (hu : ∀ g, v.ownBlock = some g → g < B2) (h2 : w.ownsRow B2 e2 size2 v2 n2 xs2) (hg : w.grownBy w' v2.ownBlock) : w'.ownsRow B e size v n xs :=
  h.kept hg (by
    cases hv : v.ownBlock with
    | none => exact .inl rfl
    | some b =>
      refine .inr (fun e3 => ?_)
      have h3 := hu b hv
      have h4 := (h2.lt b e3.symm).1
      omega)
theorem y_on {w w' : World} {B : Nat} {e : TypeId} {size : Nat} {v : Value} {n : Nat} {xs : List Value} (h : w.ownsRow B e size v n xs) (hb : Below w.heap.size w w') : w'.ownsRow B e size v n xs :=
  h.kept (grown_below none hb) (by cases hv : v.ownBlock <;> simp)
theorem y_mono {w : World} {B B' : Nat} {e : TypeId} {size : Nat} {v : Value} {n : Nat} {xs : List Value} (h : w.ownsRow B e size v n xs) (hB : B' ≤ B) : w.ownsRow B' e size v n xs := by
  refine ⟨h.1, ?_⟩
  rcases h.2 with h1 | ⟨g, cap', cur, e1, hb, h2⟩
  · exact .inl h1
  · exact .inr ⟨g, cap', cur, e1, by omega, h2⟩
theorem Blk.cells4y {w : World} {g : Nat} {t : TypeId} {a b c d : Value} (h : Blk w g t #[a, b, c, d]) : w.cell? ⟨g, 0, none⟩ = some a ∧ w.cell? ⟨g, 1, none⟩ = some b ∧ w.cell? ⟨g, 2, none⟩ = some c ∧ w.cell? ⟨g, 3, none⟩ = some d := ⟨h.cell 0, h.cell 1, h.cell 2, h.cell 3⟩
theorem Blk.cells5y {w : World} {g : Nat} {t : TypeId} {a b c d e : Value} (h : Blk w g t #[a, b, c, d, e]) : w.cell? ⟨g, 0, none⟩ = some a ∧ w.cell? ⟨g, 1, none⟩ = some b ∧ w.cell? ⟨g, 2, none⟩ = some c ∧ w.cell? ⟨g, 3, none⟩ = some d ∧ w.cell? ⟨g, 4, none⟩ = some e := ⟨h.cell 0, h.cell 1, h.cell 2, h.cell 3, h.cell 4⟩
theorem Tryd.info_u8y : (Tryd.prog.info? 5).map (fun i => (i.zero, i.size, i.bytes)) = some (some (.int .u8 0), 1, 1) := by kernel_rfl
/-- a row of bytes as a string -/
theorem run_rowy {P : Program} {w : World} {B : Nat} {e : TypeId} {n : Nat} {v : Value} {l : List UInt8} {src dst : TypeId} (hs : P.underlying src = some (.slice e)) (he : P.underlying e = some (.int .u8)) (hd : P.underlying dst = some .string)
    (h : w.ownsRow B e 1 v n (l.map vb)) : (convert src dst v).run P w = .ok (.string (str l)) w := run_str hs he hd h

/-! ### Regions whose operations read, or call what only makes new memory: one walk in the order of the text -/
section
variable {P : Program} {ops : Array Oper} {S : World → Prop} {Q : Act → Prop} {rest : List Oper} {oi : Oper}

theorem qbegin {id : Nat} {Q : Exit → Act → World → Prop} {a : Act} {w : World} {l : List Oper} (hm : P.follows .mixedOrders = true) (hB : Region.lexB .any l.toArray = true) (hS : S w.drew)
    (h : wpQuiet P l.toArray S (fun a' => ∀ w', S w' → Q .normal a' w') l a) : (Code.region id l.toArray true).wp P Q a w :=
  wp_region_quiet (C := S) hm hB hS (by simpa using h)
/-- an operation that reads -/
theorem qk {v : Value} {a a' : Act} (h : wpQuiet P ops S Q rest a')
    (hw : Region.wanted oi (yielded ops a.tmps) = true := by rfl)
    (hy : ∀ w, S w → (execOp a.eval oi).run P w = .ok (.value v) w := by exact fun v hSw => by ((try dsimp only at hSw); go_simp; try with_reducible rfl))
    (ha : a.put oi.dst v = a' := by ((try simp only [Act.put, List.setIfInBounds_toArray, List.set_cons_zero, List.set_cons_succ]); rfl)) : wpQuiet P ops S Q (oi :: rest) a := by
  subst ha
  refine wpQuiet_step fun K hK => ?_
  rw [if_pos hw]
  exact ⟨v, fun w hS => by unfold Oper.quietAt; rw [hy w hS]; exact ⟨rfl, rfl⟩, hK _ h⟩
/-- one that is not wanted -/
theorem qu {a a' : Act} (h : wpQuiet P ops S Q rest a')
    (hw : Region.wanted oi (yielded ops a.tmps) = false := by rfl)
    (ha : a.put oi.dst undef = a' := by ((try simp only [Act.put, List.setIfInBounds_toArray, List.set_cons_zero, List.set_cons_succ]); rfl)) : wpQuiet P ops S Q (oi :: rest) a := by
  subst ha
  refine wpQuiet_step fun K hK => ?_
  rw [if_neg (by rw [hw]; simp)]
  exact hK _ h
/-- a call that only makes new memory -/
theorem qc {v : Value} {f : FuncId} {args : Array Value} {a a' : Act} (hc : ∀ w, S w → Calls P f args w fun e w' => e = .returned v ∧ Below w.heap.size w w') (hk : ∀ w w', Below w.heap.size w w' → S w → S w') (h : wpQuiet P ops S Q rest a')
    (hw : Region.wanted oi (yielded ops a.tmps) = true := by rfl)
    (he : ∀ w, S w → (execOp a.eval oi).run P w = .ok (.enter f args) w := by exact fun v hSw => by ((try dsimp only at hSw); go_simp; first | done | exact ⟨rfl, rfl⟩ | with_reducible rfl))
    (ha : a.put oi.dst v = a' := by ((try simp only [Act.put, List.setIfInBounds_toArray, List.set_cons_zero, List.set_cons_succ]); rfl)) : wpQuiet P ops S Q (oi :: rest) a := by
  subst ha
  refine wpQuiet_step fun K hK => ?_
  rw [if_pos hw]
  exact ⟨v, fun w hS => by unfold Oper.quietAt; rw [he w hS]; exact ⟨rfl, (hc w hS).mono fun e w' ⟨h1, h2⟩ => ⟨h1, hk w w' h2 hS⟩⟩, hK _ h⟩
end
theorem same_bel {P : Program} {f : FuncId} {args : Array Value} {v : Value} {w : World} (h : Calls P f args w (fun e w' => e = .returned v ∧ w = w')) : Calls P f args w fun e w' => e = .returned v ∧ Below w.heap.size w w' :=
  h.mono fun e w' ⟨h1, h2⟩ => ⟨h1, h2 ▸ Below.refl _ _⟩
/-- 'out = append(out, s...)' of a string's bytes, as a step of a region -/
theorem y_step_str {P : Program} {w : World} {ops : Array Oper} {o : Oper} {a : Act} {K : Act → World → Prop} {Q : Exit → Act → World → Prop} {E : Prop} (hgd : o.guard = none) (sl x : Operand) (t u : TypeId)
    (ho : o.op = .call { callee := .builtin .append, args := #[sl, x], argTypes := #[t, u] }) (B : Nat) (e : TypeId) (ht : P.underlying t = some (.slice e)) (hu : P.underlying u = some .string)
    (hinfo : (P.info? e).map (fun i => (i.zero, i.size, i.bytes)) = some (some (.int .u8 0), 1, 1)) (v : Value) (n : Nat) (l : List UInt8) (hs : a.eval sl = v) (hown : w.ownsRow B e 1 v n (l.map vb)) (s : ByteArray) (hx : a.eval x = .string s)
    (hn : n + s.size ≤ 100000000000) (hB : B ≤ w.heap.size)
    (h : ∀ v' w', w'.ownsRow B e 1 v' (n + s.size) ((l ++ s.data.toList).map vb) → Below B w w' → w.grownBy w' v.ownBlock → K (a.put o.dst v') w') : if Region.wanted o (yielded ops a.tmps) = true then Oper.wp P o a w K Q else E := by
  have hw : Region.wanted o (yielded ops a.tmps) = true := by simp [Region.wanted, hgd]
  rw [if_pos hw]
  obtain ⟨i0, hi, hz0, hz1, hz2⟩ := info_parts hinfo
  obtain ⟨v', w', hr, hown', hg, _⟩ := Lib.run_append_own_string (P := P) w B t u o.type e i0 ht hu hi hz0 hz1 hz2 v n (l.map vb) hown s (by unfold maxLen; omega) (by omega) hB
  unfold Oper.wp execOp
  simp only [ho, resolve, invoke, builtin, Sem.run_bind, Sem.run_pure, Result.andThen_ok, List.map_toArray, List.map_cons, List.map_nil, hs, hx, hr]
  exact h v' w' (by rw [List.map_append]; exact hown') (below_of_grown hg hB (fun g hg => (hown.lt g hg).1)) hg
end Go.Proofs.YthhgamnkidkanaaDoor
