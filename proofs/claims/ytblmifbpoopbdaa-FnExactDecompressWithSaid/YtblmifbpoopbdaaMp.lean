/- A map from pairs of numbers to nodes: what a look-up, a store and a clearing do. No condition but that the numbers are small. -/
import Derived.Test.YtblmifbpoopbdaaSigns
import Derived.Test.YtblmifbpoopbdaaFr
import Derived.Test.YtblmifbpoopbdaaBa
import Derived.Maps.Own
import Derived.Maps.Views
import Derived.DeepKeys4
import Derived.MapFrom
namespace Go.Proofs.Ytblmifbpoopbdaa
open Go.ChangeShapes Go.WideShapes Go.ChangeAt Go.RowKit Go.Joins
set_option linter.unusedVariables false

theorem pair_law : WideMaps.KeyLaw Try.prog 182 := deep_law_laid laid_out (m := 2) (by omega) (of_decide_eq_true (by kernel_rfl)) (by kernel_rfl) (by rw [Try.underlying182])
theorem pair_keyed : Maps.Keyed Try.prog 182 := Maps.Keyed.of_law pair_law
def pv2 (r : Nat) (x : Int) : Value := .agg #[.int .i64 r, .int .i64 x]
theorem pair_key (r : Nat) (x : Int) (hr : r ≤ 100000) (hx : 0 ≤ x ∧ x ≤ 255) : ∃ l, keyOf Try.prog 182 (pv2 r x) = some l := by
  have h1 : Try.prog.keyType 182 = true := by kernel_rfl
  have hc : Try.prog.cellsOf 182 = 2 := by kernel_rfl
  have hc1 : Try.prog.cellsOf 3 = 1 := by kernel_rfl
  have h2 : (pv2 r x).formed Try.prog 182 = true := by simp [pv2, Value.formed, Try.underlying182, hc]
  have w1 : (Lit.int .i64 (r : Int)).wf = true := by simp [Lit.wf, IntKind.min, IntKind.max, IntKind.signed, IntKind.bits]; omega
  have w2 : (Lit.int .i64 x).wf = true := by simp [Lit.wf, IntKind.min, IntKind.max, IntKind.signed, IntKind.bits]; omega
  have h3 : Try.prog.keyLits (Try.prog.types.size + 1) 182 [.int .i64 r, .int .i64 x] = some [.int .i64 r, .int .i64 x] := by
    obtain ⟨n, hn⟩ : ∃ n, Try.prog.types.size = n + 1 := ⟨Try.prog.types.size - 1, by have : 0 < Try.prog.types.size := of_decide_eq_true (by kernel_rfl); omega⟩
    rw [hn]
    simp only [Program.keyLits, Try.underlying182]
    simp [hc, hc1, w1, w2]
  unfold keyOf
  rw [Try.underlying182]
  simp only [h1, h2, Bool.and_self, if_true]
  exact ⟨_, by rw [show (pv2 r x).cells.toList = [.int .i64 r, .int .i64 x] from rfl, h3]; rfl⟩
instance : Nonempty Lit := ⟨.nil⟩
noncomputable def kl (r : Nat) (x : Int) : Lit := Classical.epsilon fun l => keyOf Try.prog 182 (pv2 r x) = some l
theorem kl_key {r : Nat} {x : Int} (hr : r ≤ 100000) (hx : 0 ≤ x ∧ x ≤ 255) : keyOf Try.prog 182 (pv2 r x) = some (kl r x) := by
  exact Classical.epsilon_spec (pair_key r x hr hx)
theorem kl_inj {r r' : Nat} {x x' : Int} (hr : r ≤ 100000) (hx : 0 ≤ x ∧ x ≤ 255) (hr' : r' ≤ 100000) (hx' : 0 ≤ x' ∧ x' ≤ 255) (h : kl r x = kl r' x') : r = r' ∧ x = x' := by
  have h1 := kl_key hr hx
  have h2 := kl_key hr' hx'
  rw [← h] at h2
  have := pair_keyed.inj h1 h2
  simp [pv2] at this
  omega

theorem put_same {D : DataW Unit} (hi : Maps.IsMap D) {v : Value} {l : Lit} (h : keyOf Try.prog 182 v = some l) (d z : DataW Unit) : (D.put l d).atKey l z = d := Maps.atKey_put_same hi (pair_keyed.key h) d z

/-- a pointer as a datum: the number of its block -/
def encP : Option Nat → Int
  | none => -1
  | some b => b
def rdp (v : Value) : Option (DataW Unit × List MemPlace) := match v with
  | .pointer none => some (.lit (.int .i64 (-1)), [])
  | .pointer (some ⟨b, 0, none⟩) => some (.lit (.int .i64 b), [])
  | _ => none
theorem rdp_ptr (x : Option Nat) : rdp (ptr x) = some (.lit (.int .i64 (encP x)), []) := by cases x <;> rfl
theorem rdp_inv {v : Value} {x : Option Nat} {ps : List MemPlace} (h : rdp v = some (.lit (.int .i64 (encP x)), ps)) : v = ptr x := by
  unfold rdp at h
  split at h
  · cases x with
    | none => rfl
    | some b => simp [encP] at h
  · rename_i b
    cases x with
    | none => simp [encP] at h
    | some b' =>
      simp [encP] at h
      have : b = b' := by omega
      subst this; rfl
  · cases h

/-- block bm is a map of at most n entries that leads from pairs to blocks as M says -/
def MapIs (w : World) (bm n : Nat) (M : Nat → Int → Option Nat) : Prop := ∃ D : DataW Unit, w.ownsMap Try.prog 182 rdp bm n D ∧ Maps.IsMap D ∧ ∀ (r : Nat) (x : Int), r ≤ 100000 → 0 ≤ x ∧ x ≤ 255 → D.atKey (kl r x) (.lit (.int .i64 (-1))) = .lit (.int .i64 (encP (M r x)))
theorem zero_node (w : World) : (zeroValue 186).run Try.prog w = .ok (.pointer none) w := by kernel_rfl
theorem MapIs.new (w : World) : MapIs (w.alloc (.map #[] 0)) w.heap.size 0 (fun _ _ => none) := ⟨.map [], World.ownsMap_made w _ _ _, Maps.isMap_empty, fun _ _ _ _ => rfl⟩
theorem MapIs.kept {w w' : World} {row : Option Nat} {bm n : Nat} {M : Nat → Int → Option Nat} (h : MapIs w bm n M) (hg : w.grownBy w' row) (hne : some bm ≠ row) : MapIs w' bm n M := by
  obtain ⟨D, ho, h2⟩ := h
  exact ⟨D, ho.kept hg hne, h2⟩
theorem MapIs.lt {w : World} {bm n : Nat} {M : Nat → Int → Option Nat} (h : MapIs w bm n M) : bm < w.heap.size := by
  obtain ⟨D, ho, _⟩ := h; exact ho.lt
theorem MapIs.same {w : World} {bm n : Nat} {M M' : Nat → Int → Option Nat} (h : MapIs w bm n M) (hM : ∀ (r : Nat) (x : Int), r ≤ 100000 → 0 ≤ x ∧ x ≤ 255 → M' r x = M r x) : MapIs w bm n M' := by
  obtain ⟨D, ho, hi, hat⟩ := h
  exact ⟨D, ho, hi, fun r x hr hx => by rw [hat r x hr hx, hM r x hr hx]⟩
/-- a look-up -/
theorem MapIs.look {w : World} {bm n : Nat} {M : Nat → Int → Option Nat} (h : MapIs w bm n M) {r : Nat} {x : Int} (hr : r ≤ 100000) (hx : 0 ≤ x ∧ x ≤ 255) : (Instr.lookup 144 (.map (some bm)) (.agg #[.int .i64 r, .int .i64 x]) false).run Try.prog w = .ok (ptr (M r x)) w := by
  obtain ⟨D, ho, hi, hat⟩ := h
  obtain ⟨v, ps, hrun, hv⟩ := ho.lookup pair_keyed Try.underlying144 (zero_node w) (rdp_ptr none) (kl_key hr hx)
  rw [show (Lit.int .i64 (encP none) : Lit) = .int .i64 (-1) from rfl, hat r x hr hx] at hv
  rw [← rdp_inv hv]
  exact hrun
/-- a store -/
theorem MapIs.store {w : World} {bm n : Nat} {M : Nat → Int → Option Nat} (h : MapIs w bm n M) (hn : n ≤ 1000000) {r : Nat} {x : Int} (hr : r ≤ 100000) (hx : 0 ≤ x ∧ x ≤ 255) (g : Nat) : ∃ w', (Instr.mapUpdate 144 (.map (some bm)) (.agg #[.int .i64 r, .int .i64 x]) (.pointer (some ⟨g, 0, none⟩))).run Try.prog w = .ok () w' ∧ MapIs w' bm (n + 1) (fun r' x' => if r' = r ∧ x' = x then some g else M r' x') ∧ w.grownBy w' (some bm) := by
  obtain ⟨D, ho, hi, hat⟩ := h
  obtain ⟨w', hrun, ho', hg⟩ := ho.update pair_keyed Try.underlying144 (by unfold maxLen; omega) (kl_key hr hx) (rdp_ptr (some g))
  refine ⟨w', hrun, ⟨D.put (kl r x) (.lit (.int .i64 (encP (some g)))), ho', hi.put _ _, fun r' x' hr' hx' => ?_⟩, hg⟩
  by_cases he : r' = r ∧ x' = x
  · have e1 := put_same hi (kl_key hr hx) (.lit (.int .i64 (encP (some g)))) (.lit (.int .i64 (-1)))
    show (D.put (kl r x) (.lit (.int .i64 (encP (some g))))).atKey (kl r' x') (.lit (.int .i64 (-1))) = DataW.lit (.int .i64 (encP (if r' = r ∧ x' = x then some g else M r' x')))
    rw [if_pos he, he.1, he.2]
    exact e1
  · rw [Maps.atKey_put_other (fun e => he (kl_inj hr' hx' hr hx e)), hat r' x' hr' hx']
    show DataW.lit (.int .i64 (encP (M r' x'))) = DataW.lit (.int .i64 (encP (if r' = r ∧ x' = x then some g else M r' x')))
    rw [if_neg he]
/-- a clearing -/
theorem MapIs.clear {w : World} {bm n : Nat} {M : Nat → Int → Option Nat} (h : MapIs w bm n M) : ∃ w', (∀ ty, (Builtin.clear_ #[ 144 ] ty #[.map (some bm)]).run Try.prog w = .ok (.tuple #[]) w') ∧ MapIs w' bm 0 (fun _ _ => none) ∧ w.grownBy w' (some bm) := by
  obtain ⟨D, ⟨es, clock, hb, F, hs, hD⟩, hi, hat⟩ := h
  refine ⟨{ w with heap := w.heap.setIfInBounds bm (.map #[] clock) }, fun ty => ?_, ⟨.map [], ⟨#[], clock, ?_, ⟨by simp, MapKept.stamped_empty clock, by simp⟩, by simp, rfl⟩, Maps.isMap_empty, fun _ _ _ _ => rfl⟩, ⟨rfl, rfl, rfl, by simp, fun k hk hne => ?_⟩⟩
  · simp [Builtin.clear_, run_underlying Try.underlying144, MapKept.run_getObj_map hb, MapKept.run_setObj_map _ hb, Result.andThen]
  · exact (MapKept.heap_set hb).1
  · exact (MapKept.heap_set hb).2 k (fun e => hne (by rw [e]))
end Go.Proofs.Ytblmifbpoopbdaa
