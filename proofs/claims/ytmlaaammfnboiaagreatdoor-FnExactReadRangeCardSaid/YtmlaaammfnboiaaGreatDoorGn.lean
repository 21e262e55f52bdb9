/- A map from pairs of numbers to nodes: what a look-up, a store and a clearing do. No condition but that the numbers are small. What the finder holds in memory; the contract of longer. No condition but that what is known is valid. The byte of a string at an index. No condition. The finder in memory; the contract of longest. No condition but that what is known is valid. The contract of longest. No condition but that what is known is valid, and that the first byte is a literal. The contract of keep. No condition but that the node is there. What one more pair does to the finder's tables and map. No condition but that the pairs are good. The contract of add. No condition but that what is known is valid. -/
import Derived.Test.YtmlaaammfnboiaaGreatDoorSigns
import Derived.Test.YtmlaaammfnboiaaGreatDoorGm
import Derived.Test.YtmlaaammfnboiaaGreatDoorBa
import Derived.Maps.Own
import Derived.Maps.Views
import Derived.DeepKeys4
import Derived.MapFrom
import Derived.Test.YtmlaaammfnboiaaGreatDoorBb
import Derived.Test.YtmlaaammfnboiaaGreatDoorBf
import Derived.Test.YtmlaaammfnboiaaGreatDoorBg
import Derived.Test.YtmlaaammfnboiaaGreatDoorGo
import Derived.LaidEqlPtr
import Derived.Test.YtmlaaammfnboiaaGreatDoorBh
namespace Go.Proofs.YtmlaaammfnboiaaGreatDoor
section
open Go.ChangeShapes Go.WideShapes Go.ChangeAt Go.RowKit Go.Joins
set_option linter.unusedVariables false

theorem pair_law : WideMaps.KeyLaw Tryz.prog 175 := deep_law_laid laid_out (m := 2) (by omega) (of_decide_eq_true (by kernel_rfl)) (by kernel_rfl) (by rw [Tryz.underlying175])
theorem pair_keyed : Maps.Keyed Tryz.prog 175 := Maps.Keyed.of_law pair_law
def pv2 (r : Nat) (x : Int) : Value := .agg #[.int .i64 r, .int .i64 x]
theorem pair_key (r : Nat) (x : Int) (hr : r ≤ 100000) (hx : 0 ≤ x ∧ x ≤ 255) : ∃ l, keyOf Tryz.prog 175 (pv2 r x) = some l := by
 have h1 : Tryz.prog.keyType 175 = true := by kernel_rfl
 have hc : Tryz.prog.cellsOf 175 = 2 := by kernel_rfl
 have hc1 : Tryz.prog.cellsOf 3 = 1 := by kernel_rfl
 have h2 : (pv2 r x).formed Tryz.prog 175 = true := by simp [pv2, Value.formed, Tryz.underlying175, hc]
 have w1 : (Lit.int .i64 (r : Int)).wf = true := by simp [Lit.wf, IntKind.min, IntKind.max, IntKind.signed, IntKind.bits]; omega
 have w2 : (Lit.int .i64 x).wf = true := by simp [Lit.wf, IntKind.min, IntKind.max, IntKind.signed, IntKind.bits]; omega
 have h3 : Tryz.prog.keyLits (Tryz.prog.types.size + 1) 175 [.int .i64 r, .int .i64 x] = some [.int .i64 r, .int .i64 x] := by
  obtain ⟨n, hn⟩ : ∃ n, Tryz.prog.types.size = n + 1 := ⟨Tryz.prog.types.size - 1, by have : 0 < Tryz.prog.types.size := of_decide_eq_true (by kernel_rfl); omega⟩
  rw [hn]
  simp only [Program.keyLits, Tryz.underlying175]
  simp [hc, hc1, w1, w2]
 unfold keyOf
 rw [Tryz.underlying175]
 simp only [h1, h2, Bool.and_self, if_true]
 exact ⟨_, by rw [show (pv2 r x).cells.toList = [.int .i64 r, .int .i64 x] from rfl, h3]; rfl⟩
instance : Nonempty Lit := ⟨.nil⟩
noncomputable def kl (r : Nat) (x : Int) : Lit := Classical.epsilon fun l => keyOf Tryz.prog 175 (pv2 r x) = some l
theorem kl_key {r : Nat} {x : Int} (hr : r ≤ 100000) (hx : 0 ≤ x ∧ x ≤ 255) : keyOf Tryz.prog 175 (pv2 r x) = some (kl r x) := by
 exact Classical.epsilon_spec (pair_key r x hr hx)
theorem kl_inj {r r' : Nat} {x x' : Int} (hr : r ≤ 100000) (hx : 0 ≤ x ∧ x ≤ 255) (hr' : r' ≤ 100000) (hx' : 0 ≤ x' ∧ x' ≤ 255) (h : kl r x = kl r' x') : r = r' ∧ x = x' := by
 have h1 := kl_key hr hx
 have h2 := kl_key hr' hx'
 rw [← h] at h2
 have := pair_keyed.inj h1 h2
 simp [pv2] at this
 omega

theorem put_same {D : DataW Unit} (hi : Maps.IsMap D) {v : Value} {l : Lit} (h : keyOf Tryz.prog 175 v = some l) (d z : DataW Unit) : (D.put l d).atKey l z = d := Maps.atKey_put_same hi (pair_keyed.key h) d z

/-- a pointer as a datum: the number of its block -/
def encP : Option Nat → Int
 | none => -1
 | some b => b
def rdp (v : Value) : Option (DataW Unit × List MemPlace) := match v with
 | .pointer none => some (.lit (.int .i64 (-1)), [])
 | .pointer (some ⟨b, 0, none⟩) => some (.lit (.int .i64 b), [])
 | _ => none
theorem rdp_ptr (x : Option Nat) : rdp (ptr x) = some (.lit (.int .i64 (encP x)), []) := by cases x <;> rfl
theorem rdp_inv {v : Value} {x : Option Nat} {ps : List MemPlace} (h : rdp v = some (.lit (.int .i64 (encP x)), ps)) : v = ptr x := by
 unfold rdp at h
 split at h
 ·cases x with
  | none => rfl
  | some b => simp [encP] at h
 ·rename_i b
  cases x with
  | none => simp [encP] at h
  | some b' =>
   simp [encP] at h
   have : b = b' := by omega
   subst this; rfl
 ·cases h

/-- block bm is a map of at most n entries that leads from pairs to blocks as M says -/
def MapIs (w : World) (bm n : Nat) (M : Nat → Int → Option Nat) : Prop := ∃ D : DataW Unit, w.ownsMap Tryz.prog 175 rdp bm n D ∧ Maps.IsMap D ∧ ∀ (r : Nat) (x : Int), r ≤ 100000 → 0 ≤ x ∧ x ≤ 255 → D.atKey (kl r x) (.lit (.int .i64 (-1))) = .lit (.int .i64 (encP (M r x)))
theorem zero_node (w : World) : (zeroValue 140).run Tryz.prog w = .ok (.pointer none) w := by kernel_rfl
theorem MapIs.new (w : World) : MapIs (w.alloc (.map #[] 0)) w.heap.size 0 (fun _ _ => none) := ⟨.map [], World.ownsMap_made w _ _ _, Maps.isMap_empty, fun _ _ _ _ => rfl⟩
theorem MapIs.kept {w w' : World} {row : Option Nat} {bm n : Nat} {M : Nat → Int → Option Nat} (h : MapIs w bm n M) (hg : w.grownBy w' row) (hne : some bm ≠ row) : MapIs w' bm n M := by
 obtain ⟨D, ho, h2⟩ := h
 exact ⟨D, ho.kept hg hne, h2⟩
theorem MapIs.lt {w : World} {bm n : Nat} {M : Nat → Int → Option Nat} (h : MapIs w bm n M) : bm < w.heap.size := by
 obtain ⟨D, ho, _⟩ := h; exact ho.lt
theorem MapIs.same {w : World} {bm n : Nat} {M M' : Nat → Int → Option Nat} (h : MapIs w bm n M) (hM : ∀ (r : Nat) (x : Int), r ≤ 100000 → 0 ≤ x ∧ x ≤ 255 → M' r x = M r x) : MapIs w bm n M' := by
 obtain ⟨D, ho, hi, hat⟩ := h
 exact ⟨D, ho, hi, fun r x hr hx => by rw [hat r x hr hx, hM r x hr hx]⟩
/-- a look-up -/
theorem MapIs.look {w : World} {bm n : Nat} {M : Nat → Int → Option Nat} (h : MapIs w bm n M) {r : Nat} {x : Int} (hr : r ≤ 100000) (hx : 0 ≤ x ∧ x ≤ 255) : (Instr.lookup 110 (.map (some bm)) (.agg #[.int .i64 r, .int .i64 x]) false).run Tryz.prog w = .ok (ptr (M r x)) w := by
 obtain ⟨D, ho, hi, hat⟩ := h
 obtain ⟨v, ps, hrun, hv⟩ := ho.lookup pair_keyed Tryz.underlying110 (zero_node w) (rdp_ptr none) (kl_key hr hx)
 rw [show (Lit.int .i64 (encP none) : Lit) = .int .i64 (-1) from rfl, hat r x hr hx] at hv
 rw [← rdp_inv hv]
 exact hrun
/-- a store -/
theorem MapIs.store {w : World} {bm n : Nat} {M : Nat → Int → Option Nat} (h : MapIs w bm n M) (hn : n ≤ 1000000) {r : Nat} {x : Int} (hr : r ≤ 100000) (hx : 0 ≤ x ∧ x ≤ 255) (g : Nat) : ∃ w', (Instr.mapUpdate 110 (.map (some bm)) (.agg #[.int .i64 r, .int .i64 x]) (.pointer (some ⟨g, 0, none⟩))).run Tryz.prog w = .ok () w' ∧ MapIs w' bm (n + 1) (fun r' x' => if r' = r ∧ x' = x then some g else M r' x') ∧ w.grownBy w' (some bm) := by
 obtain ⟨D, ho, hi, hat⟩ := h
 obtain ⟨w', hrun, ho', hg⟩ := ho.update pair_keyed Tryz.underlying110 (by unfold maxLen; omega) (kl_key hr hx) (rdp_ptr (some g))
 refine ⟨w', hrun, ⟨D.put (kl r x) (.lit (.int .i64 (encP (some g)))), ho', hi.put _ _, fun r' x' hr' hx' => ?_⟩, hg⟩
 by_cases he : r' = r ∧ x' = x
 ·have e1 := put_same hi (kl_key hr hx) (.lit (.int .i64 (encP (some g)))) (.lit (.int .i64 (-1)))
  show (D.put (kl r x) (.lit (.int .i64 (encP (some g))))).atKey (kl r' x') (.lit (.int .i64 (-1))) = DataW.lit (.int .i64 (encP (if r' = r ∧ x' = x then some g else M r' x')))
  rw [if_pos he, he.1, he.2]
  exact e1
 ·rw [Maps.atKey_put_other (fun e => he (kl_inj hr' hx' hr hx e)), hat r' x' hr' hx']
  show DataW.lit (.int .i64 (encP (M r' x'))) = DataW.lit (.int .i64 (encP (if r' = r ∧ x' = x then some g else M r' x')))
  rw [if_neg he]
/-- a clearing -/
theorem MapIs.clear {w : World} {bm n : Nat} {M : Nat → Int → Option Nat} (h : MapIs w bm n M) : ∃ w', (∀ ty, (Builtin.clear_ #[ 110 ] ty #[.map (some bm)]).run Tryz.prog w = .ok (.tuple #[]) w') ∧ MapIs w' bm 0 (fun _ _ => none) ∧ w.grownBy w' (some bm) := by
 obtain ⟨D, ⟨es, clock, hb, F, hs, hD⟩, hi, hat⟩ := h
 refine ⟨{ w with heap := w.heap.setIfInBounds bm (.map #[] clock) }, fun ty => ?_, ⟨.map [], ⟨#[], clock, ?_, ⟨by simp, MapKept.stamped_empty clock, by simp⟩, by simp, rfl⟩, Maps.isMap_empty, fun _ _ _ _ => rfl⟩, ⟨rfl, rfl, rfl, by simp, fun k hk hne => ?_⟩⟩
 ·simp [Builtin.clear_, run_underlying Tryz.underlying110, MapKept.run_getObj_map hb, MapKept.run_setObj_map _ hb, Result.andThen]
 ·exact (MapKept.heap_set hb).1
 ·exact (MapKept.heap_set hb).2 k (fun e => hne (by rw [e]))
end

section
open Go.ChangeShapes Go.WideShapes Go.ChangeAt Go.RowKit Go.Joins
set_option linter.unusedVariables false

/-- nodes, tables and the map of the pairs Q, of which the first m are kept -/
structure Fd (L : Nat) (c : Int) (Q : List Pr) (m : Nat) (N : Nat → Nat) (Lo : Nat → Option Nat) (bm n : Nat) (wr : World) : Prop where
 node : ∀ r, Lst c Q r → Blk wr (N r) 144 #[.int .i64 r, ptr (Lo r)]
 ge : ∀ r, Lst c Q r → L ≤ N r
 arr : ∀ r g, Lst c Q r → Lo r = some g → L ≤ g ∧ ∃ cs : Array Value, Blk wr g 201 cs ∧ cs.size = 256 ∧ ∀ x : Nat, x ≤ 255 → cs[x]? = some (ptr (ndAt c (Q.take m) N (wd c Q r ++ [byt x])))
 bare : ∀ r, Lst c Q r → Lo r = none → ∀ x : Int, 0 ≤ x ∧ x ≤ 255 → fnd c (Q.take m) (wd c Q r ++ [byt x]) = none
 one : ∀ r r' g, Lst c Q r → Lst c Q r' → Lo r = some g → Lo r' = some g → r = r'
 mp : MapIs wr bm n (inMap c Q (Q.take m) N)
 mge : L ≤ bm
theorem MapIs.drew {w : World} {bm n : Nat} {M : Nat → Int → Option Nat} (h : MapIs w bm n M) : MapIs w.drew bm n M := h
theorem ptr_none : ptr none = .pointer none := rfl
theorem ptr_some (b : Nat) : ptr (some b) = .pointer (some ⟨b, 0, none⟩) := rfl
/-- a kept word is a word -/
theorem ndAt_kept {c : Int} {Q : List Pr} {m s : Nat} {N : Nat → Nat} {w : List UInt8} (h : fnd c (Q.take m) w = some s) : ndAt c Q N w = some (N s) ∧ ndAt c (Q.take m) N w = some (N s) := by
 have := fnd_more (Q.drop m) h
 rw [List.take_append_drop] at this
 exact ⟨by rw [ndAt, this]; rfl, by rw [ndAt, h]; rfl⟩

set_option maxHeartbeats 1000000 in
theorem c_longer (L fb bm n m : Nat) (c : Int) (Q : List Pr) (N : Nat → Nat) (Lo : Nat → Option Nat) (w : World) (h : Fd L c Q m N Lo bm n w) (hf : w.cell? ⟨fb, 7, none⟩ = some (.map (some bm))) (r : Nat) (hr : Lst c Q r) (hrl : r ≤ 100000) (x : Nat) (hx : x ≤ 255) :
  Calls Tryz.prog 136 #[.pointer (some ⟨fb, 0, none⟩), .pointer (some ⟨N r, 0, none⟩), .int .i64 (x : Int)] w fun e w' => e = .returned (ptr (ndAt c Q N (wd c Q r ++ [byt x]))) ∧ Below w.heap.size w w' := by
 have hb := h.node r hr
 obtain ⟨p0, p1⟩ := hb.cells2
 have hlk := h.mp.drew.look hrl (show 0 ≤ (x : Int) ∧ (x : Int) ≤ 255 by omega)
 have hin : fnd c (Q.take m) (wd c Q r ++ [byt x]) = none → inMap c Q (Q.take m) N r x = ndAt c Q N (wd c Q r ++ [byt x]) := fun h0 => by rw [inMap, if_pos ⟨hr, h0⟩]
 obtain ⟨b, hbN⟩ : ∃ b, b = N r := ⟨_, rfl⟩
 rw [← hbN] at p0 p1 ⊢
 have hin := hid hin
 cases hl : Lo r with
 | none =>
  have hb0 := h.bare r hr hl x (by omega)
  rw [hin.out hb0] at hlk
  rw [hl, ptr_none] at p1
  obtain ⟨R, hR⟩ : ∃ R, R = ptr (ndAt c Q N (wd c Q r ++ [byt x])) := ⟨_, rfl⟩
  rw [← hR] at hlk ⊢
  clear hR h hb hb0 hbN hl hin hr
  go_enter Tryz.func136, Tryz.ntmps136
  go_wp2_with fail
  go_region
  all_goals
   go_wp2
   go_ret
   exact ⟨rfl, by exact obB⟩
 | some g =>
  obtain ⟨_, cs, hg, hgs, hgc⟩ := h.arr r g hr hl
  have hcell := hg.cell x
  rw [hgc x hx] at hcell
  rw [hl, ptr_some] at p1
  cases hk : fnd c (Q.take m) (wd c Q r ++ [byt x]) with
  | some s =>
   obtain ⟨e1, e2⟩ := ndAt_kept (N := N) hk
   rw [e2, ptr_some] at hcell
   rw [e1, ptr_some]
   clear hlk hgc h hb hg hbN hl hin hr hk e1 e2
   go_enter Tryz.func136, Tryz.ntmps136
   go_wp2
   go_ret
   exact ⟨rfl, by exact obB⟩
  | none =>
   rw [ndAt, hk] at hcell
   rw [hin.out hk] at hlk
   have hcell2 : w.cell? ⟨g, x, none⟩ = some (.pointer none) := hcell
   obtain ⟨R, hR⟩ : ∃ R, R = ptr (ndAt c Q N (wd c Q r ++ [byt x])) := ⟨_, rfl⟩
   rw [← hR] at hlk ⊢
   clear hR hgc h hb hg hbN hl hin hr hk hcell
   go_enter Tryz.func136, Tryz.ntmps136
   go_wp2_with fail
   go_region
   all_goals
    go_wp2
    go_ret
    exact ⟨rfl, by exact obB⟩
end

section
open Go.ChangeShapes Go.WideShapes Go.ChangeAt Go.RowKit Go.Joins
set_option linter.unusedVariables false

theorem idx_str {P : Program} {t : TypeId} (ht : P.underlying t = some .string) (s : ByteArray) (n : Nat) (h : n < s.size) (k : IntKind) (X : Int) (hX : X = (n : Int)) (w : World) :
  (Instr.index t (.string s) (.int k X)).run P w = .ok (.int .u8 ((s[n]).toNat : Int)) w := by
 subst hX
 have e := run_index_string (P := P) (w := w) t s k (n : Int) ht
 rw [dif_pos (by omega)] at e
 exact e
end

section
open Go.ChangeShapes Go.WideShapes Go.ChangeAt Go.RowKit Go.Joins
set_option linter.unusedVariables false

/-- the finder in block fb: what is known, the nodes by code, tables and the map, of the pairs Q -/
structure FQ (L fb : Nat) (k : Kn) (A : Option Addr) (cap nb cap2 : Nat) (Q : List Pr) (N : Nat → Nat) (Lo : Nat → Option Nat) (bm n : Nat) (wr : World) : Prop where
 bx : Blk wr fb 112 #[.int .i64 k.o, .int .i64 k.l, .int .i64 k.m, .slice A k.ps.length cap, .int .i64 k.base, .int .i64 k.last, .slice (some ⟨nb, 0, none⟩) (top k.c Q) cap2, .map (some bm)]
 row : wr.ownsRow L 175 2 (.slice A k.ps.length cap) k.ps.length (prs k.ps)
 nds : wr.ownsRow L 140 1 (.slice (some ⟨nb, 0, none⟩) (top k.c Q) cap2) (top k.c Q) (nodesL k.c Q N)
 fd : Fd L k.c Q k.base.toNat N Lo bm n wr
 lb : L ≤ fb
theorem Blk.cells8 {w : World} {g : Nat} {t : TypeId} {a b c d e f x y : Value} (h : Blk w g t #[a, b, c, d, e, f, x, y]) : w.cell? ⟨g, 0, none⟩ = some a ∧ w.cell? ⟨g, 1, none⟩ = some b ∧ w.cell? ⟨g, 2, none⟩ = some c ∧ w.cell? ⟨g, 3, none⟩ = some d ∧ w.cell? ⟨g, 4, none⟩ = some e ∧ w.cell? ⟨g, 5, none⟩ = some f ∧ w.cell? ⟨g, 6, none⟩ = some x ∧ w.cell? ⟨g, 7, none⟩ = some y := ⟨h.cell 0, h.cell 1, h.cell 2, h.cell 3, h.cell 4, h.cell 5, h.cell 6, h.cell 7⟩
theorem own_at1 {w : World} {B : Nat} {e : TypeId} {G n cap : Nat} {xs : List Value} (h : w.ownsRow B e 1 (.slice (some ⟨G, 0, none⟩) n cap) n xs) (k : Nat) (v : Value) (hk : xs[k]? = some v) : w.cell? ⟨G, k, none⟩ = some v := by
 obtain ⟨hl, ⟨h1, _⟩ | ⟨g, cap', cur, e1, hB, hh, hn, hm, hs, ht⟩⟩ := h
 ·simp at h1
 ·simp at e1
  obtain ⟨rfl, rfl⟩ := e1
  rw [cell_of_row w G k cur e (0, 0) hh]
  rw [← ht, List.getElem?_take] at hk
  split at hk
  ·simpa using hk
  ·cases hk
theorem Fd.on {L : Nat} {c : Int} {Q : List Pr} {m : Nat} {N : Nat → Nat} {Lo : Nat → Option Nat} {bm n : Nat} {wr w' : World} (h : Fd L c Q m N Lo bm n wr) (hb : Below wr.heap.size wr w') : Fd L c Q m N Lo bm n w' :=
 ⟨fun r hr => (h.node r hr).on hb, h.ge, fun r g hr hl => by
  obtain ⟨h1, cs, h2, h3⟩ := h.arr r g hr hl
  exact ⟨h1, cs, h2.on hb, h3⟩, h.bare, h.one, h.mp.kept (grown_below none hb) (by simp), h.mge⟩
theorem node_info : ∃ j, Tryz.prog.info? 144 = some j ∧ j.size ≠ 0 := by
 have h : (Tryz.prog.info? 144).map (·.size) = some 2 := by kernel_rfl
 cases hi : Tryz.prog.info? 144 with
 | none => rw [hi] at h; cases h
 | some j => rw [hi] at h; simp at h; exact ⟨j, rfl, by omega⟩
section
variable {L fb : Nat} {k : Kn} {A : Option Addr} {cap nb cap2 : Nat} {Q : List Pr} {N : Nat → Nat} {Lo : Nat → Option Nat} {bm n : Nat} {wr w' : World}

theorem FQ.on (h : FQ L fb k A cap nb cap2 Q N Lo bm n wr) (hb : Below wr.heap.size wr w') : FQ L fb k A cap nb cap2 Q N Lo bm n w' :=
 ⟨h.bx.on hb, own_on h.row hb, own_on h.nds hb, h.fd.on hb, h.lb⟩
theorem FQ.kat (h : FQ L fb k A cap nb cap2 Q N Lo bm n wr) : KAt wr fb k (.slice A k.ps.length cap) := by
 obtain ⟨p0, p1, p2, p3, p4, p5, _⟩ := h.bx.cells8
 exact ⟨h.bx.lt, p0, p1, p2, p3, p4, p5⟩
theorem FQ.at_ (h : FQ L fb k A cap nb cap2 Q N Lo bm n wr) {j : Nat} (hj : j < top k.c Q) : wr.cell? ⟨nb, j, none⟩ = some (nodeAt k.c Q N j) := own_at1 h.nds j _ (nodesL_get hj N)
/-- the node of a code -/
theorem FQ.code (h : FQ L fb k A cap nb cap2 Q N Lo bm n wr) (hc : 0 ≤ k.c) {code : Int} (hw : HasW k.c code Q.length) : ∃ r, fnd k.c Q (wd k.c Q code) = some r ∧ Lst k.c Q r ∧ (r : Int) ≤ code ∧ wr.cell? ⟨nb, code.toNat, none⟩ = some (.pointer (some ⟨N r, 0, none⟩)) ∧ code.toNat < top k.c Q ∧ 0 ≤ code := by
 obtain ⟨r, h1, h2, h3, h4⟩ := ndAt_has hc hw N
 have h0 : 0 ≤ code := by unfold HasW at hw; omega
 have ht : code.toNat < top k.c Q := by unfold HasW at hw; unfold top; omega
 have e : ((code.toNat : Nat) : Int) = code := by omega
 refine ⟨r, h1, h2, h4, ?_, ht, h0⟩
 rw [h.at_ ht, nodeAt_has (by rw [e]; exact hw), e, h3]; rfl
/-- nodes of least codes are equal only if the codes are -/
theorem Fd.eql {c : Int} {m : Nat} (h : Fd L c Q m N Lo bm n wr) {r s : Nat} (hr : Lst c Q r) (hs : Lst c Q s) (w : World) (hb : Below wr.heap.size wr w) : (binOp .eql 140 (.pointer (some ⟨N r, 0, none⟩)) (.pointer (some ⟨N s, 0, none⟩))).run Tryz.prog w = .ok (.bool (decide (r = s))) w := by
 have h1 := (h.node r hr).on hb
 have h2 := (h.node s hs).on hb
 obtain ⟨j, hj, hjs⟩ := node_info
 by_cases he : r = s
 ·subst he
  rw [run_eql_ptr_same w _ Tryz.underlying140 hj]
  simp
 ·have hne : (⟨N r, 0, none⟩ : Addr) ≠ ⟨N s, 0, none⟩ := by
   intro e
   have e1 : N r = N s := by simpa using e
   have c1 := h1.cell 0
   have c2 := h2.cell 0
   rw [e1, c2] at c1
   simp at c1
   omega
  rw [run_eql_ptr_other w Tryz.underlying140 hj hjs hne h1 h2]
  simp [he]
end
end

section
open Go.ChangeShapes Go.WideShapes Go.ChangeAt Go.RowKit Go.Joins
set_option linter.unusedVariables false

theorem dat_at (D : ByteArray) (i : Nat) (h : i < D.size) : D.data.toList[i]? = some D[i] := by
 rw [List.getElem?_eq_getElem (by simpa using h)]; rfl
theorem FQ.t2 {L fb : Nat} {k : Kn} {A : Option Addr} {cap nb cap2 : Nat} {Q : List Pr} {N : Nat → Nat} {Lo : Nat → Option Nat} {bm n : Nat} {wr : World} (h : FQ L fb k A cap nb cap2 Q N Lo bm n wr) : wr.cell? ⟨fb, 5, none⟩ = some (.int .i64 k.last) ∧ wr.cell? ⟨fb, 6, none⟩ = some (.slice (some ⟨nb, 0, none⟩) (top k.c Q) cap2) ∧ True := by
 obtain ⟨_, _, _, _, _, p5, p6, _⟩ := h.bx.cells8
 exact ⟨p5, p6, trivial⟩
theorem FQ.t3 {L fb : Nat} {k : Kn} {A : Option Addr} {cap nb cap2 : Nat} {Q : List Pr} {N : Nat → Nat} {Lo : Nat → Option Nat} {bm n : Nat} {wr : World} (h : FQ L fb k A cap nb cap2 Q N Lo bm n wr) {j rl : Nat} (hj : k.last = (j : Int)) (hc : 0 ≤ k.c) (hw : HasW k.c j Q.length) (hr : fnd k.c Q (wd k.c Q j) = some rl) : wr.cell? ⟨fb, 5, none⟩ = some (.int .i64 (j : Int)) ∧ wr.cell? ⟨fb, 6, none⟩ = some (.slice (some ⟨nb, 0, none⟩) (top k.c Q) cap2) ∧ wr.cell? ⟨nb, j, none⟩ = some (.pointer (some ⟨N rl, 0, none⟩)) ∧ True := by
 obtain ⟨_, _, _, _, _, p5, p6, _⟩ := h.bx.cells8
 obtain ⟨r, h1, _, _, h4, _⟩ := h.code hc hw
 rw [hr] at h1
 obtain rfl := Option.some.inj h1
 rw [hj] at p5
 exact ⟨p5, p6, by simpa using h4, trivial⟩

theorem FQ.s3 {L fb : Nat} {k : Kn} {A : Option Addr} {cap nb cap2 : Nat} {Q : List Pr} {N : Nat → Nat} {Lo : Nat → Option Nat} {bm n : Nat} {wr w0 : World} (h : FQ L fb k A cap nb cap2 Q N Lo bm n wr) {j rl : Nat} (hj : k.last = (j : Int)) (hc : 0 ≤ k.c) (hw : HasW k.c j Q.length) (hr : fnd k.c Q (wd k.c Q j) = some rl) (hb : Below w0.heap.size w0 wr) : wr.cell? ⟨fb, 5, none⟩ = some (.int .i64 (j : Int)) ∧ wr.cell? ⟨fb, 6, none⟩ = some (.slice (some ⟨nb, 0, none⟩) (top k.c Q) cap2) ∧ wr.cell? ⟨nb, j, none⟩ = some (.pointer (some ⟨N rl, 0, none⟩)) ∧ Below w0.heap.size w0 wr := by
 obtain ⟨h1, h2, h3, _⟩ := h.t3 hj hc hw hr
 exact ⟨h1, h2, h3, hb⟩

set_option maxHeartbeats 4000000 in
set_option maxRecDepth 100000 in
theorem c_longest (L fb : Nat) (k : Kn) (A : Option Addr) (cap nb cap2 : Nat) (N : Nat → Nat) (Lo : Nat → Option Nat) (bm n : Nat) (D : ByteArray) (w : World) (hk : k.Ok) (h : FQ L fb k A cap nb cap2 k.ps N Lo bm n w) (h0 : 0 < D.size) (hs : D.size ≤ 1048576) (hl : ((D[0]).toNat : Int) < k.c) :
  Calls Tryz.prog 92 #[.pointer (some ⟨fb, 0, none⟩), .string D] w fun e w' => e = .returned (.tuple #[.int .i64 (k.find (D.data.toList.take (k.lng D.data.toList))), .int .i64 (k.lng D.data.toList : Nat)]) ∧ Below w.heap.size w w' := by
 have hcb := hk.cbd
 have H := hid h
 have HK := hid hk
 obtain ⟨c0, hc0⟩ : ∃ c0 : Nat, c0 = (D[0]).toNat := ⟨_, rfl⟩
 have hx0 := idx_str (P := Tryz.prog) Tryz.underlying9 D 0 h0 .i64 0 rfl
 rw [← hc0] at hx0 hl
 obtain ⟨p0, p1, p2, p3, p4, p5, p6, p7⟩ := h.bx.cells8
 have hw0 : HasW k.c (c0 : Int) k.ps.length := .inl ⟨by omega, hl⟩
 obtain ⟨r0, hr0, hl0, _, hq0, hj0, _⟩ := h.code (by omega) hw0
 have HR0 := hid (show fnd k.c k.ps (D.data.toList.take 1) = some r0 by
  have e : D.data.toList.take 1 = [D[0]] := take_snoc D 0 h0
  rw [word_lit _ _ _ (by omega)] at hr0
  rw [e, ← hr0]
  congr 1
  rw [show byt (c0 : Int) = D[0] from by rw [hc0]; simp [byt]])
 rw [Int.toNat_natCast] at hq0 hj0
 have hj0' : (c0 : Int) < (top k.c k.ps : Nat) := by omega
 obtain ⟨TP, hTP⟩ : ∃ TP, TP = top k.c k.ps := ⟨_, rfl⟩
 rw [← hTP] at p6 hj0'
 have HC0 := hid hc0
 clear hr0 hl0 h hk hcb hc0 hw0 hl hj0
 go_enter Tryz.func92, Tryz.ntmps92
 go_wp2_with fail
 go_region
 clear p0 p1 p2 p3 p4 p5 p6 p7 hq0
 go_wp2_with fail
 go_loopw [6, 7] (fun v i wr => ∃ (s r : Nat), i = .int .i64 (s : Int) ∧ v = .pointer (some ⟨N r, 0, none⟩) ∧ 1 ≤ s ∧ s ≤ D.size ∧ Hid (fnd k.c k.ps (D.data.toList.take s) = some r) ∧ Below w.heap.size w wr) (fun _ i _ => (D.size + 1 - (intOf i).toNat))
 case atStart => exact ⟨1, r0, rfl, rfl, by omega, by omega, HR0, by exact obB⟩
 case round =>
  obtain ⟨s, r, rfl, rfl, hs1, hs2, HR, hbel⟩ := hrel
  have HB := hid hbel
  have HL := hid (fnd_lst HR.out)
  have HF := hid (H.out.on hbel)
  have hrl : r ≤ 100000 := by have := HL.out.ltn HK.out.c0; have := HK.out.len; have := HK.out.cbd; omega
  obtain ⟨n0, n1⟩ := (HF.out.fd.node r HL.out).cells2
  by_cases hlt : s < D.size
  ·skip
   have hxs := idx_str (P := Tryz.prog) Tryz.underlying9 D s hlt .i64 (s : Int) rfl
   obtain ⟨cs, hcs⟩ : ∃ cs : Nat, cs = (D[s]).toNat := ⟨_, rfl⟩
   have hcl : cs ≤ 255 := by have := (D[s]).toNat_lt; omega
   rw [← hcs] at hxs
   have HW := hid (show wd k.c k.ps r ++ [byt (cs : Int)] = D.data.toList.take (s + 1) by
    rw [(fnd_some HR.out).2.1, take_snoc D s hlt, hcs]; simp [byt])
   obtain ⟨R, hR⟩ : ∃ R, R = ndAt k.c k.ps N (D.data.toList.take (s + 1)) := ⟨_, rfl⟩
   have HL2 := hid (show Calls Tryz.prog 136 #[.pointer (some ⟨fb, 0, none⟩), .pointer (some ⟨N r, 0, none⟩), .int .i64 (cs : Int)] wr fun e w' => e = .returned (ptr R) ∧ Below wr.heap.size wr w' by
    have := c_longer L fb bm n k.base.toNat k.c k.ps N Lo wr HF.out.fd (HF.out.bx.cell 7) r HL.out hrl cs hcl
    rw [HW.out, ← hR] at this
    exact this)
   have HRR := hid hR
   have HCS := hid hcs
   clear hR hcs hbel
   go_wp2_with fail
   refine HL2.out.mono ?_
   rintro e w2 ⟨rfl, hb2⟩
   have b2 := bel_trans HB.out hb2
   replace HF := hid (HF.out.on hb2)
   clear hb2 HL2 HB n0 n1
   obtain ⟨n0, n1⟩ := (HF.out.fd.node r HL.out).cells2
   obtain ⟨p0, p1, p2, p3, p4, p5, p6, p7⟩ := HF.out.bx.cells8
   cases hf : fnd k.c k.ps (D.data.toList.take (s + 1)) with
   | some r' =>
    have e1 : R = some (N r') := by rw [HRR.out, ndAt, hf]; rfl
    subst e1
    rw [ptr_some]
    have HR2 := hid hf
    clear hf HRR HW p0 p1 p2 p3 p4 p5 p6 p7
    go_wp2
    go_roundw
    case rel => exact ⟨s + 1, r', by go_num, rfl, by omega, by omega, HR2, b2⟩
    case measure => simp [intOf]; omega
   | none =>
    have e1 : R = none := by rw [HRR.out, ndAt, hf]; rfl
    subst e1
    rw [ptr_none]
    have HN := hid hf
    clear hf HRR HW
    by_cases hg : k.grows = true
    ·skip
     have hwl := HK.out.lastW hg
     obtain ⟨j, hj⟩ : ∃ j : Nat, k.last = (j : Int) := ⟨k.last.toNat, by unfold HasW at hwl; have := HK.out.cbd; omega⟩
     have HJ := hid hj
     rw [hj] at hwl
     have HWL := hid hwl
     obtain ⟨rl, hrl2, hLl, _, _, hjt, _⟩ := HF.out.code HK.out.c0 hwl
     have hjT : (j : Int) < (top k.c k.ps : Nat) := by simpa using hjt
     have HRL := hid hrl2
     have HLL := hid hLl
     have hjn : j < top k.c k.ps := by omega
     have HG := hid (fun (v : World) (hv : FQ L fb k A cap nb cap2 k.ps N Lo bm n v) => c_grows fb k A cap v HK.out hv.kat)
     rw [hg] at HG
     have HGr := hid hg
     clear hg hwl hj hrl2 hLl hjt
     by_cases hrr : r = rl
     ·skip
      subst hrr
      by_cases hcc : cs = c0
      ·skip
       have eb : ((cs : Int) == (c0 : Int)) = true := eq_yes (by omega)
       have HNx := hid (fun (v : World) (hv : FQ L fb k A cap nb cap2 k.ps N Lo bm n v) => c_nextWord fb k A cap v HK.out hv.kat)
       have HE := hid (HK.out.stop_next hs1 (by rw [len_toList]; exact hlt) HR.out HN.out HGr.out (by have := HRL.out; rw [← HJ.out] at this; exact this) (by
        rw [dat_at D s hlt, dat_at D 0 h0]
        congr 1
        apply UInt8.toNat_inj.1
        rw [← HCS.out, ← HC0.out, hcc]))
       obtain ⟨X, hX⟩ : ∃ X, X = k.next := ⟨_, rfl⟩
       rw [← hX] at HNx HE
       clear hcc hX
       have hpe := fun (v : World) (hb : Below w2.heap.size w2 v) => HF.out.fd.eql HL.out HLL.out v hb
       simp only [decide_true] at hpe
       have hS := HF.out.s3 HJ.out HK.out.c0 HWL.out HRL.out (Below.refl w2.heap.size w2)
       go_wp2_with fail
       replace HF := hid (HF.out.on (bel_drew (Below.refl w2.heap.size w2)))
       replace b2 := bel_drew b2
       refine wp_region_noPanic ?_
       refine wp_region_held_drew (S := (fun v => v.cell? ⟨fb, 5, none⟩ = some (.int .i64 (j : Int)) ∧ v.cell? ⟨fb, 6, none⟩ = some (.slice (some ⟨nb, 0, none⟩) (top k.c k.ps) cap2) ∧ v.cell? ⟨nb, j, none⟩ = some (.pointer (some ⟨N r, 0, none⟩)) ∧ Below w2.heap.size w2 v)) (by kernel_rfl) (s3_drew hS) (fun hHeld => ?_)
       refine tk 0 ?_
       refine tk 1 ?_
       refine tk 2 ?_
       refine wpAnyH_ready (rs := [3]) (by kernel_rfl) (by simp) ?_
       refine AllReadyH.cons (o := ?or1_3) ?ir1_3 (fun K hK => ?sr1_3) AllReadyH.nil
       case ir1_3 => (simp only [List.getElem?_toArray, List.getElem?_cons_succ, List.getElem?_cons_zero]; rfl)
       (first | (go_simp; (first | (go_at_call 91; refine (HG.out _ HF.out).mono ?_; rintro e wQ ⟨rfl, hbQ⟩; have hbQ0 := hbQ; replace HF := hid (HF.out.on hbQ); replace b2 := bel_trans b2 hbQ; clear hbQ; have hB2 := bel_trans (bel_drew (Below.refl w2.heap.size w2)) hbQ0) | skip)))
       refine hK.out _ _ ?kr1_3 (fun hHeld => ?_)
       case kr1_3 => (try dsimp only); (first | with_reducible assumption | with_reducible exact HF.out.s3 HJ.out HK.out.c0 HWL.out HRL.out hB2 | exact s3_bel (by assumption) (by assumption) | assumption | exact s3_alloc (by assumption) _ | exact HF.out.s3 HJ.out HK.out.c0 HWL.out HRL.out hB2)
       clear hK K
       try simp only [Act.put, List.setIfInBounds_toArray, List.set_cons_zero, List.set_cons_succ]
       refine tk 4 ?_
       refine tk 5 ?_
       refine tk 6 ?_
       refine tk 7 ?_
       refine tk 8 ?_
       refine tk 9 ?_
       refine tk 10 ?_
       refine tk 11 ?_
       refine tk 12 ?_
       refine tk 13 ?_
       refine tk 14 ?_
       refine tk 15 ?_
       refine tk 16 ?_
       refine tk 17 ?_
       refine tk 18 ?_
       refine tk 19 ?_
       refine tk 20 ?_
       refine tk 21 ?_
       refine tk 22 ?_
       refine tk 23 ?_
       refine tk 24 ?_
       refine tk 25 ?_
       refine tk 26 ?_
       refine wpAnyH_done (by kernel_rfl) ?_ _
       refine NoPanic.normal ?_
       clear hS p0 p1 p2 p3 p4 p5 p6 p7 n0 n1
       (try clear hHeld)
       obtain ⟨n0, n1⟩ := (HF.out.fd.node r HL.out).cells2
       go_wp2_with fail
       refine (HNx.out _ HF.out).mono ?_
       rintro e w4 ⟨rfl, hb4⟩
       replace b2 := bel_trans b2 hb4
       go_wp2
       go_ret2
       exact ⟨by rw [HE.out.1, HE.out.2]; rfl, b2⟩
      ·skip
       have eb : ((cs : Int) == (c0 : Int)) = false := eq_no (by omega)
       have HNo := hid (show ¬ (k.grows = true ∧ fnd k.c k.ps (k.word k.last) = some r ∧ D.data.toList[s]? = D.data.toList[0]?) by
        rintro ⟨_, _, e⟩
        rw [dat_at D s hlt, dat_at D 0 h0] at e
        have e2 := Option.some.inj e
        apply hcc
        rw [HCS.out, HC0.out, e2])
       clear hcc
       have hpe := fun (v : World) (hb : Below w2.heap.size w2 v) => HF.out.fd.eql HL.out HLL.out v hb
       simp only [decide_true] at hpe
       have hS := HF.out.s3 HJ.out HK.out.c0 HWL.out HRL.out (Below.refl w2.heap.size w2)
       go_wp2_with fail
       replace HF := hid (HF.out.on (bel_drew (Below.refl w2.heap.size w2)))
       replace b2 := bel_drew b2
       refine wp_region_noPanic ?_
       refine wp_region_held_drew (S := (fun v => v.cell? ⟨fb, 5, none⟩ = some (.int .i64 (j : Int)) ∧ v.cell? ⟨fb, 6, none⟩ = some (.slice (some ⟨nb, 0, none⟩) (top k.c k.ps) cap2) ∧ v.cell? ⟨nb, j, none⟩ = some (.pointer (some ⟨N r, 0, none⟩)) ∧ Below w2.heap.size w2 v)) (by kernel_rfl) (s3_drew hS) (fun hHeld => ?_)
       refine tk 0 ?_
       refine tk 1 ?_
       refine tk 2 ?_
       refine wpAnyH_ready (rs := [3]) (by kernel_rfl) (by simp) ?_
       refine AllReadyH.cons (o := ?or2_3) ?ir2_3 (fun K hK => ?sr2_3) AllReadyH.nil
       case ir2_3 => (simp only [List.getElem?_toArray, List.getElem?_cons_succ, List.getElem?_cons_zero]; rfl)
       (first | (go_simp; (first | (go_at_call 91; refine (HG.out _ HF.out).mono ?_; rintro e wQ ⟨rfl, hbQ⟩; have hbQ0 := hbQ; replace HF := hid (HF.out.on hbQ); replace b2 := bel_trans b2 hbQ; clear hbQ; have hB2 := bel_trans (bel_drew (Below.refl w2.heap.size w2)) hbQ0) | skip)))
       refine hK.out _ _ ?kr2_3 (fun hHeld => ?_)
       case kr2_3 => (try dsimp only); (first | with_reducible assumption | with_reducible exact HF.out.s3 HJ.out HK.out.c0 HWL.out HRL.out hB2 | exact s3_bel (by assumption) (by assumption) | assumption | exact s3_alloc (by assumption) _ | exact HF.out.s3 HJ.out HK.out.c0 HWL.out HRL.out hB2)
       clear hK K
       try simp only [Act.put, List.setIfInBounds_toArray, List.set_cons_zero, List.set_cons_succ]
       refine tk 4 ?_
       refine tk 5 ?_
       refine tk 6 ?_
       refine tk 7 ?_
       refine tk 8 ?_
       refine tk 9 ?_
       refine tk 10 ?_
       refine tk 11 ?_
       refine tk 12 ?_
       refine tk 13 ?_
       refine tk 14 ?_
       refine tk 15 ?_
       refine tk 16 ?_
       refine tk 17 ?_
       refine tk 18 ?_
       refine tk 19 ?_
       refine tk 20 ?_
       refine tk 21 ?_
       refine tk 22 ?_
       refine tk 23 ?_
       refine tk 24 ?_
       refine tk 25 ?_
       refine tk 26 ?_
       refine wpAnyH_done (by kernel_rfl) ?_ _
       refine NoPanic.normal ?_
       clear hS p0 p1 p2 p3 p4 p5 p6 p7 n0 n1
       (try clear hHeld)
       obtain ⟨n0, n1⟩ := (HF.out.fd.node r HL.out).cells2
       have HE := hid (HK.out.stop_here hs1 (by rw [len_toList]; exact hlt) HR.out HN.out (HNo.out))
       go_wp2
       go_ret2
       exact ⟨by rw [HE.out.1, HE.out.2]; rfl, b2⟩
     ·skip
      have HNo := hid (show ¬ (k.grows = true ∧ fnd k.c k.ps (k.word k.last) = some r ∧ D.data.toList[s]? = D.data.toList[0]?) by
       rintro ⟨_, e, _⟩
       have := HRL.out
       rw [← HJ.out] at this
       have e2 := e.symm.trans this
       exact hrr (Option.some.inj e2))
      have hdr : decide (r = rl) = false := decide_eq_false hrr
      clear hrr
      have hpe := fun (v : World) (hb : Below w2.heap.size w2 v) => HF.out.fd.eql HL.out HLL.out v hb
      simp only [hdr] at hpe
      have hS := HF.out.s3 HJ.out HK.out.c0 HWL.out HRL.out (Below.refl w2.heap.size w2)
      go_wp2_with fail
      replace HF := hid (HF.out.on (bel_drew (Below.refl w2.heap.size w2)))
      replace b2 := bel_drew b2
      refine wp_region_noPanic ?_
      refine wp_region_held_drew (S := (fun v => v.cell? ⟨fb, 5, none⟩ = some (.int .i64 (j : Int)) ∧ v.cell? ⟨fb, 6, none⟩ = some (.slice (some ⟨nb, 0, none⟩) (top k.c k.ps) cap2) ∧ v.cell? ⟨nb, j, none⟩ = some (.pointer (some ⟨N rl, 0, none⟩)) ∧ Below w2.heap.size w2 v)) (by kernel_rfl) (s3_drew hS) (fun hHeld => ?_)
      refine tk 0 ?_
      refine tk 1 ?_
      refine tk 2 ?_
      refine wpAnyH_ready (rs := [3]) (by kernel_rfl) (by simp) ?_
      refine AllReadyH.cons (o := ?or3_3) ?ir3_3 (fun K hK => ?sr3_3) AllReadyH.nil
      case ir3_3 => (simp only [List.getElem?_toArray, List.getElem?_cons_succ, List.getElem?_cons_zero]; rfl)
      (first | (go_simp; (first | (go_at_call 91; refine (HG.out _ HF.out).mono ?_; rintro e wQ ⟨rfl, hbQ⟩; have hbQ0 := hbQ; replace HF := hid (HF.out.on hbQ); replace b2 := bel_trans b2 hbQ; clear hbQ; have hB2 := bel_trans (bel_drew (Below.refl w2.heap.size w2)) hbQ0) | skip)))
      refine hK.out _ _ ?kr3_3 (fun hHeld => ?_)
      case kr3_3 => (try dsimp only); (first | with_reducible assumption | with_reducible exact HF.out.s3 HJ.out HK.out.c0 HWL.out HRL.out hB2 | exact s3_bel (by assumption) (by assumption) | assumption | exact s3_alloc (by assumption) _ | exact HF.out.s3 HJ.out HK.out.c0 HWL.out HRL.out hB2)
      clear hK K
      try simp only [Act.put, List.setIfInBounds_toArray, List.set_cons_zero, List.set_cons_succ]
      refine tk 4 ?_
      refine tk 5 ?_
      refine tk 6 ?_
      refine tk 7 ?_
      refine tk 8 ?_
      refine tk 9 ?_
      refine tk 10 ?_
      refine tk 11 ?_
      refine tk 12 ?_
      refine tk 13 ?_
      refine tk 14 ?_
      refine tk 15 ?_
      refine tk 16 ?_
      refine tk 17 ?_
      refine tk 18 ?_
      refine tk 19 ?_
      refine tu 20 ?_
      refine tu 21 ?_
      refine tu 22 ?_
      refine tu 23 ?_
      refine tu 24 ?_
      refine tu 25 ?_
      refine tk 26 ?_
      refine wpAnyH_done (by kernel_rfl) ?_ _
      refine NoPanic.normal ?_
      clear hS p0 p1 p2 p3 p4 p5 p6 p7 n0 n1
      (try clear hHeld)
      obtain ⟨n0, n1⟩ := (HF.out.fd.node r HL.out).cells2
      have HE := hid (HK.out.stop_here hs1 (by rw [len_toList]; exact hlt) HR.out HN.out (HNo.out))
      go_wp2
      go_ret2
      exact ⟨by rw [HE.out.1, HE.out.2]; rfl, b2⟩
    ·skip
     have hgf : k.grows = false := by simpa using hg
     have HG := hid (fun (v : World) (hv : FQ L fb k A cap nb cap2 k.ps N Lo bm n v) => c_grows fb k A cap v HK.out hv.kat)
     rw [hgf] at HG
     have HNo := hid (show ¬ (k.grows = true ∧ fnd k.c k.ps (k.word k.last) = some r ∧ D.data.toList[s]? = D.data.toList[0]?) from fun e => hg e.1)
     clear hg hgf
     have hS := HF.out.t2
     go_wp2_with fail
     replace HF := hid (HF.out.on (bel_drew (Below.refl w2.heap.size w2)))
     replace b2 := bel_drew b2
     refine wp_region_noPanic ?_
     refine wp_region_held_drew (S := (fun v => v.cell? ⟨fb, 5, none⟩ = some (.int .i64 k.last) ∧ v.cell? ⟨fb, 6, none⟩ = some (.slice (some ⟨nb, 0, none⟩) (top k.c k.ps) cap2) ∧ True)) (by kernel_rfl) (t2_drew hS) (fun hHeld => ?_)
     refine tk 0 ?_
     refine tk 1 ?_
     refine tk 2 ?_
     refine wpAnyH_ready (rs := [3]) (by kernel_rfl) (by simp) ?_
     refine AllReadyH.cons (o := ?or4_3) ?ir4_3 (fun K hK => ?sr4_3) AllReadyH.nil
     case ir4_3 => (simp only [List.getElem?_toArray, List.getElem?_cons_succ, List.getElem?_cons_zero]; rfl)
     (first | (go_simp; (first | (go_at_call 91; refine (HG.out _ HF.out).mono ?_; rintro e wQ ⟨rfl, hbQ⟩; replace HF := hid (HF.out.on hbQ); replace b2 := bel_trans b2 hbQ; clear hbQ) | skip)))
     refine hK.out _ _ ?kr4_3 (fun hHeld => ?_)
     case kr4_3 => (try dsimp only); (first | with_reducible assumption | with_reducible exact HF.out.t2 | exact t2_bel (by assumption) (by assumption) | assumption | exact t2_alloc (by assumption) _ | exact HF.out.t2)
     clear hK K
     try simp only [Act.put, List.setIfInBounds_toArray, List.set_cons_zero, List.set_cons_succ]
     refine tk 4 ?_
     refine tu 5 ?_
     refine tu 6 ?_
     refine tu 7 ?_
     refine tu 8 ?_
     refine tu 9 ?_
     refine tu 10 ?_
     refine tu 11 ?_
     refine tu 12 ?_
     refine tu 13 ?_
     refine tu 14 ?_
     refine tu 15 ?_
     refine tu 16 ?_
     refine tu 17 ?_
     refine tk 18 ?_
     refine tk 19 ?_
     refine tu 20 ?_
     refine tu 21 ?_
     refine tu 22 ?_
     refine tu 23 ?_
     refine tu 24 ?_
     refine tu 25 ?_
     refine tk 26 ?_
     refine wpAnyH_done (by kernel_rfl) ?_ _
     refine NoPanic.normal ?_
     clear hS p0 p1 p2 p3 p4 p5 p6 p7 n0 n1
     (try clear hHeld)
     obtain ⟨n0, n1⟩ := (HF.out.fd.node r HL.out).cells2
     have HE := hid (HK.out.stop_here hs1 (by rw [len_toList]; exact hlt) HR.out HN.out (HNo.out))
     go_wp2
     go_ret2
     exact ⟨by rw [HE.out.1, HE.out.2]; rfl, b2⟩
  ·skip
   have HE := hid (show k.lng D.data.toList = s ∧ k.find (D.data.toList.take (k.lng D.data.toList)) = r by
    have e : D.data.toList.take s = D.data.toList := List.take_of_length_le (by rw [len_toList]; omega)
    have h1 := HR.out
    rw [e] at h1
    obtain ⟨h2, h3⟩ := Kn.stop_end h1
    refine ⟨by rw [h2, len_toList]; omega, ?_⟩
    rw [h2, List.take_length, h3])
   have hsd : (D.size : Int) = (s : Int) := by omega
   clear hbel
   go_wp2
   go_ret2
   exact ⟨by rw [HE.out.2, HE.out.1]; rfl, HB.out⟩
end

section
open Go.ChangeShapes Go.WideShapes Go.ChangeAt Go.RowKit Go.Joins
set_option linter.unusedVariables false

/-- all but some blocks stay as they are -/
structure Only (w w' : World) (S : Nat → Prop) : Prop where
 os : w'.os = w.os
 tape : w'.tape = w.tape
 output : w'.output = w.output
 size : w.heap.size ≤ w'.heap.size
 block : ∀ k, k < w.heap.size → ¬ S k → w'.heap[k]? = w.heap[k]?
theorem Only.refl (w : World) (S : Nat → Prop) : Only w w S := ⟨rfl, rfl, rfl, Nat.le_refl _, fun _ _ _ => rfl⟩
theorem Only.trans {a b c : World} {S : Nat → Prop} (h : Only a b S) (h2 : Only b c S) : Only a c S :=
 ⟨h2.os.trans h.os, h2.tape.trans h.tape, h2.output.trans h.output, Nat.le_trans h.size h2.size, fun k hk hs => (h2.block k (Nat.lt_of_lt_of_le hk h.size) hs).trans (h.block k hk hs)⟩
theorem Only.more {a b : World} {S T : Nat → Prop} (h : Only a b S) (hs : ∀ k, S k → T k) : Only a b T := ⟨h.os, h.tape, h.output, h.size, fun k hk ht => h.block k hk (fun e => ht (hs k e))⟩
theorem Only.bel {a b : World} {S : Nat → Prop} (h : Below a.heap.size a b) : Only a b S := ⟨h.os, h.tape, h.output, h.size, fun k hk _ => h.block k hk⟩
theorem Only.grown {a b : World} {row : Option Nat} {S : Nat → Prop} (h : a.grownBy b row) (hs : ∀ g, row = some g → S g) : Only a b S := ⟨h.os, h.tape, h.output, h.size, fun k hk ht => h.block k hk (fun e => ht (hs k e.symm))⟩
theorem Only.set_ (w : World) (g i : Nat) (u : Value) {S : Nat → Prop} (hs : S g) : Only w (w.setCell ⟨g, i, none⟩ u) S := Only.grown (grown_set (grown_refl w (some g)) i u) (fun x e => by simp at e; subst e; exact hs)
theorem Only.drew (w : World) (S : Nat → Prop) : Only w w.drew S := ⟨rfl, rfl, rfl, Nat.le_refl _, fun _ _ _ => rfl⟩
theorem Only.alloc (w : World) (o : Obj) (S : Nat → Prop) : Only w (w.alloc o) S := Only.bel (bel_alloc (Below.refl _ w) o)
theorem Only.below {a b : World} {S : Nat → Prop} {B : Nat} (h : Only a b S) (hB : B ≤ a.heap.size) (hs : ∀ k, S k → B ≤ k) : Below B a b := ⟨h.os, h.tape, h.output, h.size, fun k hk => h.block k (by omega) (fun e => by have := hs k e; omega)⟩
theorem Blk.only {w w' : World} {g : Nat} {t : TypeId} {cs : Array Value} {S : Nat → Prop} (h : Blk w g t cs) (ho : Only w w' S) (hs : ¬ S g) : Blk w' g t cs := (ho.block g h.lt hs).trans h
theorem MapIs.only {w w' : World} {bm n : Nat} {M : Nat → Int → Option Nat} {S : Nat → Prop} (h : MapIs w bm n M) (ho : Only w w' S) (hs : ¬ S bm) : MapIs w' bm n M := by
 have hlt := h.lt
 obtain ⟨D, ⟨es, clock, hb, F, h1, h2⟩, h3⟩ := h
 exact ⟨D, ⟨es, clock, (ho.block bm hlt hs).trans hb, F, h1, h2⟩, h3⟩

/-- a table without entries -/
theorem bare_at {x : Nat} (hx : x ≤ 255) : Tryz.zeroCells201[x]? = some (Value.pointer none) := by
 have e : Tryz.zeroCells201 = (List.replicate 256 (Value.pointer none)).toArray := by kernel_rfl
 rw [e, List.getElem?_toArray, List.getElem?_replicate, if_pos (by omega)]
theorem bare_size : Tryz.zeroCells201.size = 256 := by kernel_rfl
theorem c_keep_some (b g r x m : Nat) (cs : Array Value) (w : World) (hb : Blk w b 144 #[.int .i64 r, .pointer (some ⟨g, 0, none⟩)]) (hg : Blk w g 201 cs) (hcs : cs.size = 256) (hx : x ≤ 255) :
  Calls Tryz.prog 162 #[.pointer (some ⟨b, 0, none⟩), .int .i64 (x : Int), .pointer (some ⟨m, 0, none⟩)] w fun e w' => e = .returned (.tuple #[]) ∧ w' = w.setCell ⟨g, x, none⟩ (.pointer (some ⟨m, 0, none⟩)) := by
 obtain ⟨p0, p1⟩ := hb.cells2
 have hf := hg.frozen x
 obtain ⟨v, hv⟩ : ∃ v, w.cell? ⟨g, x, none⟩ = some v := ⟨cs[x]'(by omega), by rw [hg.cell x]; exact Array.getElem?_eq_getElem (by omega)⟩
 clear hb hg
 go_enter Tryz.func162, Tryz.ntmps162
 go_wp2
 go_end0
 exact ⟨rfl, rfl⟩
set_option maxRecDepth 100000 in
theorem c_keep_none (b r x m : Nat) (w : World) (hb : Blk w b 144 #[.int .i64 r, .pointer none]) (hx : x ≤ 255) :
  Calls Tryz.prog 162 #[.pointer (some ⟨b, 0, none⟩), .int .i64 (x : Int), .pointer (some ⟨m, 0, none⟩)] w fun e w' => e = .returned (.tuple #[]) ∧ w' = (w.setCell ⟨b, 1, none⟩ (.pointer (some ⟨w.heap.size, 0, none⟩))).alloc (.cells (Tryz.zeroCells201.setIfInBounds x (.pointer (some ⟨m, 0, none⟩))) 201) := by
 obtain ⟨p0, p1⟩ := hb.cells2
 have hf := hb.frozen 1
 have hlt := hb.lt
 have hg := Blk.new w 201 Tryz.zeroCells201
 have hz := bare_at hx
 go_enter Tryz.func162, Tryz.ntmps162
 go_wp2_with fail
 go_end0
 exact ⟨rfl, rfl⟩
end

section
open Go.ChangeShapes Go.WideShapes Go.ChangeAt Go.RowKit Go.Joins
set_option linter.unusedVariables false

theorem MapIs.obj {w : World} {bm n : Nat} {M : Nat → Int → Option Nat} (h : MapIs w bm n M) : ∃ es c, w.heap[bm]? = some (.map es c) := by
 obtain ⟨D, ⟨es, clock, hb, _⟩, _⟩ := h; exact ⟨es, clock, hb⟩
theorem Blk.ne_map {w : World} {g bm n : Nat} {t : TypeId} {cs : Array Value} {M : Nat → Int → Option Nat} (h : Blk w g t cs) (hm : MapIs w bm n M) : g ≠ bm := by
 intro e; subst e
 obtain ⟨es, c, he⟩ := hm.obj
 have := h.symm.trans he
 simp at this
theorem Blk.ne_type {w : World} {g g' : Nat} {t t' : TypeId} {cs cs' : Array Value} (h : Blk w g t cs) (h' : Blk w g' t' cs') (ht : t ≠ t') : g ≠ g' := by
 intro e; subst e
 have := h.symm.trans h'
 simp at this
 exact ht this.2
/-- the types of the finder's own blocks -/
def Fam (t : TypeId) : Prop := t = 112 ∨ t = 175 ∨ t = 140 ∨ t = 144 ∨ t = 201
instance (t : TypeId) : Decidable (Fam t) := by unfold Fam; infer_instance
/-- all blocks of other types stay as they are -/
def Calm (w w' : World) : Prop := ∀ (g : Nat) (t : TypeId) (cs : Array Value), Blk w g t cs → ¬ Fam t → Blk w' g t cs
theorem Calm.refl (w : World) : Calm w w := fun _ _ _ h _ => h
theorem Calm.trans {a b c : World} (h : Calm a b) (h2 : Calm b c) : Calm a c := fun g t cs hb ht => h2 g t cs (h g t cs hb ht) ht
theorem Calm.of {a b : World} (h : Below a.heap.size a b) : Calm a b := fun g t cs hb _ => hb.on h
theorem Calm.drew {a b : World} (h : Calm a b) : Calm a b.drew := h
theorem Calm.grown {a b : World} {row : Option Nat} (hg : a.grownBy b row) (hr : ∀ g, row = some g → (∃ cs e, a.heap[g]? = some (.cells cs e (0, 0)) ∧ Fam e) ∨ ∃ es c, a.heap[g]? = some (.map es c)) : Calm a b := fun g t cs hb ht => hb.grown hg (fun e => by
 rcases hr g e.symm with ⟨cs2, e2, h1, h2⟩ | ⟨es, c, h1⟩
 ·have := hb.symm.trans h1
  simp at this
  rw [this.2] at ht
  exact ht h2
 ·have := hb.symm.trans h1
  simp at this)
theorem Calm.set_ {w : World} {g : Nat} {t : TypeId} {cs : Array Value} (hb : Blk w g t cs) (ht : Fam t) (i : Nat) (u : Value) : Calm w (w.setCell ⟨g, i, none⟩ u) := fun g' t' cs' hb' ht' => hb'.far i u (hb'.ne_type hb (fun e => ht' (e ▸ ht)))
theorem node_ne_arr : 144 ≠ 201 := by decide
section
variable {L : Nat} {c : Int} {Q : List Pr} {m : Nat} {N : Nat → Nat} {Lo : Nat → Option Nat} {bm n : Nat} {w w' : World} {p : Pr}

/-- the blocks of least codes differ -/
theorem Fd.inj (h : Fd L c Q m N Lo bm n w) {r s : Nat} (hr : Lst c Q r) (hs : Lst c Q s) (e : N r = N s) : r = s := by
 have c1 := (h.node r hr).cell 0
 have c2 := (h.node s hs).cell 0
 rw [e, c2] at c1
 simp at c1
 omega
theorem Fd.fresh (h : Fd L c Q m N Lo bm n w) {G r : Nat} (hr : Lst c Q r) (hc : 0 ≤ c) {v : Value} (hG : Blk w G 144 #[.int .i64 (top c Q : Nat), v]) : N r ≠ G := by
 intro e
 have c1 := (h.node r hr).cell 0
 have c2 := hG.cell 0
 rw [e, c2] at c1
 simp at c1
 exact lst_ne hc hr (by omega)
/-- a pair whose word is there already -/
theorem Fd.dup {s : Nat} (hc : 0 ≤ c) (h : Fd L c Q m N Lo bm n w) (hf : fnd c Q (wd c Q p.1 ++ [byt p.2]) = some s) : Fd L c (Q ++ [p]) m N Lo bm n w := by
 refine ⟨fun r hr => h.node r ((lst_dup hc hf r).1 hr), fun r hr => h.ge r ((lst_dup hc hf r).1 hr), fun r g hr hl => ?_, fun r hr hl x hx => ?_, fun r r' g hr hr' => h.one r r' g ((lst_dup hc hf r).1 hr) ((lst_dup hc hf r').1 hr'), h.mp.same (fun r x _ _ => inMap_dup hc hf m N r x), h.mge⟩
 ·obtain ⟨h1, cs, h2, h3, h4⟩ := h.arr r g ((lst_dup hc hf r).1 hr) hl
  refine ⟨h1, cs, h2, h3, fun x hx => ?_⟩
  rw [h4 x hx, wd_more ((lst_dup hc hf r).1 hr), ndAt, ndAt, kept_dup hc hf m]
 ·rw [wd_more ((lst_dup hc hf r).1 hr), kept_dup hc hf m]
  exact h.bare r ((lst_dup hc hf r).1 hr) hl x hx
theorem map_old (hc : 0 ≤ c) {K : List Pr} {v : List UInt8} {G : Nat} (hK : ∀ s, fnd c K v = some s → s ≠ top c Q) : ndAt c K (addN N (top c Q) G) v = ndAt c K N v := by
 rw [ndAt, ndAt]
 cases hf : fnd c K v with
 | none => rfl
 | some s => simp [addN_other (hK s hf)]
theorem kept_ne (hc : 0 ≤ c) {v : List UInt8} (s : Nat) (h : fnd c (Q.take m) v = some s) : s ≠ top c Q := by
 have := fnd_more (Q.drop m) h
 rw [List.take_append_drop] at this
 exact lst_ne hc (fnd_lst this)
/-- what the tables lead to, behind a kept pair -/
theorem kept_nd (hc : 0 ≤ c) (hf : fnd c Q (wd c Q p.1 ++ [byt p.2]) = none) {r r0 G : Nat} (hr : Lst c Q r) (h0 : fnd c Q (wd c Q p.1) = some r0) {x : Int} (hx : 0 ≤ x ∧ x ≤ 255) (hp : 0 ≤ p.2 ∧ p.2 ≤ 255) (hm : Q.length < m) :
  ndAt c ((Q ++ [p]).take m) (addN N (top c Q) G) (wd c (Q ++ [p]) r ++ [byt x]) = if r = r0 ∧ x = p.2 then some G else ndAt c (Q.take m) N (wd c Q r ++ [byt x]) := by
 rw [wd_more hr, ndAt, kept_fresh hc hf hr h0 hx hp hm]
 split
 ·simp [addN]
 ·exact map_old hc (kept_ne hc)
/-- a new kept word, the prefix having a table -/
theorem Fd.keep_some (hc : 0 ≤ c) (hQ : PairsOk c Q) (h : Fd L c Q m N Lo bm n w) (hf : fnd c Q (wd c Q p.1 ++ [byt p.2]) = none) {r0 G g x : Nat} (h0 : fnd c Q (wd c Q p.1) = some r0) (hx : p.2 = (x : Int)) (hx2 : x ≤ 255) (hm : Q.length < m)
  (hG : Blk w G 144 #[.int .i64 (top c Q : Nat), .pointer none]) (hGL : L ≤ G) (hl : Lo r0 = some g) :
  Fd L c (Q ++ [p]) m (addN N (top c Q) G) (fun r => if r = top c Q then none else Lo r) bm n (w.setCell ⟨g, x, none⟩ (.pointer (some ⟨G, 0, none⟩))) := by
 have hp : 0 ≤ p.2 ∧ p.2 ≤ 255 := by omega
 have hL0 := fnd_lst h0
 obtain ⟨hg, cs0, hB, hcs0, hcs⟩ := h.arr r0 g hL0 hl
 have hgm : g ≠ bm := hB.ne_map h.mp
 refine ⟨fun r hr => ?_, fun r hr => ?_, fun r g' hr hlr => ?_, fun r hr hlr y hy => ?_, fun r r' g' hr hr' hlr hlr' => ?_, ?_, h.mge⟩
 ·rcases (lst_new hc hf r).1 hr with h1 | h1
  ·rw [addN_other (lst_ne hc h1), if_neg (lst_ne hc h1)]
   exact (h.node r h1).far x _ ((h.node r h1).ne_type hB node_ne_arr)
  ·rw [h1, addN_same, if_pos rfl]
   exact hG.far x _ (hG.ne_type hB node_ne_arr)
 ·rcases (lst_new hc hf r).1 hr with h1 | h1
  ·rw [addN_other (lst_ne hc h1)]; exact h.ge r h1
  ·rw [h1, addN_same]; exact hGL
 ·rcases (lst_new hc hf r).1 hr with h1 | h1
  ·rw [if_neg (lst_ne hc h1)] at hlr
   obtain ⟨hg', cs, hB', hcs', hc'⟩ := h.arr r g' h1 hlr
   by_cases hrr : r = r0
   ·subst hrr
    rw [hl] at hlr
    obtain rfl := Option.some.inj hlr
    refine ⟨hg, cs0.setIfInBounds x (.pointer (some ⟨G, 0, none⟩)), hB.set_ x _, by simpa using hcs0, fun y hy => ?_⟩
    rw [Array.getElem?_setIfInBounds, kept_nd hc hf h1 h0 (by omega) hp hm]
    by_cases hyx : x = y
    ·subst hyx
     rw [if_pos rfl, if_pos (by omega), if_pos ⟨rfl, hx.symm⟩]; rfl
    ·rw [if_neg hyx, if_neg (by omega)]
     exact hcs y hy
   ·have hne : g' ≠ g := fun e => hrr (h.one r r0 g' h1 hL0 hlr (by rw [e]; exact hl))
    refine ⟨hg', cs, hB'.far x _ hne, hcs', fun y hy => ?_⟩
    rw [kept_nd hc hf h1 h0 (by omega) hp hm, if_neg (fun e => hrr e.1)]
    exact hc' y hy
  ·rw [if_pos h1] at hlr; cases hlr
 ·rcases (lst_new hc hf r).1 hr with h1 | h1
  ·rw [if_neg (lst_ne hc h1)] at hlr
   have hrr : r ≠ r0 := fun e => by rw [e, hl] at hlr; cases hlr
   have := kept_nd (N := N) (G := G) hc hf h1 h0 hy hp hm
   rw [if_neg (fun e => hrr e.1), ndAt, ndAt, h.bare r h1 hlr y hy] at this
   simpa using this
  ·subst h1
   exact kept_deep hc hQ hf _ m
 ·rcases (lst_new hc hf r).1 hr with h1 | h1
  ·rcases (lst_new hc hf r').1 hr' with h2 | h2
   ·rw [if_neg (lst_ne hc h1)] at hlr
    rw [if_neg (lst_ne hc h2)] at hlr'
    exact h.one r r' g' h1 h2 hlr hlr'
   ·rw [if_pos h2] at hlr'; cases hlr'
  ·rw [if_pos h1] at hlr; cases hlr
 ·have h1 := h.mp.only (Only.set_ w g x (.pointer (some ⟨G, 0, none⟩)) (S := fun k => k = g) rfl) (fun e => hgm e.symm)
  refine h1.same (fun r y _ _ => ?_)
  rw [inMap_kept (by simp; omega), inMap_kept (by omega)]
/-- a new kept word, the prefix having no table yet -/
theorem Fd.keep_none (hc : 0 ≤ c) (hQ : PairsOk c Q) (h : Fd L c Q m N Lo bm n w) (hf : fnd c Q (wd c Q p.1 ++ [byt p.2]) = none) {r0 G x : Nat} (h0 : fnd c Q (wd c Q p.1) = some r0) (hx : p.2 = (x : Int)) (hx2 : x ≤ 255) (hm : Q.length < m) (hLw : L ≤ w.heap.size)
  (hG : Blk w G 144 #[.int .i64 (top c Q : Nat), .pointer none]) (hGL : L ≤ G) (hl : Lo r0 = none) :
  Fd L c (Q ++ [p]) m (addN N (top c Q) G) (fun r => if r = top c Q then none else if r = r0 then some w.heap.size else Lo r) bm n ((w.setCell ⟨N r0, 1, none⟩ (.pointer (some ⟨w.heap.size, 0, none⟩))).alloc (.cells (Tryz.zeroCells201.setIfInBounds x (.pointer (some ⟨G, 0, none⟩))) 201)) := by
 have hp : 0 ≤ p.2 ∧ p.2 ≤ 255 := by omega
 have hL0 := fnd_lst h0
 have hB := h.node r0 hL0
 have hsz : (w.setCell ⟨N r0, 1, none⟩ (.pointer (some ⟨w.heap.size, 0, none⟩))).heap.size = w.heap.size := by simp [World.setCell]
 have hnew := Blk.new (w.setCell ⟨N r0, 1, none⟩ (.pointer (some ⟨w.heap.size, 0, none⟩))) 201 (Tryz.zeroCells201.setIfInBounds x (.pointer (some ⟨G, 0, none⟩)))
 rw [hsz] at hnew
 refine ⟨fun r hr => ?_, fun r hr => ?_, fun r g' hr hlr => ?_, fun r hr hlr y hy => ?_, fun r r' g' hr hr' hlr hlr' => ?_, ?_, h.mge⟩
 ·rcases (lst_new hc hf r).1 hr with h1 | h1
  ·rw [addN_other (lst_ne hc h1), if_neg (lst_ne hc h1)]
   by_cases hrr : r = r0
   ·subst hrr
    rw [if_pos rfl]
    have := (hB.set_ 1 (.pointer (some ⟨w.heap.size, 0, none⟩))).alloc (.cells (Tryz.zeroCells201.setIfInBounds x (.pointer (some ⟨G, 0, none⟩))) 201)
    rw [hl] at this
    exact this
   ·rw [if_neg hrr]
    exact ((h.node r h1).far 1 _ (fun e => hrr (h.inj h1 hL0 e))).alloc _
  ·rw [h1, addN_same, if_pos rfl]
   exact (hG.far 1 _ (fun e => h.fresh hL0 hc hG e.symm)).alloc _
 ·rcases (lst_new hc hf r).1 hr with h1 | h1
  ·rw [addN_other (lst_ne hc h1)]; exact h.ge r h1
  ·rw [h1, addN_same]; exact hGL
 ·rcases (lst_new hc hf r).1 hr with h1 | h1
  ·rw [if_neg (lst_ne hc h1)] at hlr
   by_cases hrr : r = r0
   ·rw [if_pos hrr] at hlr
    obtain rfl := Option.some.inj hlr
    refine ⟨hLw, _, hnew, by simp, fun y hy => ?_⟩
    rw [Array.getElem?_setIfInBounds, kept_nd hc hf h1 h0 (by omega) hp hm, bare_size]
    by_cases hyx : x = y
    ·subst hyx
     rw [if_pos rfl, if_pos (by omega), if_pos ⟨hrr, hx.symm⟩]; rfl
    ·rw [if_neg hyx, if_neg (by omega), bare_at hy]
     have hb := h.bare r0 hL0 hl (y : Int) (by omega)
     rw [← hrr] at hb
     rw [ndAt, hb]; rfl
   ·rw [if_neg hrr] at hlr
    obtain ⟨hg', cs, hB', hcs', hc'⟩ := h.arr r g' h1 hlr
    refine ⟨hg', cs, (hB'.far 1 _ (hB'.ne_type hB (Ne.symm node_ne_arr))).alloc _, hcs', fun y hy => ?_⟩
    rw [kept_nd hc hf h1 h0 (by omega) hp hm, if_neg (fun e => hrr e.1)]
    exact hc' y hy
  ·rw [if_pos h1] at hlr; cases hlr
 ·rcases (lst_new hc hf r).1 hr with h1 | h1
  ·rw [if_neg (lst_ne hc h1)] at hlr
   by_cases hrr : r = r0
   ·rw [if_pos hrr] at hlr; cases hlr
   ·rw [if_neg hrr] at hlr
    have := kept_nd (N := N) (G := G) hc hf h1 h0 hy hp hm
    rw [if_neg (fun e => hrr e.1), ndAt, ndAt, h.bare r h1 hlr y hy] at this
    simpa using this
  ·subst h1
   exact kept_deep hc hQ hf _ m
 ·have key : ∀ r, Lst c (Q ++ [p]) r → (if r = top c Q then none else if r = r0 then some w.heap.size else Lo r) = some g' → Lst c Q r ∧ ((r = r0 ∧ g' = w.heap.size) ∨ (r ≠ r0 ∧ Lo r = some g' ∧ g' ≠ w.heap.size)) := by
   intro r hr hlr
   rcases (lst_new hc hf r).1 hr with h1 | h1
   ·rw [if_neg (lst_ne hc h1)] at hlr
    refine ⟨h1, ?_⟩
    by_cases hrr : r = r0
    ·rw [if_pos hrr] at hlr; exact Or.inl ⟨hrr, (Option.some.inj hlr).symm⟩
    ·rw [if_neg hrr] at hlr
     obtain ⟨_, cs, hB', _⟩ := h.arr r g' h1 hlr
     have := hB'.lt
     exact Or.inr ⟨hrr, hlr, by omega⟩
   ·rw [if_pos h1] at hlr; cases hlr
  obtain ⟨h1, k1⟩ := key r hr hlr
  obtain ⟨h2, k2⟩ := key r' hr' hlr'
  rcases k1 with ⟨e1, e2⟩ | ⟨e1, e2, e3⟩
  ·rcases k2 with ⟨f1, f2⟩ | ⟨f1, f2, f3⟩
   ·rw [e1, f1]
   ·exact absurd e2 f3
  ·rcases k2 with ⟨f1, f2⟩ | ⟨f1, f2, f3⟩
   ·exact absurd f2 e3
   ·exact h.one r r' g' h1 h2 e2 f2
 ·have h1 := h.mp.only ((Only.set_ w (N r0) 1 (.pointer (some ⟨w.heap.size, 0, none⟩)) (S := fun k => k = N r0) rfl).trans (Only.alloc _ (.cells (Tryz.zeroCells201.setIfInBounds x (.pointer (some ⟨G, 0, none⟩))) 201) _)) (fun e => hB.ne_map h.mp e.symm)
  refine h1.same (fun r y _ _ => ?_)
  rw [inMap_kept (by simp; omega), inMap_kept (by omega)]
/-- a new word that a clear code takes away -/
theorem Fd.learn (hc : 0 ≤ c) (hQ : PairsOk c Q) (h : Fd L c Q m N Lo bm n w) (hf : fnd c Q (wd c Q p.1 ++ [byt p.2]) = none) {r0 G n' : Nat} (h0 : fnd c Q (wd c Q p.1) = some r0) (hp : 0 ≤ p.2 ∧ p.2 ≤ 255) (hm : m ≤ Q.length)
  (hG : Blk w G 144 #[.int .i64 (top c Q : Nat), .pointer none]) (hGL : L ≤ G) (hM : MapIs w' bm n' (fun r x => if r = r0 ∧ x = p.2 then some G else inMap c Q (Q.take m) N r x)) (hg : w.grownBy w' (some bm)) :
  Fd L c (Q ++ [p]) m (addN N (top c Q) G) (fun r => if r = top c Q then none else Lo r) bm n' w' := by
 refine ⟨fun r hr => ?_, fun r hr => ?_, fun r g' hr hlr => ?_, fun r hr hlr y hy => ?_, fun r r' g' hr hr' hlr hlr' => ?_, ?_, h.mge⟩
 ·rcases (lst_new hc hf r).1 hr with h1 | h1
  ·rw [addN_other (lst_ne hc h1), if_neg (lst_ne hc h1)]
   exact (h.node r h1).grown hg (fun e => (h.node r h1).ne_map h.mp (Option.some.inj e))
  ·rw [h1, addN_same, if_pos rfl]
   exact hG.grown hg (fun e => hG.ne_map h.mp (Option.some.inj e))
 ·rcases (lst_new hc hf r).1 hr with h1 | h1
  ·rw [addN_other (lst_ne hc h1)]; exact h.ge r h1
  ·rw [h1, addN_same]; exact hGL
 ·rcases (lst_new hc hf r).1 hr with h1 | h1
  ·rw [if_neg (lst_ne hc h1)] at hlr
   obtain ⟨hg', cs, hB', hcs', hc'⟩ := h.arr r g' h1 hlr
   refine ⟨hg', cs, hB'.grown hg (fun e => hB'.ne_map h.mp (Option.some.inj e)), hcs', fun y hy => ?_⟩
   rw [hc' y hy, wd_more h1, kept_same hm, map_old hc (kept_ne hc)]
  ·rw [if_pos h1] at hlr; cases hlr
 ·rcases (lst_new hc hf r).1 hr with h1 | h1
  ·rw [if_neg (lst_ne hc h1)] at hlr
   rw [wd_more h1, kept_same hm]
   exact h.bare r h1 hlr y hy
  ·subst h1
   exact kept_deep hc hQ hf _ m
 ·rcases (lst_new hc hf r).1 hr with h1 | h1
  ·rcases (lst_new hc hf r').1 hr' with h2 | h2
   ·rw [if_neg (lst_ne hc h1)] at hlr
    rw [if_neg (lst_ne hc h2)] at hlr'
    exact h.one r r' g' h1 h2 hlr hlr'
   ·rw [if_pos h2] at hlr'; cases hlr'
  ·rw [if_pos h1] at hlr; cases hlr
 ·refine hM.same (fun r x _ hx => ?_)
  rw [inMap_fresh hc hQ hf h0 hp hm N G r hx]
end
end

section
open Go.ChangeShapes Go.WideShapes Go.ChangeAt Go.RowKit Go.Joins
set_option linter.unusedVariables false

theorem Tryz.info_ptr : (Tryz.prog.info? 140).map (fun i => (i.zero, i.size, i.bytes)) = some (some (.pointer none), 1, 8) := by kernel_rfl
/-- 'out = append(out, x)' of one pointer, out the call's own: ONE goal is left. -/
theorem app_ptr {P : Program} {w : World} {ops : Array Oper} {rest : List Oper} {o : Oper} {a : Act} {Q : Exit → Act → World → Prop} (hgd : o.guard = none) (s x : Operand) (t : TypeId)
  (ho : o.op = .call { callee := .builtin .append, args := #[s, x], argTypes := #[t, t] }) (B : Nat) (e : TypeId) (ht : P.underlying t = some (.slice e))
  (hinfo : (P.info? e).map (fun i => (i.zero, i.size, i.bytes)) = some (some (.pointer none), 1, 8)) (v : Value) (n : Nat) (xs : List Value) (hs : a.eval s = v) (hown : w.ownsRow B e 1 v n xs) (X : Option Addr) (cp : Nat)
  (hx : a.eval x = .slice (some ⟨w.heap.size, 0, none⟩) 1 cp) (hn : n ≤ 1000000000000) (hB : B ≤ w.heap.size)
  (h : ∀ v' w', w'.ownsRow B e 1 v' (n + 1) (xs ++ [.pointer X]) → Below B w w' → w.grownBy w' v.ownBlock → wpList P ops Q rest (a.put o.dst v') w') : wpList P ops Q (o :: rest) a (w.alloc (.cells #[.pointer X] e)) := by
 obtain ⟨i0, hi, hz0, hz1, hz2⟩ := info_parts hinfo
 refine wpList_append_own _ hgd s x t ho B e i0 (.pointer none) 1 8 ht hi hz0 hz1 hz2 rfl (by decide) v n xs hs (hown.alloc _) ⟨w.heap.size, 0, none⟩ 1 cp [.pointer X] hx rfl (one_new w _ e) ?_ ?_ (by omega) ?_ ?_
 ·intro u hu; simp at hu; subst hu; rfl
 ·unfold maxLen; omega
 ·have := World.size_alloc w (.cells #[.pointer X] e); omega
 ·intro v' w' hown' hg _
  have hg2 : w.grownBy w' v.ownBlock := grown_trans (World.grownBy_alloc w _ _) hg
  exact h v' w' hown' (below_of_grown hg2 hB (fun g hg => (hown.lt g hg).1)) hg2

theorem Fd.away {L : Nat} {c : Int} {Q : List Pr} {m : Nat} {N : Nat → Nat} {Lo : Nat → Option Nat} {bm n : Nat} {w w' : World} {e : TypeId} {row : Option Nat} (h : Fd L c Q m N Lo bm n w) (hg : w.grownBy w' row) (hrow : ∀ g, row = some g → ∃ cs, w.heap[g]? = some (.cells cs e (0, 0))) (h1 : e ≠ 144) (h2 : e ≠ 201) : Fd L c Q m N Lo bm n w' := by
 have key : ∀ {b : Nat} {t : TypeId} {cs : Array Value}, Blk w b t cs → e ≠ t → Blk w' b t cs := fun {b t cs} hb ht => hb.grown hg (fun e1 => by
  obtain ⟨cs2, h3⟩ := hrow b e1.symm
  have := hb.symm.trans h3
  simp at this
  exact ht this.2.symm)
 refine ⟨fun r hr => key (h.node r hr) h1, h.ge, fun r g hr hl => ?_, h.bare, h.one, h.mp.kept hg (fun e1 => ?_), h.mge⟩
 ·obtain ⟨a, cs, b, c, d⟩ := h.arr r g hr hl
  exact ⟨a, cs, key b h2, c, d⟩
 ·obtain ⟨cs2, h3⟩ := hrow bm e1.symm
  obtain ⟨es, c, h4⟩ := h.mp.obj
  rw [h3] at h4
  cases h4
theorem own_ne_map {w : World} {B : Nat} {e : TypeId} {size m bm n : Nat} {v : Value} {xs : List Value} {M : Nat → Int → Option Nat} (h : w.ownsRow B e size v m xs) (hm : MapIs w bm n M) : v.ownBlock = none ∨ v.ownBlock ≠ some bm := by
 by_cases hv : v.ownBlock = some bm
 ·obtain ⟨cs, hc⟩ := own_elem h bm hv
  obtain ⟨es, c, h4⟩ := hm.obj
  rw [hc] at h4
  cases h4
 ·exact Or.inr hv
/-- the state ahead of the append: all but the new node's place in the row of nodes -/
structure Near1 (L fb : Nat) (k : Kn) (A : Option Addr) (cap nb cap2 : Nat) (Q : List Pr) (p : Pr) (N N' : Nat → Nat) (Lo' : Nat → Option Nat) (bm n' g : Nat) (W : World) : Prop where
 bx : Blk W fb 112 #[.int .i64 k.o, .int .i64 k.l, .int .i64 k.m, .slice A k.ps.length cap, .int .i64 k.base, .int .i64 k.last, .slice (some ⟨nb, 0, none⟩) (top k.c Q) cap2, .map (some bm)]
 row : W.ownsRow L 175 2 (.slice A k.ps.length cap) k.ps.length (prs k.ps)
 nds : W.ownsRow L 140 1 (.slice (some ⟨nb, 0, none⟩) (top k.c Q) cap2) (top k.c Q) (nodesL k.c Q N)
 fd : Fd L k.c (Q ++ [p]) k.base.toNat N' Lo' bm n' W
 lb : L ≤ fb
 nl : nodesL k.c (Q ++ [p]) N' = nodesL k.c Q N ++ [.pointer (some ⟨g, 0, none⟩)]
theorem top_snoc (c : Int) (Q : List Pr) (p : Pr) : top c (Q ++ [p]) = top c Q + 1 := by simp [top]; omega
section
variable {L fb : Nat} {k : Kn} {A : Option Addr} {cap nb cap2 : Nat} {Q : List Pr} {p : Pr} {N N' : Nat → Nat} {Lo Lo' : Nat → Option Nat} {bm n n' g : Nat} {W w7 : World}

/-- the box of the finder, behind the append -/
theorem Near1.bx7 (h : Near1 L fb k A cap nb cap2 Q p N N' Lo' bm n' g W) (hg : W.grownBy w7 (Value.slice (some ⟨nb, 0, none⟩) (top k.c Q) cap2).ownBlock) : Blk w7 fb 112 #[.int .i64 k.o, .int .i64 k.l, .int .i64 k.m, .slice A k.ps.length cap, .int .i64 k.base, .int .i64 k.last, .slice (some ⟨nb, 0, none⟩) (top k.c Q) cap2, .map (some bm)] := by
 refine h.bx.grown hg (fun e => ?_)
 rcases own_apart_blk h.nds h.bx (by decide) with h1 | h1
 ·rw [h1] at e; cases e
 ·exact h1 e.symm
theorem Near1.calm7 (h : Near1 L fb k A cap nb cap2 Q p N N' Lo' bm n' g W) (hg : W.grownBy w7 (Value.slice (some ⟨nb, 0, none⟩) (top k.c Q) cap2).ownBlock) : Calm W w7 := Calm.grown hg (fun b hb => by
 obtain ⟨cs, hc⟩ := own_elem h.nds b hb
 exact Or.inl ⟨cs, _, hc, by decide⟩)
theorem Near1.done (h : Near1 L fb k A cap nb cap2 Q p N N' Lo' bm n' g W) {nb' cap2' : Nat} (hown : w7.ownsRow L 140 1 (.slice (some ⟨nb', 0, none⟩) (top k.c Q + 1) cap2') (top k.c Q + 1) (nodesL k.c Q N ++ [.pointer (some ⟨g, 0, none⟩)])) (hg : W.grownBy w7 (Value.slice (some ⟨nb, 0, none⟩) (top k.c Q) cap2).ownBlock) :
  FQ L fb k A cap nb' cap2' (Q ++ [p]) N' Lo' bm n' (w7.setCell ⟨fb, 6, none⟩ (.slice (some ⟨nb', 0, none⟩) (top k.c Q + 1) cap2')) := by
 have hb := h.bx7 hg
 have hr7 := h.row.kept hg (own_apart h.row h.nds (by decide))
 have hf7 := h.fd.away hg (fun b hb => own_elem h.nds b hb) (by decide) (by decide)
 refine ⟨?_, own_store_blk hr7 hb (by decide) 6 _, ?_, hf7.away (e := 112) (grown_set (grown_refl w7 (some fb)) 6 _) (fun b e => ?_) (by decide) (by decide), h.lb⟩
 ·rw [top_snoc]
  exact hb.set_ 6 _
 ·rw [top_snoc, h.nl]
  exact own_store_blk hown hb (by decide) 6 _
 ·obtain rfl := Option.some.inj e
  exact ⟨_, hb⟩
end
section
variable {L fb : Nat} {k : Kn} {A : Option Addr} {cap nb cap2 : Nat} {Q : List Pr} {p : Pr} {N : Nat → Nat} {Lo : Nat → Option Nat} {bm n n' G : Nat} {W w' : World}

theorem nl_new (hc : 0 ≤ k.c) (hf : fnd k.c Q (wd k.c Q p.1 ++ [byt p.2]) = none) : nodesL k.c (Q ++ [p]) (addN N (top k.c Q) G) = nodesL k.c Q N ++ [.pointer (some ⟨G, 0, none⟩)] := by
 rw [nodesL_snoc hc p (N := N) (fun r hr => addN_other (lst_ne hc hr)), nodeAt_top hc, ndAt, fnd_snoc hc hf rfl]
 show nodesL k.c Q N ++ [ptr (some (addN N (top k.c Q) G (top k.c Q)))] = _
 rw [addN_same]; rfl
theorem nl_dup {s : Nat} (hc : 0 ≤ k.c) (hf : fnd k.c Q (wd k.c Q p.1 ++ [byt p.2]) = some s) : nodesL k.c (Q ++ [p]) N = nodesL k.c Q N ++ [.pointer (some ⟨N s, 0, none⟩)] := by
 rw [nodesL_snoc hc p (N := N) (fun r hr => rfl), nodeAt_top hc, ndAt, fnd_more [p] hf]; rfl
theorem FQ.dup1 {s : Nat} (h : FQ L fb k A cap nb cap2 Q N Lo bm n W) (hc : 0 ≤ k.c) (hf : fnd k.c Q (wd k.c Q p.1 ++ [byt p.2]) = some s) : Near1 L fb k A cap nb cap2 Q p N N Lo bm n (N s) W :=
 ⟨h.bx, h.row, h.nds, h.fd.dup hc hf, h.lb, nl_dup hc hf⟩
theorem FQ.keep1 {r0 g x : Nat} (h : FQ L fb k A cap nb cap2 Q N Lo bm n W) (hc : 0 ≤ k.c) (hQ : PairsOk k.c Q) (hf : fnd k.c Q (wd k.c Q p.1 ++ [byt p.2]) = none) (h0 : fnd k.c Q (wd k.c Q p.1) = some r0) (hx : p.2 = (x : Int)) (hx2 : x ≤ 255) (hm : Q.length < k.base.toNat)
  (hG : Blk W G 144 #[.int .i64 (top k.c Q : Nat), .pointer none]) (hGL : L ≤ G) (hl : Lo r0 = some g) : Near1 L fb k A cap nb cap2 Q p N (addN N (top k.c Q) G) (fun r => if r = top k.c Q then none else Lo r) bm n G (W.setCell ⟨g, x, none⟩ (.pointer (some ⟨G, 0, none⟩))) := by
 obtain ⟨_, cs, hB, _, _⟩ := h.fd.arr r0 g (fnd_lst h0) hl
 exact ⟨h.bx.far x _ (h.bx.ne_type hB (by decide)), own_store_blk h.row hB (by decide) x _, own_store_blk h.nds hB (by decide) x _, h.fd.keep_some hc hQ hf h0 hx hx2 hm hG hGL hl, h.lb, nl_new hc hf⟩
theorem FQ.keep0 {r0 x : Nat} (h : FQ L fb k A cap nb cap2 Q N Lo bm n W) (hc : 0 ≤ k.c) (hQ : PairsOk k.c Q) (hf : fnd k.c Q (wd k.c Q p.1 ++ [byt p.2]) = none) (h0 : fnd k.c Q (wd k.c Q p.1) = some r0) (hx : p.2 = (x : Int)) (hx2 : x ≤ 255) (hm : Q.length < k.base.toNat) (hLw : L ≤ W.heap.size)
  (hG : Blk W G 144 #[.int .i64 (top k.c Q : Nat), .pointer none]) (hGL : L ≤ G) (hl : Lo r0 = none) : Near1 L fb k A cap nb cap2 Q p N (addN N (top k.c Q) G) (fun r => if r = top k.c Q then none else if r = r0 then some W.heap.size else Lo r) bm n G ((W.setCell ⟨N r0, 1, none⟩ (.pointer (some ⟨W.heap.size, 0, none⟩))).alloc (.cells (Tryz.zeroCells201.setIfInBounds x (.pointer (some ⟨G, 0, none⟩))) 201)) := by
 have hB := h.fd.node r0 (fnd_lst h0)
 exact ⟨(h.bx.far 1 _ (h.bx.ne_type hB (by decide))).alloc _, (own_store_blk h.row hB (by decide) 1 _).alloc _, (own_store_blk h.nds hB (by decide) 1 _).alloc _, h.fd.keep_none hc hQ hf h0 hx hx2 hm hLw hG hGL hl, h.lb, nl_new hc hf⟩
theorem FQ.learn1 {r0 : Nat} (h : FQ L fb k A cap nb cap2 Q N Lo bm n W) (hc : 0 ≤ k.c) (hQ : PairsOk k.c Q) (hf : fnd k.c Q (wd k.c Q p.1 ++ [byt p.2]) = none) (h0 : fnd k.c Q (wd k.c Q p.1) = some r0) (hp : 0 ≤ p.2 ∧ p.2 ≤ 255) (hm : k.base.toNat ≤ Q.length)
  (hG : Blk W G 144 #[.int .i64 (top k.c Q : Nat), .pointer none]) (hGL : L ≤ G) (hM : MapIs w' bm n' (fun r x => if r = r0 ∧ x = p.2 then some G else inMap k.c Q (Q.take k.base.toNat) N r x)) (hg : W.grownBy w' (some bm)) : Near1 L fb k A cap nb cap2 Q p N (addN N (top k.c Q) G) (fun r => if r = top k.c Q then none else Lo r) bm n' G w' :=
 ⟨h.bx.grown hg (fun e => h.bx.ne_map h.fd.mp (Option.some.inj e)), h.row.kept hg (own_ne_map h.row h.fd.mp), h.nds.kept hg (own_ne_map h.nds h.fd.mp), h.fd.learn hc hQ hf h0 hp hm hG hGL hM hg, h.lb, nl_new hc hf⟩
end
set_option maxHeartbeats 4000000 in
set_option maxRecDepth 100000 in
theorem c_add (L fb : Nat) (k : Kn) (A : Option Addr) (cap nb cap2 : Nat) (N : Nat → Nat) (Lo : Nat → Option Nat) (bm n j : Nat) (p : Pr) (w : World) (hk : k.Ok) (hp : k.ps[j]? = some p) (hL : L ≤ w.heap.size) (hn : n ≤ j) (h : FQ L fb k A cap nb cap2 (k.ps.take j) N Lo bm n w) :
  Calls Tryz.prog 138 #[.pointer (some ⟨fb, 0, none⟩), .int .i64 (j : Int)] w fun e w' => e = .returned (.tuple #[]) ∧ Below L w w' ∧ Calm w w' ∧ ∃ nb' cap2' N' Lo' n', n' ≤ j + 1 ∧ FQ L fb k A cap nb' cap2' (k.ps.take (j + 1)) N' Lo' bm n' w' := by
 have hcb := hk.cbd
 have hlen := hk.len
 have hj := get_lt hp
 have hpo := hk.pairs j p hp
 obtain ⟨p1, p2⟩ := p
 obtain ⟨hpa, hpb, hpc⟩ := hpo
 simp only at hpa hpb hpc
 obtain ⟨a, rfl⟩ : ∃ a : Nat, p1 = a := ⟨p1.toNat, by unfold HasW at hpa; omega⟩
 obtain ⟨x, rfl⟩ : ∃ x : Nat, p2 = x := ⟨p2.toNat, by omega⟩
 have hxl : x ≤ 255 := by omega
 have hQ1 := take_succ_at hp
 have hQok := hk.pairs.take j
 obtain ⟨Q, hQ⟩ : ∃ Q, Q = k.ps.take j := ⟨_, rfl⟩
 have hQl : Q.length = j := by rw [hQ]; simp; omega
 rw [← hQ] at h hQ1 hQok
 rw [hQ1]
 have hw : HasW k.c (a : Int) Q.length := by rw [hQl]; exact hpa
 obtain ⟨r0, h1, h2, h3, h4, h5, _⟩ := h.code (by omega) hw
 rw [Int.toNat_natCast] at h4 h5
 have htop : (a : Int) < ((top k.c Q : Nat) : Int) := by omega
 have htl : top k.c Q ≤ 3000 := by unfold top; omega
 have hrl : r0 ≤ 100000 := by have := h2.ltn (by omega); omega
 obtain ⟨G, rfl⟩ : ∃ G, A = some ⟨G, 0, none⟩ := by
  cases A with
  | none => have := own_none h.row; omega
  | some ad => obtain ⟨G, rfl⟩ := own_some h.row; exact ⟨G, rfl⟩
 obtain ⟨q1, q2⟩ := own_pair h.row j _ hp
 simp only at q1 q2
 have HK := hid hk
 have HX := hid hpc
 have H1 := hid h1
 have H2 := hid h2
 have H := hid h
 have HQ := hid hQok
 have HQl := hid hQl
 have hjl : (j : Int) < (k.ps.length : Nat) := by omega
 obtain ⟨p0, p1, p2, p3, p4, p5, p6, p7⟩ := h.bx.cells8
 have hW0 := h.on (bel_alloc (Below.refl _ w) (.cells #[.int .i64 (a : Int), .int .i64 (x : Int)] 175))
 have s6 := hW0.bx.cell 6
 have s4 := hW0.at_ h5
 rw [nodeAt_has hw] at s4
 have HB0 := hid (Blk.new w 175 #[.int .i64 (a : Int), .int .i64 (x : Int)])
 obtain ⟨t0, t1⟩ := HB0.out.cells2
 have hs4 : (w.alloc (.cells #[.int .i64 (a : Int), .int .i64 (x : Int)] 175)).cell? ⟨nb, a, none⟩ = some (.pointer (some ⟨N r0, 0, none⟩)) := by
  rw [s4, ndAt, h1]; rfl
 obtain ⟨R, hR⟩ : ∃ R, R = ndAt k.c Q N (wd k.c Q (a : Int) ++ [byt (x : Int)]) := ⟨_, rfl⟩
 have HLg := hid (show ∀ (v : World), Below w.heap.size w v → Calls Tryz.prog 136 #[.pointer (some ⟨fb, 0, none⟩), .pointer (some ⟨N r0, 0, none⟩), .int .i64 (x : Int)] v fun e w' => e = .returned (ptr R) ∧ Below v.heap.size v w' from fun v hb => by
  have := c_longer L fb bm n k.base.toNat k.c Q N Lo v (H.out.fd.on hb) ((H.out.bx.on hb).cell 7) r0 h2 hrl x hxl
  rw [(fnd_some h1).2.1, ← hR] at this
  exact this)
 have HR := hid hR
 clear hR hQ1 hQok hw h1 h2 h3 h4 hW0 s4 h hk hp hQ hpa hpb hpc hQl
 go_enter Tryz.func138, Tryz.ntmps138
 go_wp2_with fail
 go_region
 clear p0 p1 p2 p3 p4 p5 p6 p7 q1 q2 s6 hs4
 go_wp2_with fail
 refine (HLg.out _ (by exact obB)).mono ?_
 rintro e w2 ⟨rfl, hb2⟩
 have b2 : Below w.heap.size w w2 := by exact obB
 have HB2 := hid (HB0.out.drew.on hb2)
 have HH := hid (H.out.on b2)
 clear hb2 HLg t0 t1 HB0 H
 obtain ⟨t0, t1⟩ := HB2.out.cells2
 have hz2 : L ≤ w2.heap.size := by have := b2.size; omega
 have hc0 : 0 ≤ k.c := by omega
 have hzf := HH.out.bx.lt
 have hzp : w.heap.size < w2.heap.size := HB2.out.lt
 have hbase := HK.out.base0
 cases hf : fnd k.c Q (wd k.c Q (a : Int) ++ [byt (x : Int)]) with
 | some s =>
  have e1 : R = some (N s) := by rw [HR.out, ndAt, hf]; rfl
  subst e1
  rw [ptr_some]
  have HN1 := hid (HH.out.dup1 (p := ((a : Int), (x : Int))) hc0 hf)
  have bW : Below L w w2 := b2.mono hL
  have cW : Calm w w2 := Calm.of b2
  have hzW : L ≤ w2.heap.size := hz2
  have hn1 : n ≤ j + 1 := by omega
  clear hf HR
  obtain ⟨p0, p1, p2, p3, p4, p5, p6, p7⟩ := HN1.out.bx.cells8
  go_wp2_with (at_builtin; go_loud (refine app_ptr rfl (.tmp 65) (.tmp 67) 109 rfl L 140 Tryz.underlying109 Tryz.info_ptr _ (top k.c Q) (nodesL k.c Q N) rfl HN1.out.nds (some ⟨N s, 0, none⟩) 1 rfl (by omega) hzW ?_; intro v7 w7 hown7 hb7 hg7; obtain ⟨g7, c7, rfl, hga, hgb⟩ := own_form hown7 (by omega); have f7 := (HN1.out.bx7 hg7).frozen 6; have q7 := (HN1.out.bx7 hg7).cell 6))
  go_end0
  exact ⟨rfl, (bW.trans hb7).setCell HH.out.lb _, (cW.trans (HN1.out.calm7 hg7)).trans (Calm.set_ (HN1.out.bx7 hg7) (by decide) 6 _), g7, c7, N, Lo, n, hn1, HN1.out.done hown7 hg7⟩
 | none =>
  have e1 : R = none := by rw [HR.out, ndAt, hf]; rfl
  subst e1
  rw [ptr_none]
  have HF := hid hf
  clear hf HR
  obtain ⟨p0, p1, p2, p3, p4, p5, p6, p7⟩ := HH.out.bx.cells8
  have hal := bel_alloc (Below.refl _ w2) (.cells #[.int .i64 ((top k.c Q : Nat) : Int), .pointer none] 144)
  have H4 := hid (HH.out.on hal)
  have HG := hid (Blk.new w2 144 #[.int .i64 ((top k.c Q : Nat) : Int), .pointer none])
  have hz4 : w2.heap.size < (w2.alloc (.cells #[.int .i64 ((top k.c Q : Nat) : Int), .pointer none] 144)).heap.size := HG.out.lt
  obtain ⟨u0, u1, u2, u3, u4, u5, u6, u7⟩ := H4.out.bx.cells8
  obtain ⟨v0, v1⟩ := (HB2.out.on hal).cells2
  by_cases hm : (j : Int) < k.base
  ·skip
   have hm2 : Q.length < k.base.toNat := by have := HQl.out; omega
   cases hl : Lo r0 with
   | some g0 =>
    have HKp := hid (fun (v : World) (hb : Below w2.heap.size w2 v) => by
     obtain ⟨_, cs, hB, hcs, _⟩ := HH.out.fd.arr r0 g0 H2.out hl
     have hN := HH.out.fd.node r0 H2.out
     rw [hl] at hN
     exact c_keep_some (N r0) g0 r0 x w2.heap.size cs v (hN.on hb) (hB.on hb) hcs hxl)
    have hg0 : L ≤ g0 := (HH.out.fd.arr r0 g0 H2.out hl).1
    have HL := hid hl
    clear hl
    go_wp2_with fail
    refine (HKp.out _ (by exact obB)).mono ?_
    rintro e w5 ⟨rfl, hw5⟩
    have HN1 := hid (show Near1 L fb k (some ⟨G, 0, none⟩) cap nb cap2 Q ((a : Int), (x : Int)) N (addN N (top k.c Q) w2.heap.size) (fun r => if r = top k.c Q then none else Lo r) bm n w2.heap.size w5 by
     rw [hw5]; exact H4.out.keep1 hc0 HQ.out HF.out H1.out rfl hxl hm2 HG.out hz2 HL.out)
    have bW : Below L w w5 := by
     rw [hw5]; exact ((b2.mono hL).trans (hal.mono hz2)).setCell hg0 _
    have cW : Calm w w5 := by
     obtain ⟨_, cs, hB, _, _⟩ := H4.out.fd.arr r0 g0 H2.out HL.out
     rw [hw5]; exact ((Calm.of b2).trans (Calm.of hal)).trans (Calm.set_ hB (by decide) x _)
    have hzW : L ≤ w5.heap.size := Nat.le_trans hL bW.size
    have hn1 : n ≤ j + 1 := by omega
    clear hw5 p0 p1 p2 p3 p4 p5 p6 p7 u0 u1 u2 u3 u4 u5 u6 u7 v0 v1 t0 t1 hm hm2
    obtain ⟨p0, p1, p2, p3, p4, p5, p6, p7⟩ := HN1.out.bx.cells8
    go_wp2_with (at_builtin; go_loud (refine app_ptr rfl (.tmp 65) (.tmp 67) 109 rfl L 140 Tryz.underlying109 Tryz.info_ptr _ (top k.c Q) (nodesL k.c Q N) rfl HN1.out.nds (some ⟨w2.heap.size, 0, none⟩) 1 rfl (by omega) hzW ?_; intro v7 w7 hown7 hb7 hg7; obtain ⟨g7, c7, rfl, hga, hgb⟩ := own_form hown7 (by omega); have f7 := (HN1.out.bx7 hg7).frozen 6; have q7 := (HN1.out.bx7 hg7).cell 6))
    go_end0
    exact ⟨rfl, (bW.trans hb7).setCell HH.out.lb _, (cW.trans (HN1.out.calm7 hg7)).trans (Calm.set_ (HN1.out.bx7 hg7) (by decide) 6 _), g7, c7, (addN N (top k.c Q) w2.heap.size), (fun r => if r = top k.c Q then none else Lo r), n, hn1, HN1.out.done hown7 hg7⟩
   | none =>
    have HKp := hid (fun (v : World) (hb : Below w2.heap.size w2 v) => by
     have hN := HH.out.fd.node r0 H2.out
     rw [hl] at hN
     exact c_keep_none (N r0) r0 x w2.heap.size v (hN.on hb) hxl)
    have hg0 : L ≤ N r0 := HH.out.fd.ge r0 H2.out
    have HL := hid hl
    clear hl
    go_wp2_with fail
    refine (HKp.out _ (by exact obB)).mono ?_
    rintro e w5 ⟨rfl, hw5⟩
    obtain ⟨Lo5, HN1⟩ : ∃ Lo5, Hid (Near1 L fb k (some ⟨G, 0, none⟩) cap nb cap2 Q ((a : Int), (x : Int)) N (addN N (top k.c Q) w2.heap.size) Lo5 bm n w2.heap.size w5) := ⟨_, hid (by
     rw [hw5]; exact H4.out.keep0 hc0 HQ.out HF.out H1.out rfl hxl hm2 (by omega) HG.out hz2 HL.out)⟩
    have bW : Below L w w5 := by
     rw [hw5]; exact (((b2.mono hL).trans (hal.mono hz2)).setCell hg0 _).alloc (by simp [World.setCell]; omega) _
    have cW : Calm w w5 := by
     rw [hw5]; exact (((Calm.of b2).trans (Calm.of hal)).trans (Calm.set_ (H4.out.fd.node r0 H2.out) (by decide) 1 _)).trans (Calm.of (bel_alloc (Below.refl _ _) _))
    have hzW : L ≤ w5.heap.size := Nat.le_trans hL bW.size
    have hn1 : n ≤ j + 1 := by omega
    clear hw5 p0 p1 p2 p3 p4 p5 p6 p7 u0 u1 u2 u3 u4 u5 u6 u7 v0 v1 t0 t1 hm hm2
    obtain ⟨p0, p1, p2, p3, p4, p5, p6, p7⟩ := HN1.out.bx.cells8
    go_wp2_with (at_builtin; go_loud (refine app_ptr rfl (.tmp 65) (.tmp 67) 109 rfl L 140 Tryz.underlying109 Tryz.info_ptr _ (top k.c Q) (nodesL k.c Q N) rfl HN1.out.nds (some ⟨w2.heap.size, 0, none⟩) 1 rfl (by omega) hzW ?_; intro v7 w7 hown7 hb7 hg7; obtain ⟨g7, c7, rfl, hga, hgb⟩ := own_form hown7 (by omega); have f7 := (HN1.out.bx7 hg7).frozen 6; have q7 := (HN1.out.bx7 hg7).cell 6))
    go_end0
    exact ⟨rfl, (bW.trans hb7).setCell HH.out.lb _, (cW.trans (HN1.out.calm7 hg7)).trans (Calm.set_ (HN1.out.bx7 hg7) (by decide) 6 _), g7, c7, (addN N (top k.c Q) w2.heap.size), Lo5, n, hn1, HN1.out.done hown7 hg7⟩
  ·skip
   have hm2 : k.base.toNat ≤ Q.length := by have := HQl.out; omega
   have HN4 := hid (H4.out.fd.node r0 H2.out)
   obtain ⟨y0, y1⟩ := HN4.out.cells2
   obtain ⟨w5, hrun, hM, hg5⟩ := H4.out.fd.mp.drew.store (by omega) hrl (show 0 ≤ (x : Int) ∧ (x : Int) ≤ 255 by omega) w2.heap.size
   have HM := hid hM
   have HG5 := hid hg5
   clear hM hg5
   go_wp2_with fail
   go_region
   all_goals
    have HN1 := hid (show Near1 L fb k (some ⟨G, 0, none⟩) cap nb cap2 Q ((a : Int), (x : Int)) N (addN N (top k.c Q) w2.heap.size) (fun r => if r = top k.c Q then none else Lo r) bm (n + 1) w2.heap.size w5 from
     FQ.learn1 (H4.out.on (bel_drew (Below.refl _ _))) hc0 HQ.out HF.out H1.out (by omega) hm2 HG.out.drew hz2 HM.out HG5.out)
    have bW : Below L w w5 := (((b2.mono hL).trans (hal.mono hz2)).drew).trans (below_of_grown HG5.out (by simp; omega) (fun g e => by obtain rfl := Option.some.inj e; exact HH.out.fd.mge))
    have cW : Calm w w5 := ((Calm.of b2).trans (Calm.of hal)).drew.trans (Calm.grown HG5.out (fun g e => Or.inr (by obtain rfl := Option.some.inj e; exact H4.out.fd.mp.obj)))
    have hzW : L ≤ w5.heap.size := Nat.le_trans hL bW.size
    have hn1 : n + 1 ≤ j + 1 := by omega
    clear hrun p0 p1 p2 p3 p4 p5 p6 p7 u0 u1 u2 u3 u4 u5 u6 u7 v0 v1 t0 t1 y0 y1 hm hm2
    obtain ⟨p0, p1, p2, p3, p4, p5, p6, p7⟩ := HN1.out.bx.cells8
    go_wp2_with (at_builtin; go_loud (refine app_ptr rfl (.tmp 65) (.tmp 67) 109 rfl L 140 Tryz.underlying109 Tryz.info_ptr _ (top k.c Q) (nodesL k.c Q N) rfl HN1.out.nds (some ⟨w2.heap.size, 0, none⟩) 1 rfl (by omega) hzW ?_; intro v7 w7 hown7 hb7 hg7; obtain ⟨g7, c7, rfl, hga, hgb⟩ := own_form hown7 (by omega); have f7 := (HN1.out.bx7 hg7).frozen 6; have q7 := (HN1.out.bx7 hg7).cell 6))
    go_end0
    exact ⟨rfl, (bW.trans hb7).setCell HH.out.lb _, (cW.trans (HN1.out.calm7 hg7)).trans (Calm.set_ (HN1.out.bx7 hg7) (by decide) 6 _), g7, c7, (addN N (top k.c Q) w2.heap.size), (fun r => if r = top k.c Q then none else Lo r), (n + 1), hn1, HN1.out.done hown7 hg7⟩
end
end Go.Proofs.YtmlaaammfnboiaaGreatDoor
