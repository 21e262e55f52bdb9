/- The finder in memory; the contract of longest. No condition but that what is known is valid. -/
import Derived.Test.YtblmifbpoopbdaaNl
import Derived.Test.YtblmifbpoopbdaaBg
import Derived.Test.YtblmifbpoopbdaaGo
import Derived.LaidEqlPtr
namespace Go.Proofs.Ytblmifbpoopbdaa
open Go.ChangeShapes Go.WideShapes Go.ChangeAt Go.RowKit Go.Joins
set_option linter.unusedVariables false

/-- the finder in block fb: what is known, the nodes by code, tables and the map, of the pairs Q -/
structure FQ (L fb : Nat) (k : Kn) (A : Option Addr) (cap nb cap2 : Nat) (Q : List Pr) (N : Nat → Nat) (Lo : Nat → Option Nat) (bm n : Nat) (wr : World) : Prop where
  bx : Blk wr fb 146 #[.int .i64 k.o, .int .i64 k.l, .int .i64 k.m, .slice A k.ps.length cap, .int .i64 k.base, .int .i64 k.last, .slice (some ⟨nb, 0, none⟩) (top k.c Q) cap2, .map (some bm)]
  row : wr.ownsRow L 182 2 (.slice A k.ps.length cap) k.ps.length (prs k.ps)
  nds : wr.ownsRow L 186 1 (.slice (some ⟨nb, 0, none⟩) (top k.c Q) cap2) (top k.c Q) (nodesL k.c Q N)
  fd : Fd L k.c Q k.base.toNat N Lo bm n wr
  lb : L ≤ fb
theorem Blk.cells8 {w : World} {g : Nat} {t : TypeId} {a b c d e f x y : Value} (h : Blk w g t #[a, b, c, d, e, f, x, y]) : w.cell? ⟨g, 0, none⟩ = some a ∧ w.cell? ⟨g, 1, none⟩ = some b ∧ w.cell? ⟨g, 2, none⟩ = some c ∧ w.cell? ⟨g, 3, none⟩ = some d ∧ w.cell? ⟨g, 4, none⟩ = some e ∧ w.cell? ⟨g, 5, none⟩ = some f ∧ w.cell? ⟨g, 6, none⟩ = some x ∧ w.cell? ⟨g, 7, none⟩ = some y := ⟨h.cell 0, h.cell 1, h.cell 2, h.cell 3, h.cell 4, h.cell 5, h.cell 6, h.cell 7⟩
theorem own_at1 {w : World} {B : Nat} {e : TypeId} {G n cap : Nat} {xs : List Value} (h : w.ownsRow B e 1 (.slice (some ⟨G, 0, none⟩) n cap) n xs) (k : Nat) (v : Value) (hk : xs[k]? = some v) : w.cell? ⟨G, k, none⟩ = some v := by
  obtain ⟨hl, ⟨h1, _⟩ | ⟨g, cap', cur, e1, hB, hh, hn, hm, hs, ht⟩⟩ := h
  · simp at h1
  · simp at e1
    obtain ⟨rfl, rfl⟩ := e1
    rw [cell_of_row w G k cur e (0, 0) hh]
    rw [← ht, List.getElem?_take] at hk
    split at hk
    · simpa using hk
    · cases hk
theorem Fd.on {L : Nat} {c : Int} {Q : List Pr} {m : Nat} {N : Nat → Nat} {Lo : Nat → Option Nat} {bm n : Nat} {wr w' : World} (h : Fd L c Q m N Lo bm n wr) (hb : Below wr.heap.size wr w') : Fd L c Q m N Lo bm n w' :=
  ⟨fun r hr => (h.node r hr).on hb, h.ge, fun r g hr hl => by
    obtain ⟨h1, cs, h2, h3⟩ := h.arr r g hr hl
    exact ⟨h1, cs, h2.on hb, h3⟩, h.bare, h.one, h.mp.kept (grown_below none hb) (by simp), h.mge⟩
theorem node_info : ∃ j, Try.prog.info? 189 = some j ∧ j.size ≠ 0 := by
  have h : (Try.prog.info? 189).map (·.size) = some 2 := by kernel_rfl
  cases hi : Try.prog.info? 189 with
  | none => rw [hi] at h; cases h
  | some j => rw [hi] at h; simp at h; exact ⟨j, rfl, by omega⟩
section
variable {L fb : Nat} {k : Kn} {A : Option Addr} {cap nb cap2 : Nat} {Q : List Pr} {N : Nat → Nat} {Lo : Nat → Option Nat} {bm n : Nat} {wr w' : World}
theorem FQ.on (h : FQ L fb k A cap nb cap2 Q N Lo bm n wr) (hb : Below wr.heap.size wr w') : FQ L fb k A cap nb cap2 Q N Lo bm n w' :=
  ⟨h.bx.on hb, own_on h.row hb, own_on h.nds hb, h.fd.on hb, h.lb⟩
theorem FQ.kat (h : FQ L fb k A cap nb cap2 Q N Lo bm n wr) : KAt wr fb k (.slice A k.ps.length cap) := by
  obtain ⟨p0, p1, p2, p3, p4, p5, _⟩ := h.bx.cells8
  exact ⟨h.bx.lt, p0, p1, p2, p3, p4, p5⟩
theorem FQ.at_ (h : FQ L fb k A cap nb cap2 Q N Lo bm n wr) {j : Nat} (hj : j < top k.c Q) : wr.cell? ⟨nb, j, none⟩ = some (nodeAt k.c Q N j) := own_at1 h.nds j _ (nodesL_get hj N)
/-- the node of a code -/
theorem FQ.code (h : FQ L fb k A cap nb cap2 Q N Lo bm n wr) (hc : 0 ≤ k.c) {code : Int} (hw : HasW k.c code Q.length) : ∃ r, fnd k.c Q (wd k.c Q code) = some r ∧ Lst k.c Q r ∧ (r : Int) ≤ code ∧ wr.cell? ⟨nb, code.toNat, none⟩ = some (.pointer (some ⟨N r, 0, none⟩)) ∧ code.toNat < top k.c Q ∧ 0 ≤ code := by
  obtain ⟨r, h1, h2, h3, h4⟩ := ndAt_has hc hw N
  have h0 : 0 ≤ code := by unfold HasW at hw; omega
  have ht : code.toNat < top k.c Q := by unfold HasW at hw; unfold top; omega
  have e : ((code.toNat : Nat) : Int) = code := by omega
  refine ⟨r, h1, h2, h4, ?_, ht, h0⟩
  rw [h.at_ ht, nodeAt_has (by rw [e]; exact hw), e, h3]; rfl
/-- nodes of least codes are equal only if the codes are -/
theorem Fd.eql {c : Int} {m : Nat} (h : Fd L c Q m N Lo bm n wr) {r s : Nat} (hr : Lst c Q r) (hs : Lst c Q s) (w : World) (hb : Below wr.heap.size wr w) : (binOp .eql 186 (.pointer (some ⟨N r, 0, none⟩)) (.pointer (some ⟨N s, 0, none⟩))).run Try.prog w = .ok (.bool (decide (r = s))) w := by
  have h1 := (h.node r hr).on hb
  have h2 := (h.node s hs).on hb
  obtain ⟨j, hj, hjs⟩ := node_info
  by_cases he : r = s
  · subst he
    rw [run_eql_ptr_same w _ Try.underlying186 hj]
    simp
  · have hne : (⟨N r, 0, none⟩ : Addr) ≠ ⟨N s, 0, none⟩ := by
      intro e
      have e1 : N r = N s := by simpa using e
      have c1 := h1.cell 0
      have c2 := h2.cell 0
      rw [e1, c2] at c1
      simp at c1
      omega
    rw [run_eql_ptr_other w Try.underlying186 hj hjs hne h1 h2]
    simp [he]
end
end Go.Proofs.Ytblmifbpoopbdaa
