/- Slices of places that a call owns: the laws' own helpers on them; the places of blocks in the model. No condition but that they are few. -/
import Derived.Test.YtepbjmpbcobfpaaDoorTa
import Derived.Test.YtepbjmpbcobfpaaDoorBb
import Derived.Deep.SlicePairs
namespace Go.Proofs.YtepbjmpbcobfpaaDoor
open Go.ChangeShapes Go.WideShapes Go.ChangeAt Go.RowKit Go.Joins
set_option linter.unusedVariables false
set_option linter.unusedSimpArgs false

theorem pq_at {w : World} {L cap : Nat} {A : Option Addr} {ps : List Pr} (h : PsAt w L A cap ps) (i : Nat) (hi : i < ps.length) : ∃ b off, A = some ⟨b, off, none⟩ ∧ b < L ∧ w.cell? ⟨b, off + i * 2, none⟩ = some (.int .i64 ps[i].1) ∧ w.cell? ⟨b, off + i * 2 + 1, none⟩ = some (.int .i64 ps[i].2) := by
  obtain ⟨b, off, e, hb, hc⟩ := h.2.2.2 (by omega)
  have := hc i ps[i] (List.getElem?_eq_getElem hi)
  exact ⟨b, off, e, hb, this.1, this.2⟩

theorem own_pq {w : World} {B : Nat} {e : TypeId} {G n cap : Nat} {l : List Pr} (h : w.ownsRow B e 2 (.slice (some ⟨G, 0, none⟩) n cap) n (prs l)) (k : Nat) (p : Pr) (hk : l[k]? = some p) : w.cell? ⟨G, k * 2, none⟩ = some (.int .i64 p.1) ∧ w.cell? ⟨G, k * 2 + 1, none⟩ = some (.int .i64 p.2) := by
  have hl := h.1
  rw [prs_len] at hl
  have hk2 := get_lt hk
  have := prs_get l k p hk
  exact ⟨(h.cellAt _ (by omega)).trans this.1, (h.cellAt _ (by omega)).trans this.2⟩

/-- the pairs that hold the numbers from s on -/
def mkq (n : Nat) (s : Int) : List Pr := (List.range n).map fun (i : Nat) => (s + 2 * (i : Int), s + 2 * (i : Int) + 1)
theorem mkq_len (n : Nat) (s : Int) : (mkq n s).length = n := by simp [mkq]
theorem mkq_get (n : Nat) (s : Int) (i : Nat) (h : i < n) : (mkq n s)[i]? = some (s + 2 * i, s + 2 * i + 1) := by simp [mkq, h]
theorem mkq_succ (n : Nat) (s : Int) : mkq (n + 1) s = mkq n s ++ [(s + 2 * n, s + 2 * n + 1)] := by simp [mkq, List.range_succ]

theorem pls_len (cs : List Bl) : (pls cs).length = cs.length := by simp [pls]
theorem pls_take_succ (l : List Bl) (k : Nat) (h : k < l.length) : pls (l.take (k + 1)) = pls (l.take k) ++ [(((txt (l.take k)).length : Int), (zs (l.take k) : Int))] := by
  rw [List.take_succ_eq_append_getElem h, pls_snoc]
theorem txt_take_succ (l : List Bl) (k : Nat) (h : k < l.length) : (txt (l.take (k + 1))).length = (txt (l.take k)).length + (10 + l[k].body.size) := by
  rw [List.take_succ_eq_append_getElem h, txt_snoc, List.length_append, Bl.text_len]
theorem Rdg.okAll {L : List UInt8} {bs : List Bl} (h : Rdg L bs) : ∀ b ∈ bs, b.ok := fun b hb => by
  obtain ⟨i, hi, rfl⟩ := List.getElem_of_mem hb
  exact (h.1 i bs[i] (List.getElem?_eq_getElem hi)).1
theorem own_pl0 (W : World) (B : Nat) (hB : B ≤ W.heap.size) : (W.alloc (.cells #[] 52)).ownsRow B 52 2 (.slice (some ⟨W.heap.size, 0, none⟩) 0 0) 0 (prs []) := World.ownsRow_made (e := 52) (size := 2) (base := B) W #[] 0 hB (by simp) (by simp [maxLen])
end Go.Proofs.YtepbjmpbcobfpaaDoor
