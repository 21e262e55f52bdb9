/- Contracts of the model's own drawing of arguments: an element of a list; the arguments of the first chapter. -/
import Derived.Test.YtlekjmgjnnljcaaDraw
namespace Go.Proofs.Ytlekjmgjnnljcaa
open Go.ChangeShapes Go.WideShapes Go.ChangeAt Go.RowKit Go.Joins
set_option linter.unusedVariables false

/-- the numbers of a list, in block g -/
def IntsAt (w : World) (g : Nat) (l : List Int) : Prop := ∀ i x, l[i]? = some x → w.cell? ⟨g, i, none⟩ = some (.int .i64 x)

def OneOf (T : TypeId) (w : World) (L B q : Nat) (l : List Int) (e : Ending) (w' : World) : Prop := ∃ r : Int, e = .returned (.int .i64 r) ∧ r ∈ l ∧ Rd T w' L B (q + 1) ∧ w.grownBy w' (some B)

theorem c_num (L B q g n : Nat) (l : List Int) (w : World) (hr : Rd 51 w L B q) (hq : q ≤ 1000000000000) (hl : IntsAt w g l) (hn : l.length = n) (h0 : 0 < n) (h1 : n ≤ 1000) (hg : g ≠ B) :
    Calls Try.prog 29 #[.pointer (some ⟨B, 0, none⟩), .slice (some ⟨g, 0, none⟩) n n] w (OneOf 51 w L B q l) := by
  have HN := hid hn
  clear hn
  go_enter Try.func29, Try.ntmps29
  go_wp2_with fail
  refine (c_pick L B q n w hr hq (by omega)).mono ?_
  rintro e w1 ⟨r, rfl, hr0, hr1, _, hrd, hgr⟩
  have hr2 := hr1 (by omega)
  obtain ⟨R, rfl⟩ := Int.eq_ofNat_of_zero_le hr0
  have hRl : R < l.length := by rw [HN.out]; omega
  obtain ⟨x, hx⟩ : ∃ x, l[R]? = some x := ⟨l[R], List.getElem?_eq_getElem hRl⟩
  have hc : w1.cell? ⟨g, R, none⟩ = some (.int .i64 x) := hgr.cell (hl R x hx) (by simp; omega)
  have HM := hid (List.mem_of_getElem? hx)
  clear hx hr1 hRl
  go_wp2
  go_ret
  exact ⟨x, rfl, HM.out, hrd, hgr⟩

theorem intsAt_new (w : World) (t : TypeId) (l : List Int) : IntsAt (w.alloc (.cells (l.map (Value.int .i64)).toArray t)) w.heap.size l := by
  intro i x hx
  rw [(Blk.new w t (l.map (Value.int .i64)).toArray).cell i]
  simp [hx]

theorem Rd.alloc {T : TypeId} {w : World} {L B q : Nat} (h : Rd T w L B q) (o : Obj) : Rd T (w.alloc o) L B q := by
  obtain ⟨A, n, cap, p, hb, hc, hn, hL, h0, h1⟩ := h
  have := hb.lt
  exact ⟨A, n, cap, p, hb.alloc o, hc.keep (fun k hk => Below.heap_alloc w o k (by omega)), hn, hL, h0, h1⟩
theorem Rd.lt {T : TypeId} {w : World} {L B q : Nat} (h : Rd T w L B q) : B < w.heap.size := by
  obtain ⟨A, n, cap, p, hb, _⟩ := h; exact hb.lt
theorem bel_grown {w0 w w' : World} {B : Nat} (h : Below w0.heap.size w0 w) (hg : w.grownBy w' (some B)) (hB : w0.heap.size ≤ B) : Below w0.heap.size w0 w' :=
  h.trans (below_of_grown hg h.size (fun g hg => by simp at hg; omega))
theorem wrap64_bd (n : Int) : -9223372036854775808 ≤ wrap64 n ∧ wrap64 n ≤ 9223372036854775807 := by unfold wrap64; omega
end Go.Proofs.Ytlekjmgjnnljcaa
