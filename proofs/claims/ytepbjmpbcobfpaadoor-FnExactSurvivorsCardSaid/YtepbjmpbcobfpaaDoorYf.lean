/- Rows of blocks: what is read of them, append of one. No condition. -/
import Derived.Test.YtepbjmpbcobfpaaDoorYj
import Derived.Test.YtepbjmpbcobfpaaDoorBb
namespace Go.Proofs.YtepbjmpbcobfpaaDoor
open Go.ChangeShapes Go.WideShapes Go.ChangeAt Go.RowKit Go.Joins
set_option linter.unusedVariables false
set_option linter.unusedSimpArgs false

def bv (b : Bl) : List Value := [.int .i64 b.n, .bool b.raw, .int .i64 b.z, .string b.body]
def bvs (l : List Bl) : List Value := l.flatMap bv
theorem bvs_cons (b : Bl) (l : List Bl) : bvs (b :: l) = bv b ++ bvs l := by simp [bvs]
theorem bvs_append (l r : List Bl) : bvs (l ++ r) = bvs l ++ bvs r := by simp [bvs]
theorem bvs_len (l : List Bl) : (bvs l).length = l.length * 4 := by
  induction l with
  | nil => rfl
  | cons b l ih => rw [bvs_cons, List.length_append, ih]; simp [bv]; omega
theorem bvs_get (l : List Bl) (i : Nat) (b : Bl) (h : l[i]? = some b) (k : Nat) (hk : k < 4) : (bvs l)[i * 4 + k]? = (bv b)[k]? := by
  induction l generalizing i with
  | nil => simp at h
  | cons c l ih =>
    rw [bvs_cons]
    cases i with
    | zero =>
      simp at h; subst h
      rw [List.getElem?_append_left (by simp [bv]; omega)]
      simp
    | succ i =>
      rw [List.getElem?_append_right (by simp [bv]; omega)]
      have := ih i (by simpa using h)
      rw [← this]
      congr 1
      simp [bv]; omega

def BlsAt (w : World) (L : Nat) (A : Option Addr) (cap : Nat) (l : List Bl) : Prop :=
  l.length ≤ cap ∧ cap ≤ maxLen ∧ (A = none → cap = 0) ∧ (0 < l.length → ∃ g off, A = some ⟨g, off, none⟩ ∧ g < L ∧ ∀ i b, l[i]? = some b → w.cell? ⟨g, off + i * 4, none⟩ = some (.int .i64 b.n) ∧ w.cell? ⟨g, off + i * 4 + 1, none⟩ = some (.bool b.raw) ∧ w.cell? ⟨g, off + i * 4 + 2, none⟩ = some (.int .i64 b.z) ∧ w.cell? ⟨g, off + i * 4 + 3, none⟩ = some (.string b.body))
theorem BlsAt.keep {w w' : World} {L cap : Nat} {A : Option Addr} {l : List Bl} (h : BlsAt w L A cap l) (hk : ∀ k, k < L → w'.heap[k]? = w.heap[k]?) : BlsAt w' L A cap l :=
  ⟨h.1, h.2.1, h.2.2.1, fun hn => by
    obtain ⟨b, off, e, hb, hc⟩ := h.2.2.2 hn
    refine ⟨b, off, e, hb, fun i p hi => ?_⟩
    have h1 := hc i p hi
    exact ⟨(World.cell?_of_block (a := ⟨b, off + i * 4, none⟩) (hk b hb)).trans h1.1, (World.cell?_of_block (a := ⟨b, off + i * 4 + 1, none⟩) (hk b hb)).trans h1.2.1, (World.cell?_of_block (a := ⟨b, off + i * 4 + 2, none⟩) (hk b hb)).trans h1.2.2.1, (World.cell?_of_block (a := ⟨b, off + i * 4 + 3, none⟩) (hk b hb)).trans h1.2.2.2⟩⟩
theorem BlsAt.below {w w' : World} {L B cap : Nat} {A : Option Addr} {l : List Bl} (h : BlsAt w L A cap l) (hb : Below B w w') (hL : L ≤ B) : BlsAt w' L A cap l :=
  h.keep fun k hk => hb.block k (by omega)
theorem BlsAt.nil (w : World) (L : Nat) : BlsAt w L none 0 [] := ⟨by simp, by simp [maxLen], fun _ => rfl, fun h => by simp at h⟩
theorem bl_at {w : World} {L cap : Nat} {A : Option Addr} {l : List Bl} (h : BlsAt w L A cap l) (i : Nat) (hi : i < l.length) : ∃ g off, A = some ⟨g, off, none⟩ ∧ g < L ∧ w.cell? ⟨g, off + i * 4, none⟩ = some (.int .i64 l[i].n) ∧ w.cell? ⟨g, off + i * 4 + 1, none⟩ = some (.bool l[i].raw) ∧ w.cell? ⟨g, off + i * 4 + 2, none⟩ = some (.int .i64 l[i].z) ∧ w.cell? ⟨g, off + i * 4 + 3, none⟩ = some (.string l[i].body) := by
  obtain ⟨g, off, e, hg, hc⟩ := h.2.2.2 (by omega)
  have := hc i l[i] (List.getElem?_eq_getElem hi)
  exact ⟨g, off, e, hg, this.1, this.2.1, this.2.2.1, this.2.2.2⟩

theorem own_bls {w : World} {B : Nat} {e : TypeId} {v : Value} {n : Nat} {l : List Bl} (h : w.ownsRow B e 4 v n (bvs l)) : ∃ A cap, v = .slice A l.length cap ∧ BlsAt w w.heap.size A cap l ∧ n = l.length := by
  have hl := h.1
  rw [bvs_len] at hl
  have hn : n = l.length := by omega
  subst hn
  have hlt := h.lt
  rcases h.2 with ⟨rfl, h0⟩ | ⟨g, cap, cur, rfl, hb, hh, hnc, hcm, hsz, htk⟩
  · have : l = [] := List.length_eq_zero_iff.1 h0
    subst this
    exact ⟨none, 0, rfl, BlsAt.nil _ _, rfl⟩
  · have hg := hlt g rfl
    refine ⟨some ⟨g, 0, none⟩, cap, rfl, ⟨hnc, hcm, by simp, fun hn => ⟨g, 0, rfl, hg.2, fun i p hi => ?_⟩⟩, rfl⟩
    have hi2 := get_lt hi
    have c0 := h.cellAt (i * 4 + 0) (by omega)
    have c1 := h.cellAt (i * 4 + 1) (by omega)
    have c2 := h.cellAt (i * 4 + 2) (by omega)
    have c3 := h.cellAt (i * 4 + 3) (by omega)
    rw [bvs_get l i p hi 0 (by omega)] at c0
    rw [bvs_get l i p hi 1 (by omega)] at c1
    rw [bvs_get l i p hi 2 (by omega)] at c2
    rw [bvs_get l i p hi 3 (by omega)] at c3
    simp only [Nat.zero_add]
    exact ⟨c0, c1, c2, c3⟩

theorem bl_new (w : World) (x y z u : Value) (t : TypeId) (b : Bl) (hx : [x, y, z, u] = bv b) : ∀ j q, (bv b)[j]? = some q → (w.alloc (.cells #[x, y, z, u] t)).cell? ((⟨w.heap.size, 0, none⟩ : Addr).add j) = some q := by
  rw [← hx]
  intro j q hj
  have hN := Blk.new w t #[x, y, z, u]
  have h := hN.cell j
  have e : (⟨w.heap.size, 0, none⟩ : Addr).add j = ⟨w.heap.size, j, none⟩ := by simp [Addr.add]; intro h; exact h.symm
  rw [e, h]
  simpa using hj

theorem Tryd.info_block : (Tryd.prog.info? 35).map (fun i => (i.zero, i.size, i.bytes)) = some (some (.agg #[.int .i64 0, .bool false, .int .i64 0, .string ByteArray.empty]), 4, 40) := by kernel_rfl

/-- 'out = append(out, b)' of one block, out the call's own: ONE goal is left. -/
theorem app_bl {P : Program} {w : World} {ops : Array Oper} {rest : List Oper} {o : Oper} {a : Act} {Q : Exit → Act → World → Prop} (hgd : o.guard = none) (s x : Operand) (t : TypeId)
    (ho : o.op = .call { callee := .builtin .append, args := #[s, x], argTypes := #[t, t] }) (B : Nat) (e : TypeId) (ht : P.underlying t = some (.slice e))
    (hinfo : (P.info? e).map (fun i => (i.zero, i.size, i.bytes)) = some (some (.agg #[.int .i64 0, .bool false, .int .i64 0, .string ByteArray.empty]), 4, 40)) (v : Value) (n : Nat) (l : List Bl) (hs : a.eval s = v) (hown : w.ownsRow B e 4 v n (bvs l)) (b : Bl) (X Y Z U : Value) (hX : [X, Y, Z, U] = bv b) (cp : Nat)
    (hx : a.eval x = .slice (some ⟨w.heap.size, 0, none⟩) 1 cp) (hn : n ≤ 1000000000) (hB : B ≤ w.heap.size)
    (h : ∀ v' w', w'.ownsRow B e 4 v' (n + 1) (bvs (l ++ [b])) → Below B w w' → w.grownBy w' v.ownBlock → wpList P ops Q rest (a.put o.dst v') w') : wpList P ops Q (o :: rest) a (w.alloc (.cells #[X, Y, Z, U] e)) := by
  obtain ⟨i0, hi, hz0, hz1, hz2⟩ := info_parts hinfo
  refine wpList_append_own _ hgd s x t ho B e i0 (.agg #[.int .i64 0, .bool false, .int .i64 0, .string ByteArray.empty]) 4 40 ht hi hz0 hz1 hz2 rfl (by decide) v n (bvs l) hs (hown.alloc _) ⟨w.heap.size, 0, none⟩ 1 cp (bv b) hx rfl (bl_new w _ _ _ _ e b hX) ?_ ?_ (by omega) ?_ ?_
  · intro u hu; simp [bv] at hu; rcases hu with rfl | rfl | rfl | rfl <;> rfl
  · unfold maxLen; omega
  · have := World.size_alloc w (.cells #[X, Y, Z, U] e); omega
  · intro v' w' hown' hg _
    have hg2 : w.grownBy w' v.ownBlock := grown_trans (World.grownBy_alloc w _ _) hg
    refine h v' w' ?_ (below_of_grown hg2 hB (fun g hg => (hown.lt g hg).1)) hg2
    rw [bvs_append, show bvs [b] = bv b from by simp [bvs]]; exact hown'
end Go.Proofs.YtepbjmpbcobfpaaDoor
