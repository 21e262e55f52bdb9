/- Laws of make, append and store on slices of pairs that the call itself owns. No condition. -/
import Derived.Test.YtoiifopjipfjhaaPm
import Derived.Laws.AppendOwnNone
namespace Go.Proofs.Ytoiifopjipfjhaa
open Go.ChangeShapes Go.WideShapes Go.ChangeAt Go.RowKit Go.Joins
set_option linter.unusedVariables false

theorem pair_new (w : World) (x y : Value) (t : TypeId) (p : Pr) (hx : x = .int .i64 p.1) (hy : y = .int .i64 p.2) : ∀ j u, (pv p)[j]? = some u → (w.alloc (.cells #[x, y] t)).cell? ((⟨w.heap.size, 0, none⟩ : Addr).add j) = some u := by
  subst hx hy
  exact two_new w _ _ t

/-- 'out = append(out, p)' of one pair, out the call's own: ONE goal is left. -/
theorem app_pair {P : Program} {w : World} {ops : Array Oper} {rest : List Oper} {o : Oper} {a : Act} {Q : Exit → Act → World → Prop} (hgd : o.guard = none) (s x : Operand) (t : TypeId)
    (ho : o.op = .call { callee := .builtin .append, args := #[s, x], argTypes := #[t, t] }) (B : Nat) (e : TypeId) (ht : P.underlying t = some (.slice e))
    (hinfo : (P.info? e).map (fun i => (i.zero, i.size, i.bytes)) = some (some (.agg #[.int .i64 0, .int .i64 0]), 2, 16)) (v : Value) (n : Nat) (l : List Pr) (hs : a.eval s = v) (hown : w.ownsRow B e 2 v n (prs l)) (p : Pr) (X Y : Value) (hX : X = .int .i64 p.1) (hY : Y = .int .i64 p.2) (cp : Nat)
    (hx : a.eval x = .slice (some ⟨w.heap.size, 0, none⟩) 1 cp) (hn : n ≤ 1000000000000) (hB : B ≤ w.heap.size)
    (h : ∀ v' w', w'.ownsRow B e 2 v' (n + 1) (prs (l ++ [p])) → Below B w w' → w.grownBy w' v.ownBlock → wpList P ops Q rest (a.put o.dst v') w') : wpList P ops Q (o :: rest) a (w.alloc (.cells #[X, Y] e)) := by
  obtain ⟨i0, hi, hz0, hz1, hz2⟩ := info_parts hinfo
  refine wpList_append_own _ hgd s x t ho B e i0 (.agg #[.int .i64 0, .int .i64 0]) 2 16 ht hi hz0 hz1 hz2 rfl (by decide) v n (prs l) hs (hown.alloc _) ⟨w.heap.size, 0, none⟩ 1 cp (pv p) hx rfl (pair_new w _ _ e p hX hY) ?_ ?_ (by omega) ?_ ?_
  · intro u hu; simp [pv] at hu; rcases hu with rfl | rfl <;> rfl
  · unfold maxLen; omega
  · have := World.size_alloc w (.cells #[X, Y] e); omega
  · intro v' w' hown' hg _
    have hg2 : w.grownBy w' v.ownBlock := grown_trans (World.grownBy_alloc w _ _) hg
    refine h v' w' ?_ (below_of_grown hg2 hB (fun g hg => (hown.lt g hg).1)) hg2
    rw [prs_append]; exact hown'

/-- 'out = append(out, s...)', out the call's own, s any slice of pairs: ONE goal is left. -/
theorem app_pairs {P : Program} {w : World} {ops : Array Oper} {rest : List Oper} {o : Oper} {a : Act} {Q : Exit → Act → World → Prop} (hgd : o.guard = none) (s x : Operand) (t : TypeId)
    (ho : o.op = .call { callee := .builtin .append, args := #[s, x], argTypes := #[t, t] }) (B : Nat) (e : TypeId) (ht : P.underlying t = some (.slice e))
    (hinfo : (P.info? e).map (fun i => (i.zero, i.size, i.bytes)) = some (some (.agg #[.int .i64 0, .int .i64 0]), 2, 16)) (v : Value) (n : Nat) (l : List Pr) (hs : a.eval s = v) (hown : w.ownsRow B e 2 v n (prs l)) (A : Option Addr) (cap L m : Nat) (ps : List Pr) (hA : PsAt w L A cap ps) (hm : m = ps.length)
    (hx : a.eval x = .slice A m cap) (hn : n + ps.length ≤ 1000000000000) (hB : B ≤ w.heap.size)
    (h : ∀ v' w', w'.ownsRow B e 2 v' (n + ps.length) (prs (l ++ ps)) → Below B w w' → w.grownBy w' v.ownBlock → wpList P ops Q rest (a.put o.dst v') w') : wpList P ops Q (o :: rest) a w := by
  subst hm
  obtain ⟨i0, hi, hz0, hz1, hz2⟩ := info_parts hinfo
  cases A with
  | none =>
    have hc := hA.2.2.1 rfl
    subst hc
    have h0 : ps = [] := List.length_eq_zero_iff.1 (by have := hA.1; omega)
    subst h0
    refine wpList_append_own_none hgd s x t ho B e i0 2 ht hi v n (prs l) hs hown hx ?_
    exact h v w (by simpa using hown) (Below.refl _ _) (grown_refl _ _)
  | some ad =>
    refine wpList_append_own _ hgd s x t ho B e i0 (.agg #[.int .i64 0, .int .i64 0]) 2 16 ht hi hz0 hz1 hz2 rfl (by decide) v n (prs l) hs hown ad ps.length cap (prs ps) hx (prs_len _) ?_ (prs_one _) ?_ (by omega) hB ?_
    · intro j u hj
      have hjl := get_lt hj
      rw [prs_len] at hjl
      obtain ⟨b, off, e1, _, hc⟩ := hA.2.2.2 (by omega)
      simp at e1
      subst e1
      have hg : ps[j / 2]? = some ps[j / 2] := List.getElem?_eq_getElem (by omega)
      have h1 := hc _ _ hg
      have h2 := prs_get ps _ _ hg
      have e2 : ((⟨b, off, none⟩ : Addr).add j) = ⟨b, off + j, none⟩ := by unfold Addr.add; split <;> simp_all
      rw [e2]
      rcases (show j = j / 2 * 2 ∨ j = j / 2 * 2 + 1 from by omega) with h3 | h3
      · rw [h3] at hj ⊢
        rw [h2.1] at hj
        rw [h1.1, hj]
      · rw [h3] at hj ⊢
        rw [h2.2] at hj
        rw [← Nat.add_assoc, h1.2, hj]
    · unfold maxLen; omega
    · intro v' w' hown' hg _
      refine h v' w' ?_ (below_of_grown hg hB (fun g hg => (hown.lt g hg).1)) hg
      rw [prs_append]; exact hown'

theorem made_pairs (n : Nat) : (madeCells (Value.agg #[.int .i64 0, .int .i64 0]).cells (n * 2)).toList = prs (List.replicate n (0, 0)) := by
  have hl : (prs (List.replicate n ((0 : Int), (0 : Int)))).length = n * 2 := by rw [prs_len]; simp
  apply List.ext_getElem?
  intro j
  by_cases hj : j < n * 2
  · have h2 := prs_get (List.replicate n ((0 : Int), (0 : Int))) (j / 2) (0, 0) (by rw [List.getElem?_replicate, if_pos (by omega)])
    have h1 : (madeCells (Value.agg #[.int .i64 0, .int .i64 0]).cells (n * 2)).toList[j]? = some (.int .i64 0) := by
      simp only [madeCells, Value.cells, Array.getElem?_toList, Array.getElem?_map, Array.getElem?_range, hj, if_true, Option.map_some]
      rcases (show j % 2 = 0 ∨ j % 2 = 1 from by omega) with h | h <;> simp [h]
    rw [h1]
    rcases (show j = j / 2 * 2 ∨ j = j / 2 * 2 + 1 from by omega) with h3 | h3
    · rw [h3, h2.1]
    · rw [h3, h2.2]
  · rw [List.getElem?_eq_none (by simp [size_madeCells]; omega), List.getElem?_eq_none (by omega)]

/-- 'make([]Pair, n)': ONE goal is left. -/
theorem make_pairs {P : Program} {w : World} {ops : Array Oper} {rest : List Oper} {o : Oper} {a : Act} {Q : Exit → Act → World → Prop} (hg : o.guard = none) (l c : Operand) (t : TypeId) (hop : o.op = Op.makeSlice t l c)
    (B : Nat) (e : TypeId) (ht : P.underlying t = some (.slice e)) (hinfo : (P.info? e).map (fun i => (i.zero, i.size, i.bytes)) = some (some (.agg #[.int .i64 0, .int .i64 0]), 2, 16)) (kl kc : IntKind) (L C : Int) (n : Nat)
    (hl : a.eval l = .int kl L) (hc : a.eval c = .int kc C) (hL : L = (n : Int)) (hC : C = (n : Int)) (hn : n ≤ 1000000000000) (hB : B ≤ w.heap.size)
    (hK : ∀ w', w'.ownsRow B e 2 (.slice (some ⟨w.heap.size, 0, none⟩) n n) n (prs (List.replicate n (0, 0))) → Below B w w' → w.grownBy w' none → wpList P ops Q rest (a.put o.dst (.slice (some ⟨w.heap.size, 0, none⟩) n n)) w') : wpList P ops Q (o :: rest) a w := by
  obtain ⟨i0, hi, hz0, hz1, hz2⟩ := info_parts hinfo
  refine wpList_make_full w hg l c t hop B e i0 (.agg #[.int .i64 0, .int .i64 0]) 2 ht hi hz0 hz1 kl kc L C n hl hc hL hC (by rw [hz2]; omega) (by unfold maxLen; omega) hB ?_
  intro w' hown hg'
  rw [made_pairs] at hown
  exact hK w' hown (below_of_grown hg' hB (by simp)) hg'

theorem prs_set (l : List Pr) (k : Nat) (p : Pr) : ((prs l).set (k * 2) (.int .i64 p.1)).set (k * 2 + 1) (.int .i64 p.2) = prs (l.set k p) := by
  induction l generalizing k with
  | nil => simp [prs]
  | cons q t ih =>
    cases k with
    | zero => rw [List.set_cons_zero, prs_cons, prs_cons]; rfl
    | succ k =>
      rw [List.set_cons_succ, prs_cons, prs_cons, ← ih k, show (k + 1) * 2 = k * 2 + 1 + 1 from by omega]
      rfl
theorem prs_set1 (l : List Pr) (k : Nat) (p : Pr) (h : l[k]? = some p) (x : Int) : (prs l).set (k * 2) (.int .i64 x) = prs (l.set k (x, p.2)) := by
  induction l generalizing k with
  | nil => simp at h
  | cons q t ih =>
    cases k with
    | zero => simp at h; subst h; rw [List.set_cons_zero, prs_cons, prs_cons]; rfl
    | succ k =>
      rw [List.getElem?_cons_succ] at h
      rw [List.set_cons_succ, prs_cons, prs_cons, ← ih k h, show (k + 1) * 2 = k * 2 + 1 + 1 from by omega]
      rfl
theorem prs_set2 (l : List Pr) (k : Nat) (p : Pr) (h : l[k]? = some p) (y : Int) : (prs l).set (k * 2 + 1) (.int .i64 y) = prs (l.set k (p.1, y)) := by
  induction l generalizing k with
  | nil => simp at h
  | cons q t ih =>
    cases k with
    | zero => simp at h; subst h; rw [List.set_cons_zero, prs_cons, prs_cons]; rfl
    | succ k =>
      rw [List.getElem?_cons_succ] at h
      rw [List.set_cons_succ, prs_cons, prs_cons, ← ih k h, show (k + 1) * 2 + 1 = k * 2 + 1 + 1 + 1 from by omega]
      rfl
/-- 'out[k] = p' -/
theorem own_store_pair {w : World} {B : Nat} {e : TypeId} {G n cap : Nat} {l : List Pr} (h : w.ownsRow B e 2 (.slice (some ⟨G, 0, none⟩) n cap) n (prs l)) (k : Nat) (p : Pr) :
    ((w.setCell ⟨G, k * 2, none⟩ (.int .i64 p.1)).setCell ⟨G, k * 2 + 1, none⟩ (.int .i64 p.2)).ownsRow B e 2 (.slice (some ⟨G, 0, none⟩) n cap) n (prs (l.set k p)) := by
  have h1 := (h.stored (k * 2) (.int .i64 p.1)).1
  have h2 := (h1.stored (k * 2 + 1) (.int .i64 p.2)).1
  rw [prs_set] at h2; exact h2
theorem own_lt {w : World} {B : Nat} {e : TypeId} {size : Nat} {G n cap : Nat} {xs : List Value} (h : w.ownsRow B e size (.slice (some ⟨G, 0, none⟩) n cap) n xs) : B ≤ G ∧ G < w.heap.size := h.lt G rfl
theorem own_on {w w' : World} {B : Nat} {e : TypeId} {size : Nat} {v : Value} {n : Nat} {xs : List Value} (h : w.ownsRow B e size v n xs) (hb : Below w.heap.size w w') : w'.ownsRow B e size v n xs :=
  h.kept (grown_below none hb) (by cases hv : v.ownBlock <;> simp)
/-- the first k done -/
theorem set_done {α : Type} (l done : List α) (d : α) (n k : Nat) (x : α) (hl : l = done ++ List.replicate (n - k) d) (hd : done.length = k) (hk : k < n) : l.set k x = (done ++ [x]) ++ List.replicate (n - (k + 1)) d := by
  subst hl
  rw [show n - k = (n - (k + 1)) + 1 from by omega, List.replicate_succ, List.set_append]
  simp [hd]
end Go.Proofs.Ytoiifopjipfjhaa
