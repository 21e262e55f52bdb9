/- Append of one block, and of one place, as a step of a region whose order is drawn. No condition. -/
import Derived.Test.YtepbjmpbcobfpaaDoorYf
import Derived.Test.YtepbjmpbcobfpaaDoorBb
namespace Go.Proofs.YtepbjmpbcobfpaaDoor
open Go.ChangeShapes Go.WideShapes Go.ChangeAt Go.RowKit Go.Joins
set_option linter.unusedVariables false
set_option linter.unusedSimpArgs false

theorem bv_one (b : Bl) : ∀ u ∈ bv b, u.oneCell' = true := by
  intro u hu; simp [bv] at hu; rcases hu with rfl | rfl | rfl | rfl <;> rfl

/-- 'append(out, b)' of one block that lies at the beginning of a block of memory -/
theorem step_bl {P : Program} {w : World} {ops : Array Oper} {o : Oper} {a : Act} {K : Act → World → Prop} {Q : Exit → Act → World → Prop} {E : Prop} (hgd : o.guard = none) (s x : Operand) (t : TypeId)
    (ho : o.op = .call { callee := .builtin .append, args := #[s, x], argTypes := #[t, t] }) (B : Nat) (e : TypeId) (ht : P.underlying t = some (.slice e))
    (hinfo : (P.info? e).map (fun i => (i.zero, i.size, i.bytes)) = some (some (.agg #[.int .i64 0, .bool false, .int .i64 0, .string ByteArray.empty]), 4, 40)) (v : Value) (n : Nat) (l : List Bl) (hs : a.eval s = v) (hown : w.ownsRow B e 4 v n (bvs l)) (b : Bl) (g cp : Nat) (T : TypeId) (X Y Z U : Value) (hg : Blk w g T #[X, Y, Z, U]) (hX : [X, Y, Z, U] = bv b)
    (hx : a.eval x = .slice (some ⟨g, 0, none⟩) 1 cp) (hn : n ≤ 1000000000) (hB : B ≤ w.heap.size)
    (h : ∀ v' w', w'.ownsRow B e 4 v' (n + 1) (bvs (l ++ [b])) → Below B w w' → w.grownBy w' v.ownBlock → K (a.put o.dst v') w') : if Region.wanted o (yielded ops a.tmps) = true then Oper.wp P o a w K Q else E := by
  have hw : Region.wanted o (yielded ops a.tmps) = true := by simp [Region.wanted, hgd]
  rw [if_pos hw]
  obtain ⟨i0, hi, hz0, hz1, hz2⟩ := info_parts hinfo
  refine wp_append_own w s x t ho B e i0 (.agg #[.int .i64 0, .bool false, .int .i64 0, .string ByteArray.empty]) 4 40 ht hi hz0 hz1 hz2 rfl (by decide) v n (bvs l) hs hown ⟨g, 0, none⟩ 1 cp (bv b) hx rfl ?_ (bv_one b) ?_ (by omega) hB ?_
  · intro j u hj
    have e2 : ((⟨g, 0, none⟩ : Addr).add j) = ⟨g, j, none⟩ := by simp [Addr.add]; intro h; exact h.symm
    rw [e2, hg.cell j]
    rw [← hX] at hj
    simpa using hj
  · unfold maxLen; omega
  · intro v' w' hown' hg' _
    exact h v' w' (by rw [bvs_append, show bvs [b] = bv b from by simp [bvs]]; exact hown') (below_of_grown hg' hB (fun g hg => (hown.lt g hg).1)) hg'

theorem pv_one (p : Pr) : ∀ u ∈ pv p, u.oneCell' = true := by
  intro u hu; simp [pv] at hu; rcases hu with rfl | rfl <;> rfl

theorem step_pl {P : Program} {w : World} {ops : Array Oper} {o : Oper} {a : Act} {K : Act → World → Prop} {Q : Exit → Act → World → Prop} {E : Prop} (hgd : o.guard = none) (s x : Operand) (t : TypeId)
    (ho : o.op = .call { callee := .builtin .append, args := #[s, x], argTypes := #[t, t] }) (B : Nat) (e : TypeId) (ht : P.underlying t = some (.slice e))
    (hinfo : (P.info? e).map (fun i => (i.zero, i.size, i.bytes)) = some (some (.agg #[.int .i64 0, .int .i64 0]), 2, 16)) (v : Value) (n : Nat) (l : List Pr) (hs : a.eval s = v) (hown : w.ownsRow B e 2 v n (prs l)) (p : Pr) (g cp : Nat) (T : TypeId) (X Y : Value) (hg : Blk w g T #[X, Y]) (hX : [X, Y] = pv p)
    (hx : a.eval x = .slice (some ⟨g, 0, none⟩) 1 cp) (hn : n ≤ 1000000000) (hB : B ≤ w.heap.size)
    (h : ∀ v' w', w'.ownsRow B e 2 v' (n + 1) (prs (l ++ [p])) → Below B w w' → w.grownBy w' v.ownBlock → K (a.put o.dst v') w') : if Region.wanted o (yielded ops a.tmps) = true then Oper.wp P o a w K Q else E := by
  have hw : Region.wanted o (yielded ops a.tmps) = true := by simp [Region.wanted, hgd]
  rw [if_pos hw]
  obtain ⟨i0, hi, hz0, hz1, hz2⟩ := info_parts hinfo
  refine wp_append_own w s x t ho B e i0 (.agg #[.int .i64 0, .int .i64 0]) 2 16 ht hi hz0 hz1 hz2 rfl (by decide) v n (prs l) hs hown ⟨g, 0, none⟩ 1 cp (pv p) hx rfl ?_ (pv_one p) ?_ (by omega) hB ?_
  · intro j u hj
    have e2 : ((⟨g, 0, none⟩ : Addr).add j) = ⟨g, j, none⟩ := by simp [Addr.add]; intro h; exact h.symm
    rw [e2, hg.cell j]
    rw [← hX] at hj
    simpa using hj
  · unfold maxLen; omega
  · intro v' w' hown' hg' _
    exact h v' w' (by rw [prs_append, show prs [p] = pv p from by simp [prs]]; exact hown') (below_of_grown hg' hB (fun g hg => (hown.lt g hg).1)) hg'

theorem Tryd.info_placeD : (Tryd.prog.info? 52).map (fun i => (i.zero, i.size, i.bytes)) = some (some (.agg #[.int .i64 0, .int .i64 0]), 2, 16) := by kernel_rfl

/-- the block of an owned row bears the row's element type -/
theorem own_type {w : World} {B : Nat} {e : TypeId} {size n : Nat} {v : Value} {xs : List Value} (h : w.ownsRow B e size v n xs) (g : Nat) (hg : v.ownBlock = some g) : ∃ cs, w.heap[g]? = some (.cells cs e (0, 0)) := by
  rcases h.2 with ⟨rfl, _⟩ | ⟨g', cap', cur, rfl, _, hh, _⟩
  · simp [Value.ownBlock] at hg
  · simp [Value.ownBlock] at hg; subst hg; exact ⟨cur, hh⟩

/-- a box of another type is not a row's block -/
theorem own_away {w : World} {B : Nat} {e t : TypeId} {size n : Nat} {v : Value} {xs : List Value} (h : w.ownsRow B e size v n xs) {c : Nat} {cs : Array Value} (hc : Blk w c t cs) (ht : t ≠ e) : some c ≠ v.ownBlock := fun h1 => by
  obtain ⟨cs', h2⟩ := own_type h c h1.symm
  have h3 : w.heap[c]? = some (.cells cs t (0, 0)) := hc
  rw [h2] at h3
  simp at h3
  exact ht h3.2.symm

/-- two rows of different element types have different blocks -/
theorem own_two {w : World} {B B' : Nat} {e e' : TypeId} {size size' n n' : Nat} {v v' : Value} {xs xs' : List Value} (h : w.ownsRow B e size v n xs) (h' : w.ownsRow B' e' size' v' n' xs') (he : e ≠ e') : ∀ g, v.ownBlock = some g → v'.ownBlock ≠ some g := fun g h1 h2 => by
  obtain ⟨cs, h3⟩ := own_type h g h1
  obtain ⟨cs', h4⟩ := own_type h' g h2
  rw [h3] at h4
  simp at h4
  exact he h4.2

theorem Blk.grownR {w w' : World} {c : Nat} {t : TypeId} {cs : Array Value} {row : Option Nat} (hc : Blk w c t cs) (hg : w.grownBy w' row) (hne : some c ≠ row) : Blk w' c t cs := (hg.block c hc.lt (fun h => hne h)).trans hc

theorem own_grownR {w w' : World} {B : Nat} {e : TypeId} {size n : Nat} {v : Value} {xs : List Value} {row : Option Nat} (h : w.ownsRow B e size v n xs) (hg : w.grownBy w' row) (hne : ∀ g, v.ownBlock = some g → row ≠ some g) : w'.ownsRow B e size v n xs :=
  h.kept hg (by
    cases hv : v.ownBlock with
    | none => exact .inl rfl
    | some g => exact .inr (fun h => hne g hv h.symm))
end Go.Proofs.YtepbjmpbcobfpaaDoor
