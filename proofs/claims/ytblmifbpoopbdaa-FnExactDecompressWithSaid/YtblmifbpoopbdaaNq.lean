/- What one more pair does to the finder's tables and map. No condition but that the pairs are good. -/
import Derived.Test.YtblmifbpoopbdaaNp
namespace Go.Proofs.Ytblmifbpoopbdaa
open Go.ChangeShapes Go.WideShapes Go.ChangeAt Go.RowKit Go.Joins
set_option linter.unusedVariables false

theorem MapIs.obj {w : World} {bm n : Nat} {M : Nat → Int → Option Nat} (h : MapIs w bm n M) : ∃ es c, w.heap[bm]? = some (.map es c) := by
  obtain ⟨D, ⟨es, clock, hb, _⟩, _⟩ := h; exact ⟨es, clock, hb⟩
theorem Blk.ne_map {w : World} {g bm n : Nat} {t : TypeId} {cs : Array Value} {M : Nat → Int → Option Nat} (h : Blk w g t cs) (hm : MapIs w bm n M) : g ≠ bm := by
  intro e; subst e
  obtain ⟨es, c, he⟩ := hm.obj
  have := h.symm.trans he
  simp at this
theorem Blk.ne_type {w : World} {g g' : Nat} {t t' : TypeId} {cs cs' : Array Value} (h : Blk w g t cs) (h' : Blk w g' t' cs') (ht : t ≠ t') : g ≠ g' := by
  intro e; subst e
  have := h.symm.trans h'
  simp at this
  exact ht this.2
/-- the types of the finder's own blocks -/
def Fam (t : TypeId) : Prop := t = 146 ∨ t = 182 ∨ t = 186 ∨ t = 189 ∨ t = 228
instance (t : TypeId) : Decidable (Fam t) := by unfold Fam; infer_instance
/-- all blocks of other types stay as they are -/
def Calm (w w' : World) : Prop := ∀ (g : Nat) (t : TypeId) (cs : Array Value), Blk w g t cs → ¬ Fam t → Blk w' g t cs
theorem Calm.refl (w : World) : Calm w w := fun _ _ _ h _ => h
theorem Calm.trans {a b c : World} (h : Calm a b) (h2 : Calm b c) : Calm a c := fun g t cs hb ht => h2 g t cs (h g t cs hb ht) ht
theorem Calm.of {a b : World} (h : Below a.heap.size a b) : Calm a b := fun g t cs hb _ => hb.on h
theorem Calm.drew {a b : World} (h : Calm a b) : Calm a b.drew := h
theorem Calm.grown {a b : World} {row : Option Nat} (hg : a.grownBy b row) (hr : ∀ g, row = some g → (∃ cs e, a.heap[g]? = some (.cells cs e (0, 0)) ∧ Fam e) ∨ ∃ es c, a.heap[g]? = some (.map es c)) : Calm a b := fun g t cs hb ht => hb.grown hg (fun e => by
  rcases hr g e.symm with ⟨cs2, e2, h1, h2⟩ | ⟨es, c, h1⟩
  · have := hb.symm.trans h1
    simp at this
    rw [this.2] at ht
    exact ht h2
  · have := hb.symm.trans h1
    simp at this)
theorem Calm.set_ {w : World} {g : Nat} {t : TypeId} {cs : Array Value} (hb : Blk w g t cs) (ht : Fam t) (i : Nat) (u : Value) : Calm w (w.setCell ⟨g, i, none⟩ u) := fun g' t' cs' hb' ht' => hb'.far i u (hb'.ne_type hb (fun e => ht' (e ▸ ht)))
theorem own_calm {w w' : World} {B : Nat} {e : TypeId} {size n : Nat} {v : Value} {xs : List Value} (h : w.ownsRow B e size v n xs) (hc : Calm w w') (he : ¬ Fam e) : w'.ownsRow B e size v n xs := by
  obtain ⟨hl, ⟨h1, h2⟩ | ⟨g, cap', cur, e1, hB, hh, hr⟩⟩ := h
  · exact ⟨hl, .inl ⟨h1, h2⟩⟩
  · exact ⟨hl, .inr ⟨g, cap', cur, e1, hB, hc g e cur hh he, hr⟩⟩
theorem node_ne_arr : 189 ≠ 228 := by decide
section
variable {L : Nat} {c : Int} {Q : List Pr} {m : Nat} {N : Nat → Nat} {Lo : Nat → Option Nat} {bm n : Nat} {w w' : World} {p : Pr}
/-- the blocks of least codes differ -/
theorem Fd.inj (h : Fd L c Q m N Lo bm n w) {r s : Nat} (hr : Lst c Q r) (hs : Lst c Q s) (e : N r = N s) : r = s := by
  have c1 := (h.node r hr).cell 0
  have c2 := (h.node s hs).cell 0
  rw [e, c2] at c1
  simp at c1
  omega
theorem Fd.fresh (h : Fd L c Q m N Lo bm n w) {G r : Nat} (hr : Lst c Q r) (hc : 0 ≤ c) {v : Value} (hG : Blk w G 189 #[.int .i64 (top c Q : Nat), v]) : N r ≠ G := by
  intro e
  have c1 := (h.node r hr).cell 0
  have c2 := hG.cell 0
  rw [e, c2] at c1
  simp at c1
  exact lst_ne hc hr (by omega)
/-- a pair whose word is there already -/
theorem Fd.dup {s : Nat} (hc : 0 ≤ c) (h : Fd L c Q m N Lo bm n w) (hf : fnd c Q (wd c Q p.1 ++ [byt p.2]) = some s) : Fd L c (Q ++ [p]) m N Lo bm n w := by
  refine ⟨fun r hr => h.node r ((lst_dup hc hf r).1 hr), fun r hr => h.ge r ((lst_dup hc hf r).1 hr), fun r g hr hl => ?_, fun r hr hl x hx => ?_, fun r r' g hr hr' => h.one r r' g ((lst_dup hc hf r).1 hr) ((lst_dup hc hf r').1 hr'), h.mp.same (fun r x _ _ => inMap_dup hc hf m N r x), h.mge⟩
  · obtain ⟨h1, cs, h2, h3, h4⟩ := h.arr r g ((lst_dup hc hf r).1 hr) hl
    refine ⟨h1, cs, h2, h3, fun x hx => ?_⟩
    rw [h4 x hx, wd_more ((lst_dup hc hf r).1 hr), ndAt, ndAt, kept_dup hc hf m]
  · rw [wd_more ((lst_dup hc hf r).1 hr), kept_dup hc hf m]
    exact h.bare r ((lst_dup hc hf r).1 hr) hl x hx
theorem map_old (hc : 0 ≤ c) {K : List Pr} {v : List UInt8} {G : Nat} (hK : ∀ s, fnd c K v = some s → s ≠ top c Q) : ndAt c K (addN N (top c Q) G) v = ndAt c K N v := by
  rw [ndAt, ndAt]
  cases hf : fnd c K v with
  | none => rfl
  | some s => simp [addN_other (hK s hf)]
theorem kept_ne (hc : 0 ≤ c) {v : List UInt8} (s : Nat) (h : fnd c (Q.take m) v = some s) : s ≠ top c Q := by
  have := fnd_more (Q.drop m) h
  rw [List.take_append_drop] at this
  exact lst_ne hc (fnd_lst this)
/-- what the tables lead to, behind a kept pair -/
theorem kept_nd (hc : 0 ≤ c) (hf : fnd c Q (wd c Q p.1 ++ [byt p.2]) = none) {r r0 G : Nat} (hr : Lst c Q r) (h0 : fnd c Q (wd c Q p.1) = some r0) {x : Int} (hx : 0 ≤ x ∧ x ≤ 255) (hp : 0 ≤ p.2 ∧ p.2 ≤ 255) (hm : Q.length < m) :
    ndAt c ((Q ++ [p]).take m) (addN N (top c Q) G) (wd c (Q ++ [p]) r ++ [byt x]) = if r = r0 ∧ x = p.2 then some G else ndAt c (Q.take m) N (wd c Q r ++ [byt x]) := by
  rw [wd_more hr, ndAt, kept_fresh hc hf hr h0 hx hp hm]
  split
  · simp [addN]
  · exact map_old hc (kept_ne hc)
/-- a new kept word, the prefix having a table -/
theorem Fd.keep_some (hc : 0 ≤ c) (hQ : PairsOk c Q) (h : Fd L c Q m N Lo bm n w) (hf : fnd c Q (wd c Q p.1 ++ [byt p.2]) = none) {r0 G g x : Nat} (h0 : fnd c Q (wd c Q p.1) = some r0) (hx : p.2 = (x : Int)) (hx2 : x ≤ 255) (hm : Q.length < m)
    (hG : Blk w G 189 #[.int .i64 (top c Q : Nat), .pointer none]) (hGL : L ≤ G) (hl : Lo r0 = some g) :
    Fd L c (Q ++ [p]) m (addN N (top c Q) G) (fun r => if r = top c Q then none else Lo r) bm n (w.setCell ⟨g, x, none⟩ (.pointer (some ⟨G, 0, none⟩))) := by
  have hp : 0 ≤ p.2 ∧ p.2 ≤ 255 := by omega
  have hL0 := fnd_lst h0
  obtain ⟨hg, cs0, hB, hcs0, hcs⟩ := h.arr r0 g hL0 hl
  have hgm : g ≠ bm := hB.ne_map h.mp
  refine ⟨fun r hr => ?_, fun r hr => ?_, fun r g' hr hlr => ?_, fun r hr hlr y hy => ?_, fun r r' g' hr hr' hlr hlr' => ?_, ?_, h.mge⟩
  · rcases (lst_new hc hf r).1 hr with h1 | h1
    · rw [addN_other (lst_ne hc h1), if_neg (lst_ne hc h1)]
      exact (h.node r h1).far x _ ((h.node r h1).ne_type hB node_ne_arr)
    · rw [h1, addN_same, if_pos rfl]
      exact hG.far x _ (hG.ne_type hB node_ne_arr)
  · rcases (lst_new hc hf r).1 hr with h1 | h1
    · rw [addN_other (lst_ne hc h1)]; exact h.ge r h1
    · rw [h1, addN_same]; exact hGL
  · rcases (lst_new hc hf r).1 hr with h1 | h1
    · rw [if_neg (lst_ne hc h1)] at hlr
      obtain ⟨hg', cs, hB', hcs', hc'⟩ := h.arr r g' h1 hlr
      by_cases hrr : r = r0
      · subst hrr
        rw [hl] at hlr
        obtain rfl := Option.some.inj hlr
        refine ⟨hg, cs0.setIfInBounds x (.pointer (some ⟨G, 0, none⟩)), hB.set_ x _, by simpa using hcs0, fun y hy => ?_⟩
        rw [Array.getElem?_setIfInBounds, kept_nd hc hf h1 h0 (by omega) hp hm]
        by_cases hyx : x = y
        · subst hyx
          rw [if_pos rfl, if_pos (by omega), if_pos ⟨rfl, hx.symm⟩]; rfl
        · rw [if_neg hyx, if_neg (by omega)]
          exact hcs y hy
      · have hne : g' ≠ g := fun e => hrr (h.one r r0 g' h1 hL0 hlr (by rw [e]; exact hl))
        refine ⟨hg', cs, hB'.far x _ hne, hcs', fun y hy => ?_⟩
        rw [kept_nd hc hf h1 h0 (by omega) hp hm, if_neg (fun e => hrr e.1)]
        exact hc' y hy
    · rw [if_pos h1] at hlr; cases hlr
  · rcases (lst_new hc hf r).1 hr with h1 | h1
    · rw [if_neg (lst_ne hc h1)] at hlr
      have hrr : r ≠ r0 := fun e => by rw [e, hl] at hlr; cases hlr
      have := kept_nd (N := N) (G := G) hc hf h1 h0 hy hp hm
      rw [if_neg (fun e => hrr e.1), ndAt, ndAt, h.bare r h1 hlr y hy] at this
      simpa using this
    · subst h1
      exact kept_deep hc hQ hf _ m
  · rcases (lst_new hc hf r).1 hr with h1 | h1
    · rcases (lst_new hc hf r').1 hr' with h2 | h2
      · rw [if_neg (lst_ne hc h1)] at hlr
        rw [if_neg (lst_ne hc h2)] at hlr'
        exact h.one r r' g' h1 h2 hlr hlr'
      · rw [if_pos h2] at hlr'; cases hlr'
    · rw [if_pos h1] at hlr; cases hlr
  · have h1 := h.mp.only (Only.set_ w g x (.pointer (some ⟨G, 0, none⟩)) (S := fun k => k = g) rfl) (fun e => hgm e.symm)
    refine h1.same (fun r y _ _ => ?_)
    rw [inMap_kept (by simp; omega), inMap_kept (by omega)]
/-- a new kept word, the prefix having no table yet -/
theorem Fd.keep_none (hc : 0 ≤ c) (hQ : PairsOk c Q) (h : Fd L c Q m N Lo bm n w) (hf : fnd c Q (wd c Q p.1 ++ [byt p.2]) = none) {r0 G x : Nat} (h0 : fnd c Q (wd c Q p.1) = some r0) (hx : p.2 = (x : Int)) (hx2 : x ≤ 255) (hm : Q.length < m) (hLw : L ≤ w.heap.size)
    (hG : Blk w G 189 #[.int .i64 (top c Q : Nat), .pointer none]) (hGL : L ≤ G) (hl : Lo r0 = none) :
    Fd L c (Q ++ [p]) m (addN N (top c Q) G) (fun r => if r = top c Q then none else if r = r0 then some w.heap.size else Lo r) bm n ((w.setCell ⟨N r0, 1, none⟩ (.pointer (some ⟨w.heap.size, 0, none⟩))).alloc (.cells (Try.zeroCells228.setIfInBounds x (.pointer (some ⟨G, 0, none⟩))) 228)) := by
  have hp : 0 ≤ p.2 ∧ p.2 ≤ 255 := by omega
  have hL0 := fnd_lst h0
  have hB := h.node r0 hL0
  have hsz : (w.setCell ⟨N r0, 1, none⟩ (.pointer (some ⟨w.heap.size, 0, none⟩))).heap.size = w.heap.size := by simp [World.setCell]
  have hnew := Blk.new (w.setCell ⟨N r0, 1, none⟩ (.pointer (some ⟨w.heap.size, 0, none⟩))) 228 (Try.zeroCells228.setIfInBounds x (.pointer (some ⟨G, 0, none⟩)))
  rw [hsz] at hnew
  refine ⟨fun r hr => ?_, fun r hr => ?_, fun r g' hr hlr => ?_, fun r hr hlr y hy => ?_, fun r r' g' hr hr' hlr hlr' => ?_, ?_, h.mge⟩
  · rcases (lst_new hc hf r).1 hr with h1 | h1
    · rw [addN_other (lst_ne hc h1), if_neg (lst_ne hc h1)]
      by_cases hrr : r = r0
      · subst hrr
        rw [if_pos rfl]
        have := (hB.set_ 1 (.pointer (some ⟨w.heap.size, 0, none⟩))).alloc (.cells (Try.zeroCells228.setIfInBounds x (.pointer (some ⟨G, 0, none⟩))) 228)
        rw [hl] at this
        exact this
      · rw [if_neg hrr]
        exact ((h.node r h1).far 1 _ (fun e => hrr (h.inj h1 hL0 e))).alloc _
    · rw [h1, addN_same, if_pos rfl]
      exact (hG.far 1 _ (fun e => h.fresh hL0 hc hG e.symm)).alloc _
  · rcases (lst_new hc hf r).1 hr with h1 | h1
    · rw [addN_other (lst_ne hc h1)]; exact h.ge r h1
    · rw [h1, addN_same]; exact hGL
  · rcases (lst_new hc hf r).1 hr with h1 | h1
    · rw [if_neg (lst_ne hc h1)] at hlr
      by_cases hrr : r = r0
      · rw [if_pos hrr] at hlr
        obtain rfl := Option.some.inj hlr
        refine ⟨hLw, _, hnew, by simp, fun y hy => ?_⟩
        rw [Array.getElem?_setIfInBounds, kept_nd hc hf h1 h0 (by omega) hp hm, bare_size]
        by_cases hyx : x = y
        · subst hyx
          rw [if_pos rfl, if_pos (by omega), if_pos ⟨hrr, hx.symm⟩]; rfl
        · rw [if_neg hyx, if_neg (by omega), bare_at hy]
          have hb := h.bare r0 hL0 hl (y : Int) (by omega)
          rw [← hrr] at hb
          rw [ndAt, hb]; rfl
      · rw [if_neg hrr] at hlr
        obtain ⟨hg', cs, hB', hcs', hc'⟩ := h.arr r g' h1 hlr
        refine ⟨hg', cs, (hB'.far 1 _ (hB'.ne_type hB (Ne.symm node_ne_arr))).alloc _, hcs', fun y hy => ?_⟩
        rw [kept_nd hc hf h1 h0 (by omega) hp hm, if_neg (fun e => hrr e.1)]
        exact hc' y hy
    · rw [if_pos h1] at hlr; cases hlr
  · rcases (lst_new hc hf r).1 hr with h1 | h1
    · rw [if_neg (lst_ne hc h1)] at hlr
      by_cases hrr : r = r0
      · rw [if_pos hrr] at hlr; cases hlr
      · rw [if_neg hrr] at hlr
        have := kept_nd (N := N) (G := G) hc hf h1 h0 hy hp hm
        rw [if_neg (fun e => hrr e.1), ndAt, ndAt, h.bare r h1 hlr y hy] at this
        simpa using this
    · subst h1
      exact kept_deep hc hQ hf _ m
  · have key : ∀ r, Lst c (Q ++ [p]) r → (if r = top c Q then none else if r = r0 then some w.heap.size else Lo r) = some g' → Lst c Q r ∧ ((r = r0 ∧ g' = w.heap.size) ∨ (r ≠ r0 ∧ Lo r = some g' ∧ g' ≠ w.heap.size)) := by
      intro r hr hlr
      rcases (lst_new hc hf r).1 hr with h1 | h1
      · rw [if_neg (lst_ne hc h1)] at hlr
        refine ⟨h1, ?_⟩
        by_cases hrr : r = r0
        · rw [if_pos hrr] at hlr; exact Or.inl ⟨hrr, (Option.some.inj hlr).symm⟩
        · rw [if_neg hrr] at hlr
          obtain ⟨_, cs, hB', _⟩ := h.arr r g' h1 hlr
          have := hB'.lt
          exact Or.inr ⟨hrr, hlr, by omega⟩
      · rw [if_pos h1] at hlr; cases hlr
    obtain ⟨h1, k1⟩ := key r hr hlr
    obtain ⟨h2, k2⟩ := key r' hr' hlr'
    rcases k1 with ⟨e1, e2⟩ | ⟨e1, e2, e3⟩
    · rcases k2 with ⟨f1, f2⟩ | ⟨f1, f2, f3⟩
      · rw [e1, f1]
      · exact absurd e2 f3
    · rcases k2 with ⟨f1, f2⟩ | ⟨f1, f2, f3⟩
      · exact absurd f2 e3
      · exact h.one r r' g' h1 h2 e2 f2
  · have h1 := h.mp.only ((Only.set_ w (N r0) 1 (.pointer (some ⟨w.heap.size, 0, none⟩)) (S := fun k => k = N r0) rfl).trans (Only.alloc _ (.cells (Try.zeroCells228.setIfInBounds x (.pointer (some ⟨G, 0, none⟩))) 228) _)) (fun e => hB.ne_map h.mp e.symm)
    refine h1.same (fun r y _ _ => ?_)
    rw [inMap_kept (by simp; omega), inMap_kept (by omega)]
/-- a new word that a clear code takes away -/
theorem Fd.learn (hc : 0 ≤ c) (hQ : PairsOk c Q) (h : Fd L c Q m N Lo bm n w) (hf : fnd c Q (wd c Q p.1 ++ [byt p.2]) = none) {r0 G n' : Nat} (h0 : fnd c Q (wd c Q p.1) = some r0) (hp : 0 ≤ p.2 ∧ p.2 ≤ 255) (hm : m ≤ Q.length)
    (hG : Blk w G 189 #[.int .i64 (top c Q : Nat), .pointer none]) (hGL : L ≤ G) (hM : MapIs w' bm n' (fun r x => if r = r0 ∧ x = p.2 then some G else inMap c Q (Q.take m) N r x)) (hg : w.grownBy w' (some bm)) :
    Fd L c (Q ++ [p]) m (addN N (top c Q) G) (fun r => if r = top c Q then none else Lo r) bm n' w' := by
  refine ⟨fun r hr => ?_, fun r hr => ?_, fun r g' hr hlr => ?_, fun r hr hlr y hy => ?_, fun r r' g' hr hr' hlr hlr' => ?_, ?_, h.mge⟩
  · rcases (lst_new hc hf r).1 hr with h1 | h1
    · rw [addN_other (lst_ne hc h1), if_neg (lst_ne hc h1)]
      exact (h.node r h1).grown hg (fun e => (h.node r h1).ne_map h.mp (Option.some.inj e))
    · rw [h1, addN_same, if_pos rfl]
      exact hG.grown hg (fun e => hG.ne_map h.mp (Option.some.inj e))
  · rcases (lst_new hc hf r).1 hr with h1 | h1
    · rw [addN_other (lst_ne hc h1)]; exact h.ge r h1
    · rw [h1, addN_same]; exact hGL
  · rcases (lst_new hc hf r).1 hr with h1 | h1
    · rw [if_neg (lst_ne hc h1)] at hlr
      obtain ⟨hg', cs, hB', hcs', hc'⟩ := h.arr r g' h1 hlr
      refine ⟨hg', cs, hB'.grown hg (fun e => hB'.ne_map h.mp (Option.some.inj e)), hcs', fun y hy => ?_⟩
      rw [hc' y hy, wd_more h1, kept_same hm, map_old hc (kept_ne hc)]
    · rw [if_pos h1] at hlr; cases hlr
  · rcases (lst_new hc hf r).1 hr with h1 | h1
    · rw [if_neg (lst_ne hc h1)] at hlr
      rw [wd_more h1, kept_same hm]
      exact h.bare r h1 hlr y hy
    · subst h1
      exact kept_deep hc hQ hf _ m
  · rcases (lst_new hc hf r).1 hr with h1 | h1
    · rcases (lst_new hc hf r').1 hr' with h2 | h2
      · rw [if_neg (lst_ne hc h1)] at hlr
        rw [if_neg (lst_ne hc h2)] at hlr'
        exact h.one r r' g' h1 h2 hlr hlr'
      · rw [if_pos h2] at hlr'; cases hlr'
    · rw [if_pos h1] at hlr; cases hlr
  · refine hM.same (fun r x _ hx => ?_)
    rw [inMap_fresh hc hQ hf h0 hp hm N G r hx]
end
end Go.Proofs.Ytblmifbpoopbdaa
