/- The contract of appendNumber, for a row that may begin anywhere; what a finder is, behind such an append. No condition but that the numbers are small. -/
import Derived.Test.YtfklkepodpcdgaaOo
import Derived.Test.YtfklkepodpcdgaaBj
import Derived.Test.YtfklkepodpcdgaaQm
import Derived.Test.YtfklkepodpcdgaaGa
import Derived.Test.YtfklkepodpcdgaaGc
namespace Go.Proofs.Ytfklkepodpcdgaa
open Go.ChangeShapes Go.WideShapes Go.ChangeAt Go.RowKit Go.Joins
set_option linter.unusedVariables false

theorem Try.info_u8o : (Try.prog.info? 5).map (fun i => (i.zero, i.size, i.bytes)) = some (some (.int .u8 0), 1, 1) := by kernel_rfl

theorem c_appendNumberO (o n width : Int) (B : Nat) (v : Value) (l : List UInt8) (w : World) (hn : 0 ≤ n) (hn2 : n ≤ 9223372036854775807) (hw0 : 0 ≤ width) (hw1 : width ≤ 16) (hm : l.length ≤ 100000) (hB : B ≤ w.heap.size) (hown : OwnO w B 5 v l) :
    Calls Try.prog 215 #[.int .i64 o, v, .int .i64 n, .int .i64 width] w fun e w' => ∃ v', e = .returned v' ∧ OwnO w' B 5 v' (l ++ dl o n width width.toNat) ∧ w.grownBy w' v.ownBlock ∧ (v'.ownBlock = v.ownBlock ∨ ∃ g, v'.ownBlock = some g ∧ w.heap.size ≤ g) := by
  go_enter Try.func215, Try.ntmps215
  go_wp2_with fail
  go_loopw [1, 11] (fun u i wr => ∃ k : Nat, k ≤ width ∧ i = .int .i64 k ∧ OwnO wr B 5 u (l ++ dl o n width k) ∧ w.grownBy wr v.ownBlock ∧ (u.ownBlock = v.ownBlock ∨ ∃ g, u.ownBlock = some g ∧ w.heap.size ≤ g)) (fun _ i _ => (width - intOf i).toNat)
  case atStart => exact ⟨0, hw0, rfl, by simpa [dl] using hown, grown_refl _ _, Or.inl rfl⟩
  case round =>
    obtain ⟨k, hk, rfl, hown, hgr, hat⟩ := hrel
    by_cases hlt : k < width
    · have hp : 0 ≤ place o k width ∧ place o k width ≤ 63 := by unfold place; split <;> omega
      have hdg := dgI_bd n (place o k width)
      have hsz := hgr.size
      have hll : (l ++ dl o n width k).length ≤ 100000000000 := by simp [dl]; omega
      go_wp2_with (first | (go_at_call 219; refine (c_digit _ _ _ _ _ hn hn2 (by omega) hlt (by omega)).mono ?_; rintro e w' ⟨rfl, rfl⟩) | (at_builtin; refine app_byteO rfl _ _ 128 rfl B 5 Try.underlying128 Try.info_u8o _ _ rfl hown _ _ (chr_dg _ _) 1 rfl hll (by omega) ?_; intro v1 w1 hown1 hg1 hat1))
      go_roundw
      case rel =>
        refine ⟨k + 1, by omega, by go_num, by rw [dl_succ, ← List.append_assoc]; exact hown1, grown_step hgr hg1 hat, ?_⟩
        rcases hat1 with h1 | ⟨g, h1, h2⟩
        · rw [h1]; exact hat
        · exact Or.inr ⟨g, h1, by omega⟩
      case measure => simp [intOf]; omega
    · obtain rfl : width = k := by omega
      go_wp2
      go_ret
      exact ⟨_, rfl, by simpa using hown, hgr, hat⟩

/-- a writer at work, in block wb (of type T, with further cells xs): its finder in block fb, its bits in the row v. pd: blocks that its bits never lie in -/
structure WS (L wb : Nat) (T : TypeId) (xs : List Value) (pd : Nat → Prop) (fb : Nat) (v : Value) (x : Wr) (w : World) : Prop where
  bx : Blk w wb T (List.toArray (.pointer (some ⟨fb, 0, none⟩) :: .string (str x.p) :: v :: .bool x.g :: xs))
  row : OwnO w L 5 v x.b
  fa : FAt L fb x.k w
  ap : ∀ g, v.ownBlock = some g → ¬ pd g
  pl : ∀ g, pd g → g < w.heap.size
  lb : L ≤ wb
/-- what a writer at work leaves as it is -/
def WCalm (pd : Nat → Prop) (w w' : World) : Prop := ∀ (g : Nat) (t : TypeId) (cs : Array Value), Blk w g t cs → ¬ Fam t → t ≠ 131 → t ≠ 133 → (t = 5 → pd g) → Blk w' g t cs
def WT (T : TypeId) : Prop := T = 131 ∨ T = 133
theorem WCalm.refl (pd : Nat → Prop) (w : World) : WCalm pd w w := fun _ _ _ h _ _ _ _ => h
theorem WCalm.trans {pd : Nat → Prop} {a b c : World} (h : WCalm pd a b) (k : WCalm pd b c) : WCalm pd a c := fun g t cs hb h1 h2 h3 h4 => k g t cs (h g t cs hb h1 h2 h3 h4) h1 h2 h3 h4
theorem WCalm.on {pd : Nat → Prop} {a b c : World} (h : WCalm pd a b) (k : Below b.heap.size b c) : WCalm pd a c := fun g t cs hb h1 h2 h3 h4 => (h g t cs hb h1 h2 h3 h4).on k
theorem WCalm.calm {pd : Nat → Prop} {a b c : World} (h : WCalm pd a b) (k : Calm b c) : WCalm pd a c := fun g t cs hb h1 h2 h3 h4 => k g t cs (h g t cs hb h1 h2 h3 h4) h1
section
variable {L wb : Nat} {T : TypeId} {xs : List Value} {pd : Nat → Prop} {fb : Nat} {v : Value} {x : Wr} {w w' : World}

theorem WS.on (h : WS L wb T xs pd fb v x w) (hb : Below w.heap.size w w') : WS L wb T xs pd fb v x w' :=
  ⟨h.bx.on hb, h.row.on hb, h.fa.on hb, h.ap, fun g hg => Nat.lt_of_lt_of_le (h.pl g hg) hb.size, h.lb⟩
theorem WS.c0 (h : WS L wb T xs pd fb v x w) : w.cell? ⟨wb, 0, none⟩ = some (.pointer (some ⟨fb, 0, none⟩)) := (h.bx.cell 0).trans (by simp)
theorem WS.c1 (h : WS L wb T xs pd fb v x w) : w.cell? ⟨wb, 1, none⟩ = some (.string (str x.p)) := (h.bx.cell 1).trans (by simp)
theorem WS.c2 (h : WS L wb T xs pd fb v x w) : w.cell? ⟨wb, 2, none⟩ = some v := (h.bx.cell 2).trans (by simp)
theorem WS.c3 (h : WS L wb T xs pd fb v x w) : w.cell? ⟨wb, 3, none⟩ = some (.bool x.g) := (h.bx.cell 3).trans (by simp)
theorem WS.f (h : WS L wb T xs pd fb v x w) (i : Nat) : w.frozen? ⟨wb, i, none⟩ = false := h.bx.frozen i
theorem WT.fam {T : TypeId} (h : WT T) : ¬ Fam T := by rcases h with rfl | rfl <;> decide
theorem WT.u8 {T : TypeId} (h : WT T) : T ≠ 5 := by rcases h with rfl | rfl <;> decide
/-- a store into one of the writer's own cells leaves all others as they are -/
theorem WCalm.store (pd : Nat → Prop) {cs : Array Value} (h : Blk w wb T cs) (hT : WT T) (i : Nat) (u : Value) : WCalm pd w (w.setCell ⟨wb, i, none⟩ u) := fun g t cs hb h1 h2 h3 h4 => hb.far i u (hb.ne_type h (fun e => by rcases hT with rfl | rfl; exact h2 e; exact h3 e))
theorem WCalm.grown (h : OwnO w L 5 v x.b) (ap : ∀ g, v.ownBlock = some g → ¬ pd g) (hg : w.grownBy w' v.ownBlock) : WCalm pd w w' := fun g t cs hb h1 h2 h3 h4 => hb.grown hg (fun e => by
  obtain ⟨_, _, cs2, h5⟩ := h.elem g e.symm
  have := hb.symm.trans h5
  simp at this
  exact ap g e.symm (h4 this.2))
/-- a store into one of the first four cells -/
theorem WS.at_ (h : WS L wb T xs pd fb v x w) (hT : WT T) (i : Nat) (u : Value) (v2 : Value) (y : Wr) (hk : y.k = x.k) (hb : OwnO w L 5 v2 y.b) (ap : ∀ g, v2.ownBlock = some g → ¬ pd g)
    (hc : (List.toArray (.pointer (some ⟨fb, 0, none⟩) :: .string (str x.p) :: v :: .bool x.g :: xs)).setIfInBounds i u = List.toArray (.pointer (some ⟨fb, 0, none⟩) :: .string (str y.p) :: v2 :: .bool y.g :: xs)) : WS L wb T xs pd fb v2 y (w.setCell ⟨wb, i, none⟩ u) := by
  refine ⟨by rw [← hc]; exact h.bx.set_ i u, hb.keep fun g cs hg hh => hh.far i u (hh.ne_type h.bx (fun e => hT.u8 e.symm)), ?_, ap, fun g hg => by rw [World.size_setCell]; exact h.pl g hg, h.lb⟩
  rw [hk]
  exact h.fa.away (e := T) (grown_set (grown_refl w (some wb)) i u) (fun g e => by obtain rfl := Option.some.inj e; exact ⟨_, h.bx⟩) hT.fam
/-- bits that have been appended, and stored -/
theorem WS.app (h : WS L wb T xs pd fb v x w) (hT : WT T) (hL : L ≤ w.heap.size) {v9 : Value} {b9 : List UInt8} (ho : OwnO w' L 5 v9 b9) (hg : w.grownBy w' v.ownBlock) (ha : v9.ownBlock = v.ownBlock ∨ ∃ g, v9.ownBlock = some g ∧ w.heap.size ≤ g) :
    WS L wb T xs pd fb v9 { x with b := b9 } (w'.setCell ⟨wb, 2, none⟩ v9) ∧ WCalm pd w (w'.setCell ⟨wb, 2, none⟩ v9) ∧ Below L w (w'.setCell ⟨wb, 2, none⟩ v9) := by
  have hne : some wb ≠ v.ownBlock := fun e => by
    obtain ⟨_, _, cs2, h5⟩ := h.row.elem wb e.symm
    have := h.bx.symm.trans h5
    simp at this
    exact hT.u8 this.2
  have hbx : Blk w' wb T (List.toArray (.pointer (some ⟨fb, 0, none⟩) :: .string (str x.p) :: v :: .bool x.g :: xs)) := h.bx.grown hg hne
  have hap : ∀ g, v9.ownBlock = some g → ¬ pd g := fun g hg9 hp => by
    rcases ha with h1 | ⟨g2, h1, h2⟩
    · exact h.ap g (h1 ▸ hg9) hp
    · have := h.pl g hp
      have e := hg9.symm.trans h1
      simp at e
      omega
  have hbel : Below L w w' := below_of_grown hg hL (fun g e => (h.row.elem g e).1)
  refine ⟨⟨?_, ?_, ?_, hap, fun g hp => ?_, h.lb⟩, ?_, ?_⟩
  · have := hbx.set_ 2 v9
    simpa using this
  · exact ho.keep fun g cs _ hh => hh.far 2 v9 (hh.ne_type hbx (fun e => hT.u8 e.symm))
  · exact (h.fa.away hg (fun g e => (h.row.elem g e).2.2) (by decide)).away (e := T) (grown_set (grown_refl w' (some wb)) 2 v9) (fun g e => by obtain rfl := Option.some.inj e; exact ⟨_, hbx⟩) hT.fam
  · rw [World.size_setCell]; exact Nat.lt_of_lt_of_le (h.pl g hp) hg.size
  · exact (WCalm.grown h.row h.ap hg).trans (WCalm.store pd hbx hT 2 v9)
  · exact hbel.trans (below_of_grown (grown_set (grown_refl w' (some wb)) 2 v9) (Nat.le_trans hL hg.size) (fun g e => by obtain rfl := Option.some.inj e; exact h.lb))
theorem WS.t2 (h : WS L wb T xs pd fb v x w) : w.cell? ⟨wb, 0, none⟩ = some (.pointer (some ⟨fb, 0, none⟩)) ∧ w.cell? ⟨wb, 2, none⟩ = some v ∧ True := ⟨h.c0, h.c2, trivial⟩
theorem WS.gr (h : WS L wb T xs pd fb v x w) (hT : WT T) (hg : w.grownBy w' v.ownBlock) : Blk w' wb T (List.toArray (.pointer (some ⟨fb, 0, none⟩) :: .string (str x.p) :: v :: .bool x.g :: xs)) := h.bx.grown hg (fun e => by
    obtain ⟨_, _, cs2, h5⟩ := h.row.elem wb e.symm
    have := h.bx.symm.trans h5
    simp at this
    exact hT.u8 this.2)
theorem WS.gr2 (h : WS L wb T xs pd fb v x w) (hT : WT T) (hg : w.grownBy w' v.ownBlock) : w'.cell? ⟨wb, 0, none⟩ = some (.pointer (some ⟨fb, 0, none⟩)) ∧ w'.cell? ⟨wb, 2, none⟩ = some v ∧ True :=
  ⟨((h.gr hT hg).cell 0).trans (by simp), ((h.gr hT hg).cell 2).trans (by simp), trivial⟩
theorem WS.calm (h : WS L wb T xs pd fb v x w) (hT : WT T) (hc : Calm w w') (hs : w.heap.size ≤ w'.heap.size) {k' : Kn} (hf : FAt L fb k' w') : WS L wb T xs pd fb v { x with k := k' } w' :=
  ⟨hc _ _ _ h.bx hT.fam, h.row.keep fun g cs _ hh => hc _ _ _ hh (by decide), hf, h.ap, fun g hp => Nat.lt_of_lt_of_le (h.pl g hp) hs, h.lb⟩
end
end Go.Proofs.Ytfklkepodpcdgaa
