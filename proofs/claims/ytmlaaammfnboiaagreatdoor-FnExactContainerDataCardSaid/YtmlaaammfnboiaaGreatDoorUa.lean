/- Plain mathematics: a writer, from the data that comes in to the bits that go out. No condition. Plain mathematics: what a clear code keeps stays the same while a writer writes; a writer's data at once. No condition. The contract of appendNumber, for a row that may begin anywhere; what a finder is, behind such an append. No condition but that the numbers are small. The contracts of a writer's setting, put and begin. No condition but that the writer is one at work. The contract of a writer's write. No condition but that the data fits. The contracts of a writer's pack and close. No condition but that the bits are few. The contracts of a writer's take. No condition but that a string has a length. The contract of takeAll, for a primed writer and one part. No condition but that the data fits. The contracts of a primed writer's compress. No condition but that a string has a length. The contracts of prime. No condition but that the numbers are int's. The contracts of the model's CompressWith. No condition but that the numbers are int's. -/
import Derived.Test.YtmlaaammfnboiaaGreatDoorGm
import Derived.Test.YtmlaaammfnboiaaGreatDoorBs
import Derived.Test.YtmlaaammfnboiaaGreatDoorBj
import Derived.Test.YtmlaaammfnboiaaGreatDoorOo
import Derived.Test.YtmlaaammfnboiaaGreatDoorGa
import Derived.Test.YtmlaaammfnboiaaGreatDoorGc
import Derived.Test.YtmlaaammfnboiaaGreatDoorGo
import Derived.Test.YtmlaaammfnboiaaGreatDoorGe
import Derived.Lib.BufferWrite
namespace Go.Proofs.YtmlaaammfnboiaaGreatDoor
section
set_option linter.unusedVariables false
set_option linter.unusedSimpArgs false

theorem Kn.bl_app (k : Kn) (cs rest : List Int) : k.bl (cs ++ rest) = k.bl cs ++ (k.run cs).bl rest := by
 induction cs generalizing k with
 | nil => rfl
 | cons a t ih => simp [Kn.bl, Kn.run, ih, List.append_assoc]
theorem Kn.run_app (k : Kn) (cs rest : List Int) : k.run (cs ++ rest) = (k.run cs).run rest := by
 induction cs generalizing k with
 | nil => rfl
 | cons a t ih => simp [Kn.run, ih]
theorem Kn.bl_snoc (k : Kn) (cs : List Int) (code : Int) : k.bl (cs ++ [code]) = k.bl cs ++ (k.run cs).cb code := by
 rw [Kn.bl_app]; simp [Kn.bl]
theorem M.asc_app (a b : List Bool) : M.asc (a ++ b) = M.asc a ++ M.asc b := by simp [M.asc]
theorem M.asc_len (a : List Bool) : (M.asc a).length = a.length := by simp [M.asc]
theorem M.asc_all (a : List Bool) : (M.asc a).all isBit = true := by
 induction a with
 | nil => rfl
 | cons x t ih => simp only [M.asc, List.map_cons, List.all_cons, chr_bit, Bool.true_and] at *; exact ih
/-- a writer: what is known, data that has no code yet, bits, whether it has begun -/
structure Wr where
 k : Kn
 p : List UInt8
 b : List UInt8
 g : Bool
namespace Wr
def put (x : Wr) (code : Int) : Wr := { x with b := x.b ++ M.asc (x.k.cb code), k := if code = x.k.c + 1 then x.k else x.k.step code }
def start (x : Wr) : Wr := if x.g = true then x else { x.put x.k.c with g := true }
def one (x : Wr) : Wr := { x.put (x.k.code1 x.p) with p := x.p.drop (x.k.lng x.p) }
def room (x : Wr) : Wr := if x.k.need then x.put x.k.c else x
def last (x : Wr) : Wr := if x.p = [] then x else { x.put (x.k.code1 x.p) with p := [] }
def cut (x : Wr) (n : Nat) : Wr := { x with b := x.b.drop n }
def phi (x : Wr) : Nat := 2 * x.b.length + 30 * x.p.length + 10 * x.k.phi
structure Go (x : Wr) : Prop where
 ok : x.k.Ok
 lit : Lits x.k.c x.p
 bit : x.b.all isBit = true
theorem put_clear (x : Wr) : x.put x.k.c = { x with b := x.b ++ M.asc (x.k.cb x.k.c), k := x.k.cleared } := by
 unfold put
 rw [if_neg (by omega), Kn.step_clear]
theorem put_code (x : Wr) (h : x.k.Ok) {code : Int} (hc : x.k.Fol code) : x.put code = { x with b := x.b ++ M.asc (x.k.cb code), k := x.k.after code } := by
 unfold put
 rw [if_neg (h.code1_ne hc).2, Kn.step_fol h hc]
theorem put_end (x : Wr) : x.put (x.k.c + 1) = { x with b := x.b ++ M.asc (x.k.cb (x.k.c + 1)) } := by
 unfold put
 rw [if_pos rfl]
theorem cb_le {k : Kn} (h : k.Ok) (code : Int) : (M.asc (k.cb code)).length ≤ 10 := by
 rw [M.asc_len, Kn.cb_len]
 have := h.width_bd
 omega
theorem Go.put {x : Wr} (h : x.Go) {code : Int} (hc : code = x.k.c ∨ code = x.k.c + 1 ∨ x.k.Fol code) : (x.put code).Go ∧ (x.put code).p = x.p ∧ (x.put code).g = x.g ∧ (x.put code).k.c = x.k.c ∧ (x.put code).k.o = x.k.o ∧ (x.put code).k.l = x.k.l ∧ (x.put code).k.m = x.k.m ∧ (x.put code).k.base = x.k.base ∧ (x.put code).b.length ≤ x.b.length + 10 := by
 have hb : (x.b ++ M.asc (x.k.cb code)).all isBit = true := by rw [List.all_append, h.bit, M.asc_all]; rfl
 have hl : (x.b ++ M.asc (x.k.cb code)).length ≤ x.b.length + 10 := by rw [List.length_append]; have := cb_le h.ok code; omega
 by_cases he : code = x.k.c + 1
 ·subst he
  rw [put_end]
  exact ⟨⟨h.ok, h.lit, hb⟩, rfl, rfl, rfl, rfl, rfl, rfl, rfl, hl⟩
 ·have hc2 : code = x.k.c ∨ x.k.Fol code := by
   rcases hc with h1 | h1 | h1
   ·exact Or.inl h1
   ·exact absurd h1 he
   ·exact Or.inr h1
  unfold Wr.put
  rw [if_neg he]
  exact ⟨⟨h.ok.step hc2, by show Lits (x.k.step code).c x.p; rw [Kn.step_c]; exact h.lit, hb⟩, rfl, rfl, Kn.step_c _ _, Kn.step_o _ _, Kn.step_l _ _, Kn.step_m _ _, Kn.step_base _ _, hl⟩
theorem Go.start {x : Wr} (h : x.Go) : x.start.Go ∧ x.start.p = x.p ∧ x.start.g = true ∧ x.start.k.c = x.k.c ∧ x.start.k.o = x.k.o ∧ x.start.k.l = x.k.l ∧ x.start.k.m = x.k.m ∧ x.start.b.length ≤ x.b.length + 10 := by
 unfold Wr.start
 by_cases hg : x.g = true
 ·rw [if_pos hg]
  exact ⟨h, rfl, hg, rfl, rfl, rfl, rfl, by omega⟩
 ·rw [if_neg hg]
  obtain ⟨h1, h2, h3, h4, h5, h6, h7, h8, h9⟩ := h.put (Or.inl rfl)
  exact ⟨⟨h1.ok, h1.lit, h1.bit⟩, h2, rfl, h4, h5, h6, h7, h9⟩
theorem Go.one {x : Wr} (h : x.Go) (hp : x.p ≠ []) : x.one.Go ∧ x.one.phi ≤ x.phi ∧ x.one.p.length < x.p.length ∧ x.one.g = x.g ∧ x.one.k.c = x.k.c ∧ x.one.k.o = x.k.o ∧ x.one.k.l = x.k.l ∧ x.one.k.m = x.k.m ∧ x.one.k.base = x.k.base ∧ x.one.b.length ≤ x.b.length + 10 := by
 obtain ⟨h1, h2, h3, h4⟩ := h.ok.code1 hp h.lit
 obtain ⟨g1, g2, g3, g4, g5, g6, g7, g8, g9⟩ := h.put (Or.inr (Or.inr h1))
 have e : (x.put (x.k.code1 x.p)).k = x.k.after (x.k.code1 x.p) := by rw [put_code x h.ok h1]
 have hph := h.ok.phi_after h1
 have hd : (x.p.drop (x.k.lng x.p)).length = x.p.length - x.k.lng x.p := List.length_drop ..
 refine ⟨⟨g1.ok, ?_, g1.bit⟩, ?_, ?_, g3, g4, g5, g6, g7, g8, g9⟩
 ·show Lits (x.put (x.k.code1 x.p)).k.c (x.p.drop (x.k.lng x.p))
  rw [g4]
  exact h.lit.drop _
 ·show 2 * (x.put (x.k.code1 x.p)).b.length + 30 * (x.p.drop (x.k.lng x.p)).length + 10 * (x.put (x.k.code1 x.p)).k.phi ≤ 2 * x.b.length + 30 * x.p.length + 10 * x.k.phi
  rw [e, hd]
  omega
 ·show (x.p.drop (x.k.lng x.p)).length < x.p.length
  omega
theorem Go.room {x : Wr} (h : x.Go) : x.room.Go ∧ x.room.phi ≤ x.phi ∧ x.room.p = x.p ∧ x.room.g = x.g ∧ x.room.k.c = x.k.c ∧ x.room.k.o = x.k.o ∧ x.room.k.l = x.k.l ∧ x.room.k.m = x.k.m ∧ x.room.k.base = x.k.base ∧ ¬ x.room.k.need := by
 unfold Wr.room
 by_cases hn : x.k.need
 ·rw [if_pos hn]
  obtain ⟨g1, g2, g3, g4, g5, g6, g7, g8, g9⟩ := h.put (Or.inl rfl)
  have e : (x.put x.k.c).k = x.k.cleared := by rw [put_clear]
  have h0 : x.k.cleared.phi = 0 := by
   have h1 := h.ok.base0
   have h2 := h.ok.base1
   have : ((x.k.ps.take x.k.base.toNat).length : Int) = x.k.base := by rw [List.length_take]; omega
   unfold Kn.phi Kn.cleared
   simp only [this, if_true]
  have h2 : x.k.phi = 2 := by
   unfold Kn.phi
   rw [if_neg (by have := hn.2; omega)]
  refine ⟨g1, ?_, g2, g3, g4, g5, g6, g7, g8, by rw [e]; exact h.ok.cleared_need⟩
  unfold Wr.phi
  rw [e, h0, h2, g2]
  omega
 ·rw [if_neg hn]
  exact ⟨h, Nat.le_refl _, rfl, rfl, rfl, rfl, rfl, rfl, rfl, hn⟩
/-- what holds all along while words are written -/
structure Sv (x y : Wr) : Prop where
 go : y.Go
 ph : y.phi ≤ x.phi
 g : y.g = x.g
 c : y.k.c = x.k.c
 o : y.k.o = x.k.o
 l : y.k.l = x.k.l
 m : y.k.m = x.k.m
 ne : y.p ≠ []
theorem Sv.refl {x : Wr} (h : x.Go) (hp : x.p ≠ []) : Sv x x := ⟨h, Nat.le_refl _, rfl, rfl, rfl, rfl, rfl, hp⟩
theorem drop_ne {l : List UInt8} {n : Nat} (h : n < l.length) : l.drop n ≠ [] := by
 intro e
 have := congrArg List.length e
 simp at this
 omega
theorem Go.more {x : Wr} (h : x.Go) (hp : x.p ≠ []) (hl : x.k.lng x.p ≠ x.p.length) : x.one.p ≠ [] := by
 obtain ⟨h1, h2, h3, h4⟩ := h.ok.code1 hp h.lit
 exact drop_ne (by omega)
theorem Sv.next {x y : Wr} (h : Sv x y) (hl : y.k.lng y.p ≠ y.p.length) : Sv x y.one.room ∧ y.one.room.p.length < y.p.length := by
 obtain ⟨a1, a2, a3, a4, a5, a6, a7, a8, a9, a10⟩ := h.go.one h.ne
 obtain ⟨b1, b2, b3, b4, b5, b6, b7, b8, b9, b10⟩ := a1.room
 refine ⟨⟨b1, Nat.le_trans b2 (Nat.le_trans a2 h.ph), ?_, ?_, ?_, ?_, ?_, ?_⟩, ?_⟩
 ·rw [b4, a4, h.g]
 ·rw [b5, a5, h.c]
 ·rw [b6, a6, h.o]
 ·rw [b7, a7, h.l]
 ·rw [b8, a8, h.m]
 ·rw [b3]; exact h.go.more h.ne hl
 ·rw [b3]; exact a3
theorem Go.last {x : Wr} (h : x.Go) : x.last.Go ∧ x.last.p = [] ∧ x.last.g = x.g ∧ x.last.k.c = x.k.c ∧ x.last.k.o = x.k.o ∧ x.last.k.l = x.k.l ∧ x.last.k.m = x.k.m ∧ x.last.b.length ≤ x.b.length + 10 := by
 unfold Wr.last
 by_cases hp : x.p = []
 ·rw [if_pos hp]
  exact ⟨h, hp, rfl, rfl, rfl, rfl, rfl, by omega⟩
 ·rw [if_neg hp]
  obtain ⟨h1, h2, h3, h4⟩ := h.ok.code1 hp h.lit
  obtain ⟨g1, g2, g3, g4, g5, g6, g7, g8, g9⟩ := h.put (Or.inr (Or.inr h1))
  exact ⟨⟨g1.ok, fun b hb => by simp at hb, g1.bit⟩, rfl, g3, g4, g5, g6, g7, g9⟩
end Wr

/-! ### all data from the beginning: the codes of the longest words -/
structure WI (k0 : Kn) (D : List UInt8) (x : Wr) (cs : List Int) (s f : Nat) : Prop where
 gi : GI k0 D cs x.k s f
 run : x.k = k0.run cs
 b : x.b = M.asc (k0.bl cs)
 p : x.p = D.drop s
section
variable {k0 : Kn} {D : List UInt8} {x : Wr} {cs : List Int} {s f : Nat}

theorem WI.snoc (h : WI k0 D x cs s f) (code : Int) (hne : code ≠ x.k.c + 1) : (x.put code).k = k0.run (cs ++ [code]) ∧ (x.put code).b = M.asc (k0.bl (cs ++ [code])) := by
 unfold Wr.put
 rw [if_neg hne]
 refine ⟨?_, ?_⟩
 ·show x.k.step code = _
  rw [Kn.run_app, ← h.run]
  rfl
 ·show x.b ++ M.asc (x.k.cb code) = _
  rw [Kn.bl_snoc, ← h.run, M.asc_app, h.b]
theorem WI.clear (h : WI k0 D x cs s f) (hs : s < D.length) (hn : x.k.need) : WI k0 D (x.put x.k.c) (cs ++ [x.k.c]) s f := by
 obtain ⟨h1, h2⟩ := h.snoc x.k.c (by omega)
 refine ⟨?_, h1, h2, h.p⟩
 have := h.gi.clear hs hn
 have e : (x.put x.k.c).k = x.k.step x.k.c := by rw [Wr.put_clear, Kn.step_clear]
 rw [e]
 exact this
theorem WI.word (h : WI k0 D x cs s f) (hl : Lits k0.c D) (hs : s < D.length) (hn : ¬ x.k.need) : ∃ f', WI k0 D x.one (cs ++ [x.k.code1 x.p]) (s + x.k.lng x.p) f' ∧ 1 ≤ x.k.lng x.p ∧ x.k.lng x.p ≤ D.length - s := by
 obtain ⟨h1, h2, h3, f', h4⟩ := h.gi.word hl hs hn
 rw [← h.p] at h1 h2 h3 h4
 obtain ⟨h5, h6⟩ := h.snoc (x.k.code1 x.p) (h.gi.ok.code1_ne h1).2
 refine ⟨f', ⟨?_, h5, h6, ?_⟩, h2, h3⟩
 ·have e : x.one.k = x.k.step (x.k.code1 x.p) := by
   show (x.put (x.k.code1 x.p)).k = _
   rw [Wr.put_code x h.gi.ok h1, Kn.step_fol h.gi.ok h1]
  rw [e]
  exact h4
 ·show x.p.drop (x.k.lng x.p) = _
  rw [h.p, List.drop_drop]
theorem WI.room (h : WI k0 D x cs s f) (hs : s < D.length) : ∃ cs', WI k0 D x.room cs' s f ∧ ¬ x.room.k.need := by
 unfold Wr.room
 by_cases hn : x.k.need
 ·rw [if_pos hn]
  refine ⟨_, h.clear hs hn, ?_⟩
  rw [Wr.put_clear]
  exact h.gi.ok.cleared_need
 ·rw [if_neg hn]
  exact ⟨_, h, hn⟩
end
/-- a new writer -/
def Wr.fresh (k : Kn) : Wr := ⟨k, [], [], false⟩
end

section
set_option linter.unusedVariables false
set_option linter.unusedSimpArgs false

theorem Kn.settled_cleared (q : Kn) : q.settled.cleared = q.settled := by
 unfold Kn.settled Kn.cleared
 simp
namespace Wr
end Wr
end

section
open Go.ChangeShapes Go.WideShapes Go.ChangeAt Go.RowKit Go.Joins
set_option linter.unusedVariables false

theorem Tryz.info_u8o : (Tryz.prog.info? 5).map (fun i => (i.zero, i.size, i.bytes)) = some (some (.int .u8 0), 1, 1) := by kernel_rfl

/-- a writer at work, in block wb (of type T, with further cells xs): its finder in block fb, its bits in the row v. pd: blocks that its bits never lie in -/
structure WS (L wb : Nat) (T : TypeId) (xs : List Value) (pd : Nat → Prop) (fb : Nat) (v : Value) (x : Wr) (w : World) : Prop where
 bx : Blk w wb T (List.toArray (.pointer (some ⟨fb, 0, none⟩) :: .string (str x.p) :: v :: .bool x.g :: xs))
 row : OwnO w L 5 v x.b
 fa : FAt L fb x.k w
 ap : ∀ g, v.ownBlock = some g → ¬ pd g
 pl : ∀ g, pd g → g < w.heap.size
 lb : L ≤ wb
/-- what a writer at work leaves as it is -/
def WCalm (pd : Nat → Prop) (w w' : World) : Prop := ∀ (g : Nat) (t : TypeId) (cs : Array Value), Blk w g t cs → ¬ Fam t → t ≠ 100 → t ≠ 102 → (t = 5 → pd g) → Blk w' g t cs
def WT (T : TypeId) : Prop := T = 100 ∨ T = 102
theorem WCalm.refl (pd : Nat → Prop) (w : World) : WCalm pd w w := fun _ _ _ h _ _ _ _ => h
theorem WCalm.trans {pd : Nat → Prop} {a b c : World} (h : WCalm pd a b) (k : WCalm pd b c) : WCalm pd a c := fun g t cs hb h1 h2 h3 h4 => k g t cs (h g t cs hb h1 h2 h3 h4) h1 h2 h3 h4
theorem WCalm.on {pd : Nat → Prop} {a b c : World} (h : WCalm pd a b) (k : Below b.heap.size b c) : WCalm pd a c := fun g t cs hb h1 h2 h3 h4 => (h g t cs hb h1 h2 h3 h4).on k
section
variable {L wb : Nat} {T : TypeId} {xs : List Value} {pd : Nat → Prop} {fb : Nat} {v : Value} {x : Wr} {w w' : World}

theorem WS.on (h : WS L wb T xs pd fb v x w) (hb : Below w.heap.size w w') : WS L wb T xs pd fb v x w' :=
 ⟨h.bx.on hb, h.row.on hb, h.fa.on hb, h.ap, fun g hg => Nat.lt_of_lt_of_le (h.pl g hg) hb.size, h.lb⟩
theorem WS.c0 (h : WS L wb T xs pd fb v x w) : w.cell? ⟨wb, 0, none⟩ = some (.pointer (some ⟨fb, 0, none⟩)) := (h.bx.cell 0).trans (by simp)
theorem WS.c2 (h : WS L wb T xs pd fb v x w) : w.cell? ⟨wb, 2, none⟩ = some v := (h.bx.cell 2).trans (by simp)
theorem WT.fam {T : TypeId} (h : WT T) : ¬ Fam T := by rcases h with rfl | rfl <;> decide
theorem WT.u8 {T : TypeId} (h : WT T) : T ≠ 5 := by rcases h with rfl | rfl <;> decide
/-- a store into one of the writer's own cells leaves all others as they are -/
theorem WCalm.store (pd : Nat → Prop) {cs : Array Value} (h : Blk w wb T cs) (hT : WT T) (i : Nat) (u : Value) : WCalm pd w (w.setCell ⟨wb, i, none⟩ u) := fun g t cs hb h1 h2 h3 h4 => hb.far i u (hb.ne_type h (fun e => by rcases hT with rfl | rfl; exact h2 e; exact h3 e))
theorem WCalm.grown (h : OwnO w L 5 v x.b) (ap : ∀ g, v.ownBlock = some g → ¬ pd g) (hg : w.grownBy w' v.ownBlock) : WCalm pd w w' := fun g t cs hb h1 h2 h3 h4 => hb.grown hg (fun e => by
 obtain ⟨_, _, cs2, h5⟩ := h.elem g e.symm
 have := hb.symm.trans h5
 simp at this
 exact ap g e.symm (h4 this.2))
/-- a store into one of the first four cells -/
theorem WS.at_ (h : WS L wb T xs pd fb v x w) (hT : WT T) (i : Nat) (u : Value) (v2 : Value) (y : Wr) (hk : y.k = x.k) (hb : OwnO w L 5 v2 y.b) (ap : ∀ g, v2.ownBlock = some g → ¬ pd g)
  (hc : (List.toArray (.pointer (some ⟨fb, 0, none⟩) :: .string (str x.p) :: v :: .bool x.g :: xs)).setIfInBounds i u = List.toArray (.pointer (some ⟨fb, 0, none⟩) :: .string (str y.p) :: v2 :: .bool y.g :: xs)) : WS L wb T xs pd fb v2 y (w.setCell ⟨wb, i, none⟩ u) := by
 refine ⟨by rw [← hc]; exact h.bx.set_ i u, hb.keep fun g cs hg hh => hh.far i u (hh.ne_type h.bx (fun e => hT.u8 e.symm)), ?_, ap, fun g hg => by rw [World.size_setCell]; exact h.pl g hg, h.lb⟩
 rw [hk]
 exact h.fa.away (e := T) (grown_set (grown_refl w (some wb)) i u) (fun g e => by obtain rfl := Option.some.inj e; exact ⟨_, h.bx⟩) hT.fam
theorem WS.t2 (h : WS L wb T xs pd fb v x w) : w.cell? ⟨wb, 0, none⟩ = some (.pointer (some ⟨fb, 0, none⟩)) ∧ w.cell? ⟨wb, 2, none⟩ = some v ∧ True := ⟨h.c0, h.c2, trivial⟩
end
end

section
open Go.ChangeShapes Go.WideShapes Go.ChangeAt Go.RowKit Go.Joins
set_option linter.unusedVariables false
set_option linter.unusedSimpArgs false

section
variable (L wb : Nat) (T : TypeId) (xs : List Value) (pd : Nat → Prop) (fb : Nat) (sv : Value) (x : Wr) (w : World)

end
end

section
open Go.ChangeShapes Go.WideShapes Go.ChangeAt Go.RowKit Go.Joins
set_option linter.unusedVariables false
set_option linter.unusedSimpArgs false

section
variable (L wb : Nat) (T : TypeId) (xs : List Value) (pd : Nat → Prop) (fb : Nat) (sv : Value) (x : Wr) (w : World)

end
end

section
open Go.ChangeShapes Go.WideShapes Go.ChangeAt Go.RowKit Go.Joins
set_option linter.unusedVariables false
set_option linter.unusedSimpArgs false

section
variable (L wb : Nat) (T : TypeId) (xs : List Value) (pd : Nat → Prop) (fb : Nat) (sv : Value) (x : Wr) (w : World)

end
end

section
open Go.ChangeShapes Go.WideShapes Go.ChangeAt Go.RowKit Go.Joins
set_option linter.unusedVariables false
set_option linter.unusedSimpArgs false

section
variable (L wb : Nat) (T : TypeId) (xs : List Value) (pd : Nat → Prop) (fb : Nat) (sv : Value) (x : Wr) (w : World)

end
end

section
open Go.ChangeShapes Go.WideShapes Go.ChangeAt Go.RowKit Go.Joins
set_option linter.unusedVariables false
set_option linter.unusedSimpArgs false

section
variable {L wb : Nat} {T : TypeId} {xs : List Value} {pd : Nat → Prop} {fb : Nat} {v : Value} {x : Wr} {w w' : World}

/-- more blocks that the bits never lie in -/
theorem WS.more (h : WS L wb T xs pd fb v x w) (q : Nat → Prop) (hq : ∀ g, q g → g < w.heap.size ∧ v.ownBlock ≠ some g) : WS L wb T xs (fun g => pd g ∨ q g) fb v x w :=
 ⟨h.bx, h.row, h.fa, fun g hg hp => hp.elim (h.ap g hg) (fun h1 => (hq g h1).2 hg), fun g hp => hp.elim (h.pl g) (fun h1 => (hq g h1).1), h.lb⟩
/-- another row of bytes is written -/
theorem WS.other (h : WS L wb T xs pd fb v x w) (hT : WT T) {row : Option Nat} (hg : w.grownBy w' row) (hr : ∀ g, row = some g → (∃ cs, Blk w g 5 cs) ∧ v.ownBlock ≠ some g ∧ ¬ pd g) : WS L wb T xs pd fb v x w' ∧ WCalm pd w w' := by
 have key : ∀ {g : Nat} {t : TypeId} {cs : Array Value}, Blk w g t cs → t ≠ 5 → some g ≠ row := fun {g t cs} hb ht e => by
  obtain ⟨⟨cs2, h5⟩, _⟩ := hr g e.symm
  have := hb.symm.trans h5
  simp at this
  exact ht this.2
 refine ⟨⟨h.bx.grown hg (key h.bx hT.u8), h.row.keep fun g cs hv hh => hh.grown hg (fun e => (hr g e.symm).2.1 hv), h.fa.away hg (fun g e => (hr g e).1) (by decide), h.ap, fun g hp => Nat.lt_of_lt_of_le (h.pl g hp) hg.size, h.lb⟩, ?_⟩
 intro g t cs hb h1 h2 h3 h4
 by_cases e : some g = row
 ·obtain ⟨⟨cs2, h5⟩, _, h6⟩ := hr g e.symm
  have := hb.symm.trans h5
  simp at this
  exact absurd (h4 this.2) h6
 ·exact hb.grown hg e
end
section
variable (L pb : Nat) (xs : List Value) (pd : Nat → Prop) (fb : Nat) (sv : Value) (x : Wr) (w : World)

end
end

section
open Go.ChangeShapes Go.WideShapes Go.ChangeAt Go.RowKit Go.Joins
set_option linter.unusedVariables false
set_option linter.unusedSimpArgs false

section
variable (L pb : Nat) (xs : List Value) (pd : Nat → Prop) (fb : Nat) (sv : Value) (K : Kn) (w : World)

end
end

section
open Go.ChangeShapes Go.WideShapes Go.ChangeAt Go.RowKit Go.Joins
set_option linter.unusedVariables false
set_option linter.unusedSimpArgs false

theorem zero_wf : (⟨0, 0, 0, [], 0, 0⟩ : Kn).Wf := ⟨(by intro i p hp; simp at hp), by show (-9223372036854775808 : Int) ≤ 0 ∧ (0 : Int) ≤ 9223372036854775807; omega, by show (-9223372036854775808 : Int) ≤ 0 ∧ (0 : Int) ≤ 9223372036854775807; omega, by simp⟩

set_option maxHeartbeats 4000000 in
set_option maxRecDepth 100000 in
theorem c_prime_no (o l m : Int) (w : World) (D : ByteArray) (hs : D.size ≤ maxLen) (hk : ¬ FitsOk (begun o l m) D) : Calls Tryz.prog 35 #[.agg #[.int .i64 o, .int .i64 l, .int .i64 m], .string D] w fun e w' => e = .returned (.tuple #[.pointer none, .bool false]) ∧ Below w.heap.size w w' := by
 obtain ⟨K, b, hps, hkf, hwf, HSt⟩ : ∃ (K : Kn) (b : Bool), K.ps = [] ∧ ¬ FitsOk K D ∧ K.Wf ∧ ∀ v : World, Calls Tryz.prog 62 #[.agg #[.int .i64 o, .int .i64 l, .int .i64 m]] v fun e w' => e = .returned (.tuple #[.agg #[.int .i64 K.o, .int .i64 K.l, .int .i64 K.m, .slice none 0 0, .int .i64 K.base, .int .i64 K.last], .bool b]) ∧ Below v.heap.size v w' := by
  cases h : setOk o l m with
  | true => exact ⟨begun o l m, true, rfl, hk, begun_wf o l m, fun v => c_Start_yes o l m v h⟩
  | false => exact ⟨⟨0, 0, 0, [], 0, 0⟩, false, rfl, fun e => by have := e.1.set; simp [setOk, orderOk, inB] at this, zero_wf, fun v => c_Start_no o l m v h⟩
 have HL := hid (fun (v : World) => c_learn_no K none 0 0 v (by rw [hps]; exact PsAt.nil _ _) (Nat.zero_le _) D hs hkf hwf)
 simp only [hps, List.length_nil] at HL
 have HSt := hid HSt
 have hB0 : Below w.heap.size w (w.alloc (.cells #[.int .i64 o, .int .i64 l, .int .i64 m] 28)) := by exact obB
 obtain ⟨y0, y1, y2⟩ := (Blk.new w 28 #[.int .i64 o, .int .i64 l, .int .i64 m]).cells3
 clear hk hps hkf hwf hs
 go_enter Tryz.func35, Tryz.ntmps35
 go_wp2_with fail
 refine (HSt.out _).mono ?_
 rintro e w1 ⟨rfl, hb1⟩
 obtain ⟨u0, u1, u2, u3, u4, u5⟩ := (Blk.new w1 88 #[.int .i64 K.o, .int .i64 K.l, .int .i64 K.m, .slice none 0 0, .int .i64 K.base, .int .i64 K.last]).cells6
 have hB1 := bel_trans hB0 hb1
 clear y0 y1 y2 hb1
 go_wp2_with fail
 refine (HL.out _).mono ?_
 rintro e w3 ⟨rfl, hb3⟩
 go_wp2
 go_ret2
 exact ⟨rfl, by exact obB⟩

set_option maxHeartbeats 4000000 in
set_option maxRecDepth 100000 in
theorem c_prime_yes (o l m : Int) (w : World) (D : ByteArray) (hk : FitsOk (begun o l m) D) (K : Kn) (hK : K = (begun o l m).learned D.data.toList) : Calls Tryz.prog 35 #[.agg #[.int .i64 o, .int .i64 l, .int .i64 m], .string D] w fun e w' => ∃ pb fb db te, e = .returned (.tuple #[.pointer (some ⟨pb, 0, none⟩), .bool true]) ∧ WS w.heap.size pb 102 [.slice (some ⟨db, 0, none⟩) D.size D.size, .int .i64 te] (fun g => False ∨ g = db) fb (.slice none 0 0) (Wr.fresh K) w' ∧ w'.ownsRow w.heap.size 5 1 (.slice (some ⟨db, 0, none⟩) D.size D.size) D.size (D.data.toList.map vb) ∧ Below w.heap.size w w' := by
 have hset := hk.1.set
 have hKo : K.Ok := by rw [hK]; exact hk.1.learned hk.lits.1
 have hDs := hk.lits.2
 have HL := hid (fun (v : World) => c_learn_yes (begun o l m) none 0 0 v (PsAt.nil _ _) (Nat.zero_le _) D hk (begun_wf o l m))
 simp only [← hK] at HL
 have HSt := hid (fun (v : World) => c_Start_yes o l m v hset)
 have HNF := hid (fun (A2 : Option Addr) (c2 L0 : Nat) (v : World) (hp : PsAt v L0 A2 c2 K.ps) (hL0 : L0 ≤ v.heap.size) => c_newFinder K A2 c2 L0 v hKo hp hL0)
 have hB0 : Below w.heap.size w (w.alloc (.cells #[.int .i64 o, .int .i64 l, .int .i64 m] 28)) := by exact obB
 obtain ⟨y0, y1, y2⟩ := (Blk.new w 28 #[.int .i64 o, .int .i64 l, .int .i64 m]).cells3
 obtain ⟨N, hN⟩ : ∃ N, N = D.size := ⟨_, rfl⟩
 rw [← hN] at hDs ⊢
 have HN := hid hN
 have hln : (D.size : Int) = (N : Int) := by omega
 have hmk : ∀ W : World, (Instr.makeSlice 98 (.int .i64 (N : Int)) (.int .i64 (N : Int))).run Tryz.prog W = .ok (.slice (some ⟨W.heap.size, 0, none⟩) N N) (W.alloc (.cells (madeCells (Value.int .u8 0).cells (N * 1)) 5)) := fun W => by
  obtain ⟨i0, hi, hz0, hz1, hz2⟩ := info_parts Tryz.info_u8o
  have hr := run_make (P := Tryz.prog) W 98 5 i0 (.int .u8 0) Tryz.underlying98 hi hz0 .i64 .i64 N N (by omega) (Int.le_refl _) (by rw [hz2]; omega) (by omega)
  rw [hz1] at hr
  simpa only [Int.toNat_natCast] using hr
 obtain ⟨ZC, hZC⟩ : ∃ ZC, ZC = madeCells (Value.int .u8 0).cells (N * 1) := ⟨_, rfl⟩
 rw [← hZC] at hmk
 have hcs : ZC.size = N := by rw [hZC, size_madeCells, Nat.mul_one]
 have HCs := hid hcs
 clear hk hK hset hKo hN hZC hcs
 go_enter Tryz.func35, Tryz.ntmps35
 go_wp2_with fail
 refine (HSt.out _).mono ?_
 rintro e w1 ⟨rfl, hb1⟩
 obtain ⟨u0, u1, u2, u3, u4, u5⟩ := (Blk.new w1 88 #[.int .i64 o, .int .i64 l, .int .i64 m, .slice none 0 0, .int .i64 0, .int .i64 (-1)]).cells6
 have hB1 := bel_trans hB0 hb1
 have hB2 := bel_alloc hB1 (.cells #[.int .i64 o, .int .i64 l, .int .i64 m, .slice none 0 0, .int .i64 0, .int .i64 (-1)] 88)
 clear y0 y1 y2 hb1
 go_wp2_with fail
 refine (HL.out _).mono ?_
 rintro e w3 ⟨A3, c3, te, rfl, hown3, hb3⟩
 have hB3 := bel_trans hB2 hb3
 clear u0 u1 u2 u3 u4 u5 hb3 hB2 hB1 hB0
 have hB4 := bel_alloc hB3 (.cells #[.int .i64 K.o, .int .i64 K.l, .int .i64 K.m, .slice A3 K.ps.length c3, .int .i64 K.base, .int .i64 K.last] 88)
 have HP := hid ((own_ps_at hown3).alloc (Nat.le_refl _) (.cells #[.int .i64 K.o, .int .i64 K.l, .int .i64 K.m, .slice A3 K.ps.length c3, .int .i64 K.base, .int .i64 K.last] 88))
 have HKB := hid (Blk.new w3 88 #[.int .i64 K.o, .int .i64 K.l, .int .i64 K.m, .slice A3 K.ps.length c3, .int .i64 K.base, .int .i64 K.last])
 obtain ⟨kb, hkb⟩ : ∃ kb, kb = w3.heap.size := ⟨_, rfl⟩
 rw [← hkb] at HKB
 clear hown3 hB3
 go_wp2_with fail
 obtain ⟨W4, hW4⟩ : ∃ W4, W4 = w3.alloc (.cells #[.int .i64 K.o, .int .i64 K.l, .int .i64 K.m, .slice A3 K.ps.length c3, .int .i64 K.base, .int .i64 K.last] 88) := ⟨_, rfl⟩
 rw [← hW4] at hB4 HP HKB ⊢
 rw [← hkb]
 have hsz : w3.heap.size ≤ W4.heap.size := by rw [hW4, World.size_alloc]; omega
 have HP4 := hid (fun (v : World) (hb : Below W4.heap.size W4 v) => show PsAt v w3.heap.size A3 c3 K.ps ∧ w3.heap.size ≤ v.heap.size from ⟨HP.out.below hb hsz, Nat.le_trans hsz hb.size⟩)
 clear hW4 hkb HP
 have hS := HKB.out.cells6t
 refine wp_region_noPanic ?_
 refine wp_region_held_drew (S := (fun v => v.cell? ⟨kb, 0, none⟩ = some (.int .i64 K.o) ∧ v.cell? ⟨kb, 1, none⟩ = some (.int .i64 K.l) ∧ v.cell? ⟨kb, 2, none⟩ = some (.int .i64 K.m) ∧ v.cell? ⟨kb, 3, none⟩ = some (.slice A3 K.ps.length c3) ∧ v.cell? ⟨kb, 4, none⟩ = some (.int .i64 K.base) ∧ v.cell? ⟨kb, 5, none⟩ = some (.int .i64 K.last) ∧ True)) (by kernel_rfl) (t6_drew hS) (fun hHeld => ?_)
 refine tk 0 ?_
 refine tk 3 ?_
 refine tk 4 ?_
 refine tk 6 ?_
 refine wpAnyH_ready (rs := [1, 5]) (by kernel_rfl) (by simp) ?_
 refine AllReadyH.cons (o := ?or1_1) ?ir1_1 (fun K hK => ?sr1_1) (AllReadyH.cons (o := ?or1_5) ?ir1_5 (fun K hK => ?sr1_5) AllReadyH.nil)
 case ir1_1 => (simp only [List.getElem?_toArray, List.getElem?_cons_succ, List.getElem?_cons_zero]; rfl)
 case ir1_5 => (simp only [List.getElem?_toArray, List.getElem?_cons_succ, List.getElem?_cons_zero]; rfl)
 case' sr1_1 =>
  (go_simp; (go_at_call 64; refine (HNF.out A3 c3 _ _ (HP4.out _ (by exact obB)).1 (HP4.out _ (by exact obB)).2).mono ?_; rintro e wQ ⟨hbQ, fb, A9, c9, nb, c10, Nd, Lo, bm, n9, rfl, hn9, hF⟩))
  refine hK.out _ _ ?kr1_1 (fun hHeld => ?_)
  case kr1_1 => (try dsimp only); (first | with_reducible assumption | exact t6_bel (by assumption) (by assumption) | assumption | exact t6_alloc (by assumption) _)
  clear hK K
  try simp only [Act.put, List.setIfInBounds_toArray, List.set_cons_zero, List.set_cons_succ]
  refine tk 2 ?_
  refine wpAnyH_ready (rs := [5]) (by kernel_rfl) (by simp) ?_
  refine AllReadyH.cons (o := ?or1b1_5) ?ir1b1_5 (fun K hK => ?sr1b1_5) AllReadyH.nil
  case ir1b1_5 => (simp only [List.getElem?_toArray, List.getElem?_cons_succ, List.getElem?_cons_zero]; rfl)
  ((go_simp))
  refine hK.out _ _ ?kr1b1_5 (fun hHeld => ?_)
  case kr1b1_5 => (try dsimp only); (first | with_reducible assumption | exact t6_bel (by assumption) (by assumption) | assumption | exact t6_alloc (by assumption) _)
  clear hK K
  try simp only [Act.put, List.setIfInBounds_toArray, List.set_cons_zero, List.set_cons_succ]
  refine tk 7 ?_
  refine wpAnyH_ready (rs := [8]) (by kernel_rfl) (by simp) ?_
  refine AllReadyH.cons (o := ?or1b1_8) ?ir1b1_8 (fun K hK => ?sr1b1_8) AllReadyH.nil
  case ir1b1_8 => (simp only [List.getElem?_toArray, List.getElem?_cons_succ, List.getElem?_cons_zero]; rfl)
  ((go_simp))
  refine hK.out _ _ ?kr1b1_8 (fun hHeld => ?_)
  case kr1b1_8 => (try dsimp only); (first | with_reducible assumption | exact t6_bel (by assumption) (by assumption) | assumption | exact t6_alloc (by assumption) _)
  clear hK K
  try simp only [Act.put, List.setIfInBounds_toArray, List.set_cons_zero, List.set_cons_succ]
  refine tk 9 ?_
  refine wpAnyH_done (by kernel_rfl) ?_ _
  refine NoPanic.normal ?_
 case' sr1_5 =>
  ((go_simp))
  refine hK.out _ _ ?kr1_5 (fun hHeld => ?_)
  case kr1_5 => (try dsimp only); (first | with_reducible assumption | exact t6_bel (by assumption) (by assumption) | assumption | exact t6_alloc (by assumption) _)
  clear hK K
  try simp only [Act.put, List.setIfInBounds_toArray, List.set_cons_zero, List.set_cons_succ]
  refine wpAnyH_ready (rs := [1]) (by kernel_rfl) (by simp) ?_
  refine AllReadyH.cons (o := ?or1b2_1) ?ir1b2_1 (fun K hK => ?sr1b2_1) AllReadyH.nil
  case ir1b2_1 => (simp only [List.getElem?_toArray, List.getElem?_cons_succ, List.getElem?_cons_zero]; rfl)
  (go_simp; (go_at_call 64; refine (HNF.out A3 c3 _ _ (HP4.out _ (by exact obB)).1 (HP4.out _ (by exact obB)).2).mono ?_; rintro e wQ ⟨hbQ, fb, A9, c9, nb, c10, Nd, Lo, bm, n9, rfl, hn9, hF⟩))
  refine hK.out _ _ ?kr1b2_1 (fun hHeld => ?_)
  case kr1b2_1 => (try dsimp only); (first | with_reducible assumption | exact t6_bel (by assumption) (by assumption) | assumption | exact t6_alloc (by assumption) _)
  clear hK K
  try simp only [Act.put, List.setIfInBounds_toArray, List.set_cons_zero, List.set_cons_succ]
  refine tk 2 ?_
  refine tk 7 ?_
  refine wpAnyH_ready (rs := [8]) (by kernel_rfl) (by simp) ?_
  refine AllReadyH.cons (o := ?or1b2_8) ?ir1b2_8 (fun K hK => ?sr1b2_8) AllReadyH.nil
  case ir1b2_8 => (simp only [List.getElem?_toArray, List.getElem?_cons_succ, List.getElem?_cons_zero]; rfl)
  ((go_simp))
  refine hK.out _ _ ?kr1b2_8 (fun hHeld => ?_)
  case kr1b2_8 => (try dsimp only); (first | with_reducible assumption | exact t6_bel (by assumption) (by assumption) | assumption | exact t6_alloc (by assumption) _)
  clear hK K
  try simp only [Act.put, List.setIfInBounds_toArray, List.set_cons_zero, List.set_cons_succ]
  refine tk 9 ?_
  refine wpAnyH_done (by kernel_rfl) ?_ _
  refine NoPanic.normal ?_
 ·obtain ⟨pb, hpbe⟩ : ∃ pb, pb = wQ.heap.size := ⟨_, rfl⟩
  obtain ⟨db, hdbe⟩ : ∃ db, db = W4.heap.size := ⟨_, rfl⟩
  have hPr : Blk (wQ.alloc (.cells #[.pointer (some ⟨fb, 0, none⟩), .string (ByteArray.mk #[]), .slice none 0 0, .bool false, .slice (some ⟨db, 0, none⟩) N N, .int .i64 te] 102)) pb 102 #[.pointer (some ⟨fb, 0, none⟩), .string (ByteArray.mk #[]), .slice none 0 0, .bool false, .slice (some ⟨db, 0, none⟩) N N, .int .i64 te] := by rw [hpbe]; exact Blk.new wQ _ _
  have hDr : Blk (wQ.alloc (.cells #[.pointer (some ⟨fb, 0, none⟩), .string (ByteArray.mk #[]), .slice none 0 0, .bool false, .slice (some ⟨db, 0, none⟩) N N, .int .i64 te] 102)) db 5 ZC := by rw [hdbe]; exact (((Blk.new W4 5 ZC).drew).on hbQ).alloc _
  have hbelQ : Below w.heap.size w wQ := bel_trans (bel_drew (bel_alloc hB4 (.cells ZC 5))) hbQ
  have hbel9 : Below w.heap.size w (wQ.alloc (.cells #[.pointer (some ⟨fb, 0, none⟩), .string (ByteArray.mk #[]), .slice none 0 0, .bool false, .slice (some ⟨db, 0, none⟩) N N, .int .i64 te] 102)) := bel_alloc hbelQ _
  have hFA : FAt w.heap.size fb K (wQ.alloc (.cells #[.pointer (some ⟨fb, 0, none⟩), .string (ByteArray.mk #[]), .slice none 0 0, .bool false, .slice (some ⟨db, 0, none⟩) N N, .int .i64 te] 102)) := (show FAt w.heap.size fb K wQ from ⟨A9, c9, nb, c10, Nd, Lo, bm, n9, hn9, hF.low (bel_drew (bel_alloc hB4 (.cells ZC 5))).size⟩).on (bel_alloc (Below.refl _ wQ) _)
  have hpb : w.heap.size ≤ pb := by rw [hpbe]; exact hbelQ.size
  have hdb : w.heap.size ≤ db := by rw [hdbe]; exact hB4.size
  rw [← hpbe, ← hdbe]
  obtain ⟨W9, hW9⟩ : ∃ W9, W9 = wQ.alloc (.cells #[.pointer (some ⟨fb, 0, none⟩), .string (ByteArray.mk #[]), .slice none 0 0, .bool false, .slice (some ⟨db, 0, none⟩) N N, .int .i64 te] 102) := ⟨_, rfl⟩
  rw [← hW9] at hPr hDr hbel9 hFA ⊢
  clear hW9 hpbe hdbe hbelQ hF hn9 hbQ
  have HDr := hid hDr
  have HPr := hid hPr
  have hcs := HCs.out
  have hcp : ∀ ty, (Builtin.copy_ #[ 98, 9 ] ty #[.slice (some ⟨db, 0, none⟩) N N, .string D]).run Tryz.prog W9 = .ok (goInt D.size) (W9.setRow db (Lib.byteCells D.data.toList).toArray) := fun ty => by
   have h := Lib.run_copy_row_string (P := Tryz.prog) W9 98 9 ty 5 db 0 N N D ZC 5 Tryz.underlying98 (by obtain ⟨i0, hi, hz0, hz1, hz2⟩ := info_parts Tryz.info_u8o; rw [hi]; simp [hz1]) HDr.out (by have := HN.out; omega) (by have := HN.out; omega)
   rw [h]
   have e1 : (ZC.toList.take 0 ++ Lib.byteCells D.data.toList ++ ZC.toList.drop (0 + D.size)) = Lib.byteCells D.data.toList := by
    rw [List.drop_of_length_le (by have := HN.out; simp; omega)]; simp
   rw [e1]
  have hgr : W9.grownBy (W9.setRow db (Lib.byteCells D.data.toList).toArray) (some db) := ⟨rfl, rfl, rfl, by simp [World.setRow], fun k _ hk => setRow_other W9 db k _ (fun e => hk (by simp [e]))⟩
  have hws0 : WS w.heap.size pb 102 [.slice (some ⟨db, 0, none⟩) N N, .int .i64 te] (fun _ => False) fb (.slice none 0 0) (Wr.fresh K) W9 := ⟨hPr, ownO_nil _ _ _, hFA, fun g hg => by simp [Value.ownBlock] at hg, fun g hg => hg.elim, hpb⟩
  obtain ⟨hws1, _⟩ := hws0.other (Or.inr rfl) hgr (fun g hg => by
   obtain rfl := Option.some.inj hg
   exact ⟨⟨_, HDr.out⟩, by simp [Value.ownBlock], fun e => e⟩)
  have hlt10 : db < (W9.setRow db (Lib.byteCells D.data.toList).toArray).heap.size := by have := hgr.size; have := HDr.out.lt; omega
  have HWS := hid (hws1.more (fun g => g = db) (fun g hg => ⟨by rw [hg]; exact hlt10, by simp [Value.ownBlock]⟩))
  have HOw := hid (show (W9.setRow db (Lib.byteCells D.data.toList).toArray).ownsRow w.heap.size 5 1 (.slice (some ⟨db, 0, none⟩) N N) N (D.data.toList.map vb) by
   have hh := setRow_heap W9 db ZC (Lib.byteCells D.data.toList).toArray 5 (0, 0) HDr.out
   refine ⟨by rw [List.length_map, len_toList, HN.out]; omega, Or.inr ⟨db, N, _, rfl, hdb, hh, Nat.le_refl _, by unfold maxLen; omega, by simp [Lib.byteCells_length]; have := HN.out; omega, ?_⟩⟩
   rw [List.take_of_length_le (by simp [Lib.byteCells_length]; have := HN.out; omega)]
   rfl)
  have HBe := hid (hbel9.trans (below_of_grown hgr hbel9.size (fun g hg => by obtain rfl := Option.some.inj hg; exact hdb)))
  have p4 : W9.cell? ⟨pb, 4, none⟩ = some (.slice (some ⟨db, 0, none⟩) N N) := HPr.out.cell 4
  clear hDr hPr hws0 hws1 hgr hlt10 hFA hcs hbel9
  go_wp2
  go_ret2
  exact ⟨pb, fb, db, te, rfl, HWS.out, HOw.out, HBe.out⟩
 ·obtain ⟨pb, hpbe⟩ : ∃ pb, pb = wQ.heap.size + 1 := ⟨_, rfl⟩
  obtain ⟨db, hdbe⟩ : ∃ db, db = wQ.heap.size := ⟨_, rfl⟩
  have hPr : Blk ((wQ.alloc (.cells ZC 5)).alloc (.cells #[.pointer (some ⟨fb, 0, none⟩), .string (ByteArray.mk #[]), .slice none 0 0, .bool false, .slice (some ⟨db, 0, none⟩) N N, .int .i64 te] 102)) pb 102 #[.pointer (some ⟨fb, 0, none⟩), .string (ByteArray.mk #[]), .slice none 0 0, .bool false, .slice (some ⟨db, 0, none⟩) N N, .int .i64 te] := by rw [hpbe]; have := Blk.new (wQ.alloc (.cells ZC 5)) 102 #[.pointer (some ⟨fb, 0, none⟩), .string (ByteArray.mk #[]), .slice none 0 0, .bool false, .slice (some ⟨db, 0, none⟩) N N, .int .i64 te]; rw [World.size_alloc] at this; exact this
  have hDr : Blk ((wQ.alloc (.cells ZC 5)).alloc (.cells #[.pointer (some ⟨fb, 0, none⟩), .string (ByteArray.mk #[]), .slice none 0 0, .bool false, .slice (some ⟨db, 0, none⟩) N N, .int .i64 te] 102)) db 5 ZC := by rw [hdbe]; exact (Blk.new wQ 5 ZC).alloc _
  have hbelQ : Below w.heap.size w wQ := bel_trans (bel_drew hB4) hbQ
  have hbel9 : Below w.heap.size w ((wQ.alloc (.cells ZC 5)).alloc (.cells #[.pointer (some ⟨fb, 0, none⟩), .string (ByteArray.mk #[]), .slice none 0 0, .bool false, .slice (some ⟨db, 0, none⟩) N N, .int .i64 te] 102)) := bel_alloc (bel_alloc hbelQ _) _
  have hFA : FAt w.heap.size fb K ((wQ.alloc (.cells ZC 5)).alloc (.cells #[.pointer (some ⟨fb, 0, none⟩), .string (ByteArray.mk #[]), .slice none 0 0, .bool false, .slice (some ⟨db, 0, none⟩) N N, .int .i64 te] 102)) := (show FAt w.heap.size fb K wQ from ⟨A9, c9, nb, c10, Nd, Lo, bm, n9, hn9, hF.low hB4.size⟩).on (bel_alloc (bel_alloc (Below.refl _ wQ) _) _)
  have hpb : w.heap.size ≤ pb := by rw [hpbe]; have := hbelQ.size; omega
  have hdb : w.heap.size ≤ db := by rw [hdbe]; exact hbelQ.size
  rw [← hpbe, ← hdbe]
  obtain ⟨W9, hW9⟩ : ∃ W9, W9 = (wQ.alloc (.cells ZC 5)).alloc (.cells #[.pointer (some ⟨fb, 0, none⟩), .string (ByteArray.mk #[]), .slice none 0 0, .bool false, .slice (some ⟨db, 0, none⟩) N N, .int .i64 te] 102) := ⟨_, rfl⟩
  rw [← hW9] at hPr hDr hbel9 hFA ⊢
  clear hW9 hpbe hdbe hbelQ hF hn9 hbQ
  have HDr := hid hDr
  have HPr := hid hPr
  have hcs := HCs.out
  have hcp : ∀ ty, (Builtin.copy_ #[ 98, 9 ] ty #[.slice (some ⟨db, 0, none⟩) N N, .string D]).run Tryz.prog W9 = .ok (goInt D.size) (W9.setRow db (Lib.byteCells D.data.toList).toArray) := fun ty => by
   have h := Lib.run_copy_row_string (P := Tryz.prog) W9 98 9 ty 5 db 0 N N D ZC 5 Tryz.underlying98 (by obtain ⟨i0, hi, hz0, hz1, hz2⟩ := info_parts Tryz.info_u8o; rw [hi]; simp [hz1]) HDr.out (by have := HN.out; omega) (by have := HN.out; omega)
   rw [h]
   have e1 : (ZC.toList.take 0 ++ Lib.byteCells D.data.toList ++ ZC.toList.drop (0 + D.size)) = Lib.byteCells D.data.toList := by
    rw [List.drop_of_length_le (by have := HN.out; simp; omega)]; simp
   rw [e1]
  have hgr : W9.grownBy (W9.setRow db (Lib.byteCells D.data.toList).toArray) (some db) := ⟨rfl, rfl, rfl, by simp [World.setRow], fun k _ hk => setRow_other W9 db k _ (fun e => hk (by simp [e]))⟩
  have hws0 : WS w.heap.size pb 102 [.slice (some ⟨db, 0, none⟩) N N, .int .i64 te] (fun _ => False) fb (.slice none 0 0) (Wr.fresh K) W9 := ⟨hPr, ownO_nil _ _ _, hFA, fun g hg => by simp [Value.ownBlock] at hg, fun g hg => hg.elim, hpb⟩
  obtain ⟨hws1, _⟩ := hws0.other (Or.inr rfl) hgr (fun g hg => by
   obtain rfl := Option.some.inj hg
   exact ⟨⟨_, HDr.out⟩, by simp [Value.ownBlock], fun e => e⟩)
  have hlt10 : db < (W9.setRow db (Lib.byteCells D.data.toList).toArray).heap.size := by have := hgr.size; have := HDr.out.lt; omega
  have HWS := hid (hws1.more (fun g => g = db) (fun g hg => ⟨by rw [hg]; exact hlt10, by simp [Value.ownBlock]⟩))
  have HOw := hid (show (W9.setRow db (Lib.byteCells D.data.toList).toArray).ownsRow w.heap.size 5 1 (.slice (some ⟨db, 0, none⟩) N N) N (D.data.toList.map vb) by
   have hh := setRow_heap W9 db ZC (Lib.byteCells D.data.toList).toArray 5 (0, 0) HDr.out
   refine ⟨by rw [List.length_map, len_toList, HN.out]; omega, Or.inr ⟨db, N, _, rfl, hdb, hh, Nat.le_refl _, by unfold maxLen; omega, by simp [Lib.byteCells_length]; have := HN.out; omega, ?_⟩⟩
   rw [List.take_of_length_le (by simp [Lib.byteCells_length]; have := HN.out; omega)]
   rfl)
  have HBe := hid (hbel9.trans (below_of_grown hgr hbel9.size (fun g hg => by obtain rfl := Option.some.inj hg; exact hdb)))
  have p4 : W9.cell? ⟨pb, 4, none⟩ = some (.slice (some ⟨db, 0, none⟩) N N) := HPr.out.cell 4
  clear hDr hPr hws0 hws1 hgr hlt10 hFA hcs hbel9
  go_wp2
  go_ret2
  exact ⟨pb, fb, db, te, rfl, HWS.out, HOw.out, HBe.out⟩
end

section
open Go.ChangeShapes Go.WideShapes Go.ChangeAt Go.RowKit Go.Joins
set_option linter.unusedVariables false

end
end Go.Proofs.YtmlaaammfnboiaaGreatDoor
