/- Plain mathematics: a writer, from the data that comes in to the bits that go out. No condition. Plain mathematics: what a clear code keeps stays the same while a writer writes; a writer's data at once. No condition. The contract of appendNumber, for a row that may begin anywhere; what a finder is, behind such an append. No condition but that the numbers are small. The contracts of a writer's setting, put and begin. No condition but that the writer is one at work. The contract of a writer's write. No condition but that the data fits. The contracts of a writer's pack and close. No condition but that the bits are few. The contracts of a writer's take. No condition but that a string has a length. The contract of takeAll, for a primed writer and one part. No condition but that the data fits. The contracts of a primed writer's compress. No condition but that a string has a length. The contracts of prime. No condition but that the numbers are int's. The contracts of the model's CompressWith. No condition but that the numbers are int's. -/
import Derived.Test.YtmlaaammfnboiaaGreatDoorGm
import Derived.Test.YtmlaaammfnboiaaGreatDoorBs
import Derived.Test.YtmlaaammfnboiaaGreatDoorBj
import Derived.Test.YtmlaaammfnboiaaGreatDoorOo
import Derived.Test.YtmlaaammfnboiaaGreatDoorGa
import Derived.Test.YtmlaaammfnboiaaGreatDoorGc
import Derived.Test.YtmlaaammfnboiaaGreatDoorGo
import Derived.Test.YtmlaaammfnboiaaGreatDoorGe
import Derived.Lib.BufferWrite
namespace Go.Proofs.YtmlaaammfnboiaaGreatDoor
section
set_option linter.unusedVariables false
set_option linter.unusedSimpArgs false

theorem Kn.bl_app (k : Kn) (cs rest : List Int) : k.bl (cs ++ rest) = k.bl cs ++ (k.run cs).bl rest := by
 induction cs generalizing k with
 | nil => rfl
 | cons a t ih => simp [Kn.bl, Kn.run, ih, List.append_assoc]
theorem Kn.run_app (k : Kn) (cs rest : List Int) : k.run (cs ++ rest) = (k.run cs).run rest := by
 induction cs generalizing k with
 | nil => rfl
 | cons a t ih => simp [Kn.run, ih]
theorem Kn.bl_snoc (k : Kn) (cs : List Int) (code : Int) : k.bl (cs ++ [code]) = k.bl cs ++ (k.run cs).cb code := by
 rw [Kn.bl_app]; simp [Kn.bl]
theorem M.asc_app (a b : List Bool) : M.asc (a ++ b) = M.asc a ++ M.asc b := by simp [M.asc]
theorem M.asc_len (a : List Bool) : (M.asc a).length = a.length := by simp [M.asc]
theorem M.asc_all (a : List Bool) : (M.asc a).all isBit = true := by
 induction a with
 | nil => rfl
 | cons x t ih => simp only [M.asc, List.map_cons, List.all_cons, chr_bit, Bool.true_and] at *; exact ih
theorem M.pack_app (h : Bool) (a b : List Bool) (ha : a.length % 8 = 0) : M.pack h (a ++ b) = M.pack h a ++ M.pack h b := by
 obtain ⟨n, hn⟩ : ∃ n, a.length = 8 * n := ⟨a.length / 8, by omega⟩
 have e1 : (a ++ b).length = 8 * n + b.length := by rw [List.length_append, hn]
 rw [M.pack, M.pack, M.pack, e1, hn, show (8 * n + b.length + 7) / 8 = n + (b.length + 7) / 8 from by omega, show (8 * n + 7) / 8 = n from by omega, M.packN_append h n _ a b hn]
theorem packS_app (o : Int) (a b : List UInt8) (ha : a.length % 8 = 0) : packS o (str a) ++ packS o (str b) = packS o (str (a ++ b)) := by
 have e : ∀ l : List UInt8, bitsL (str l) = l.map M.bit := fun l => by rw [bitsL, str_list]
 rw [packS, packS, packS, e, e, e, List.map_append, M.pack_app _ _ _ (by rw [List.length_map]; exact ha), str_append]

/-- a writer: what is known, data that has no code yet, bits, whether it has begun -/
structure Wr where
 k : Kn
 p : List UInt8
 b : List UInt8
 g : Bool
namespace Wr
def put (x : Wr) (code : Int) : Wr := { x with b := x.b ++ M.asc (x.k.cb code), k := if code = x.k.c + 1 then x.k else x.k.step code }
def start (x : Wr) : Wr := if x.g = true then x else { x.put x.k.c with g := true }
def one (x : Wr) : Wr := { x.put (x.k.code1 x.p) with p := x.p.drop (x.k.lng x.p) }
def room (x : Wr) : Wr := if x.k.need then x.put x.k.c else x
def loop : Nat → Wr → Wr
 | 0, x => x
 | f + 1, x => if x.k.lng x.p = x.p.length then x else loop f x.one.room
def write (x : Wr) (d : List UInt8) : Wr := if d = [] then x else loop (x.p.length + d.length) { x.start with p := x.p ++ d }
def last (x : Wr) : Wr := if x.p = [] then x else { x.put (x.k.code1 x.p) with p := [] }
def close (x : Wr) : Wr := x.start.last.put (x.start.last.k.c + 1)
def cut (x : Wr) (n : Nat) : Wr := { x with b := x.b.drop n }
def phi (x : Wr) : Nat := 2 * x.b.length + 30 * x.p.length + 10 * x.k.phi
structure Go (x : Wr) : Prop where
 ok : x.k.Ok
 lit : Lits x.k.c x.p
 bit : x.b.all isBit = true
theorem put_clear (x : Wr) : x.put x.k.c = { x with b := x.b ++ M.asc (x.k.cb x.k.c), k := x.k.cleared } := by
 unfold put
 rw [if_neg (by omega), Kn.step_clear]
theorem put_code (x : Wr) (h : x.k.Ok) {code : Int} (hc : x.k.Fol code) : x.put code = { x with b := x.b ++ M.asc (x.k.cb code), k := x.k.after code } := by
 unfold put
 rw [if_neg (h.code1_ne hc).2, Kn.step_fol h hc]
theorem put_end (x : Wr) : x.put (x.k.c + 1) = { x with b := x.b ++ M.asc (x.k.cb (x.k.c + 1)) } := by
 unfold put
 rw [if_pos rfl]
theorem cb_le {k : Kn} (h : k.Ok) (code : Int) : (M.asc (k.cb code)).length ≤ 10 := by
 rw [M.asc_len, Kn.cb_len]
 have := h.width_bd
 omega
theorem Go.put {x : Wr} (h : x.Go) {code : Int} (hc : code = x.k.c ∨ code = x.k.c + 1 ∨ x.k.Fol code) : (x.put code).Go ∧ (x.put code).p = x.p ∧ (x.put code).g = x.g ∧ (x.put code).k.c = x.k.c ∧ (x.put code).k.o = x.k.o ∧ (x.put code).k.l = x.k.l ∧ (x.put code).k.m = x.k.m ∧ (x.put code).k.base = x.k.base ∧ (x.put code).b.length ≤ x.b.length + 10 := by
 have hb : (x.b ++ M.asc (x.k.cb code)).all isBit = true := by rw [List.all_append, h.bit, M.asc_all]; rfl
 have hl : (x.b ++ M.asc (x.k.cb code)).length ≤ x.b.length + 10 := by rw [List.length_append]; have := cb_le h.ok code; omega
 by_cases he : code = x.k.c + 1
 ·subst he
  rw [put_end]
  exact ⟨⟨h.ok, h.lit, hb⟩, rfl, rfl, rfl, rfl, rfl, rfl, rfl, hl⟩
 ·have hc2 : code = x.k.c ∨ x.k.Fol code := by
   rcases hc with h1 | h1 | h1
   ·exact Or.inl h1
   ·exact absurd h1 he
   ·exact Or.inr h1
  unfold Wr.put
  rw [if_neg he]
  exact ⟨⟨h.ok.step hc2, by show Lits (x.k.step code).c x.p; rw [Kn.step_c]; exact h.lit, hb⟩, rfl, rfl, Kn.step_c _ _, Kn.step_o _ _, Kn.step_l _ _, Kn.step_m _ _, Kn.step_base _ _, hl⟩
theorem Go.start {x : Wr} (h : x.Go) : x.start.Go ∧ x.start.p = x.p ∧ x.start.g = true ∧ x.start.k.c = x.k.c ∧ x.start.k.o = x.k.o ∧ x.start.k.l = x.k.l ∧ x.start.k.m = x.k.m ∧ x.start.b.length ≤ x.b.length + 10 := by
 unfold Wr.start
 by_cases hg : x.g = true
 ·rw [if_pos hg]
  exact ⟨h, rfl, hg, rfl, rfl, rfl, rfl, by omega⟩
 ·rw [if_neg hg]
  obtain ⟨h1, h2, h3, h4, h5, h6, h7, h8, h9⟩ := h.put (Or.inl rfl)
  exact ⟨⟨h1.ok, h1.lit, h1.bit⟩, h2, rfl, h4, h5, h6, h7, h9⟩
theorem phi_le (k : Kn) : k.phi ≤ 2 := by
 unfold Kn.phi
 split
 ·split <;> omega
 ·omega
theorem Go.one {x : Wr} (h : x.Go) (hp : x.p ≠ []) : x.one.Go ∧ x.one.phi ≤ x.phi ∧ x.one.p.length < x.p.length ∧ x.one.g = x.g ∧ x.one.k.c = x.k.c ∧ x.one.k.o = x.k.o ∧ x.one.k.l = x.k.l ∧ x.one.k.m = x.k.m ∧ x.one.k.base = x.k.base ∧ x.one.b.length ≤ x.b.length + 10 := by
 obtain ⟨h1, h2, h3, h4⟩ := h.ok.code1 hp h.lit
 obtain ⟨g1, g2, g3, g4, g5, g6, g7, g8, g9⟩ := h.put (Or.inr (Or.inr h1))
 have e : (x.put (x.k.code1 x.p)).k = x.k.after (x.k.code1 x.p) := by rw [put_code x h.ok h1]
 have hph := h.ok.phi_after h1
 have hd : (x.p.drop (x.k.lng x.p)).length = x.p.length - x.k.lng x.p := List.length_drop ..
 refine ⟨⟨g1.ok, ?_, g1.bit⟩, ?_, ?_, g3, g4, g5, g6, g7, g8, g9⟩
 ·show Lits (x.put (x.k.code1 x.p)).k.c (x.p.drop (x.k.lng x.p))
  rw [g4]
  exact h.lit.drop _
 ·show 2 * (x.put (x.k.code1 x.p)).b.length + 30 * (x.p.drop (x.k.lng x.p)).length + 10 * (x.put (x.k.code1 x.p)).k.phi ≤ 2 * x.b.length + 30 * x.p.length + 10 * x.k.phi
  rw [e, hd]
  omega
 ·show (x.p.drop (x.k.lng x.p)).length < x.p.length
  omega
theorem Go.room {x : Wr} (h : x.Go) : x.room.Go ∧ x.room.phi ≤ x.phi ∧ x.room.p = x.p ∧ x.room.g = x.g ∧ x.room.k.c = x.k.c ∧ x.room.k.o = x.k.o ∧ x.room.k.l = x.k.l ∧ x.room.k.m = x.k.m ∧ x.room.k.base = x.k.base ∧ ¬ x.room.k.need := by
 unfold Wr.room
 by_cases hn : x.k.need
 ·rw [if_pos hn]
  obtain ⟨g1, g2, g3, g4, g5, g6, g7, g8, g9⟩ := h.put (Or.inl rfl)
  have e : (x.put x.k.c).k = x.k.cleared := by rw [put_clear]
  have h0 : x.k.cleared.phi = 0 := by
   have h1 := h.ok.base0
   have h2 := h.ok.base1
   have : ((x.k.ps.take x.k.base.toNat).length : Int) = x.k.base := by rw [List.length_take]; omega
   unfold Kn.phi Kn.cleared
   simp only [this, if_true]
  have h2 : x.k.phi = 2 := by
   unfold Kn.phi
   rw [if_neg (by have := hn.2; omega)]
  refine ⟨g1, ?_, g2, g3, g4, g5, g6, g7, g8, by rw [e]; exact h.ok.cleared_need⟩
  unfold Wr.phi
  rw [e, h0, h2, g2]
  omega
 ·rw [if_neg hn]
  exact ⟨h, Nat.le_refl _, rfl, rfl, rfl, rfl, rfl, rfl, rfl, hn⟩
/-- what holds all along while words are written -/
structure Sv (x y : Wr) : Prop where
 go : y.Go
 ph : y.phi ≤ x.phi
 g : y.g = x.g
 c : y.k.c = x.k.c
 o : y.k.o = x.k.o
 l : y.k.l = x.k.l
 m : y.k.m = x.k.m
 ne : y.p ≠ []
theorem Sv.refl {x : Wr} (h : x.Go) (hp : x.p ≠ []) : Sv x x := ⟨h, Nat.le_refl _, rfl, rfl, rfl, rfl, rfl, hp⟩
theorem drop_ne {l : List UInt8} {n : Nat} (h : n < l.length) : l.drop n ≠ [] := by
 intro e
 have := congrArg List.length e
 simp at this
 omega
theorem Go.more {x : Wr} (h : x.Go) (hp : x.p ≠ []) (hl : x.k.lng x.p ≠ x.p.length) : x.one.p ≠ [] := by
 obtain ⟨h1, h2, h3, h4⟩ := h.ok.code1 hp h.lit
 exact drop_ne (by omega)
theorem Sv.next {x y : Wr} (h : Sv x y) (hl : y.k.lng y.p ≠ y.p.length) : Sv x y.one.room ∧ y.one.room.p.length < y.p.length := by
 obtain ⟨a1, a2, a3, a4, a5, a6, a7, a8, a9, a10⟩ := h.go.one h.ne
 obtain ⟨b1, b2, b3, b4, b5, b6, b7, b8, b9, b10⟩ := a1.room
 refine ⟨⟨b1, Nat.le_trans b2 (Nat.le_trans a2 h.ph), ?_, ?_, ?_, ?_, ?_, ?_⟩, ?_⟩
 ·rw [b4, a4, h.g]
 ·rw [b5, a5, h.c]
 ·rw [b6, a6, h.o]
 ·rw [b7, a7, h.l]
 ·rw [b8, a8, h.m]
 ·rw [b3]; exact h.go.more h.ne hl
 ·rw [b3]; exact a3
theorem Sv.loop : ∀ (f : Nat) {x y : Wr}, Sv x y → y.p.length ≤ f → Sv x (Wr.loop f y) ∧ (Wr.loop f y).k.lng (Wr.loop f y).p = (Wr.loop f y).p.length
 | 0, x, y, h, hf => by
  have := h.ne
  cases hy : y.p with
  | nil => exact absurd hy this
  | cons a t => rw [hy] at hf; simp at hf
 | f + 1, x, y, h, hf => by
  unfold Wr.loop
  by_cases hl : y.k.lng y.p = y.p.length
  ·rw [if_pos hl]
   exact ⟨h, hl⟩
  ·rw [if_neg hl]
   obtain ⟨h1, h2⟩ := h.next hl
   exact Sv.loop f h1 (by omega)
theorem Go.last {x : Wr} (h : x.Go) : x.last.Go ∧ x.last.p = [] ∧ x.last.g = x.g ∧ x.last.k.c = x.k.c ∧ x.last.k.o = x.k.o ∧ x.last.k.l = x.k.l ∧ x.last.k.m = x.k.m ∧ x.last.b.length ≤ x.b.length + 10 := by
 unfold Wr.last
 by_cases hp : x.p = []
 ·rw [if_pos hp]
  exact ⟨h, hp, rfl, rfl, rfl, rfl, rfl, by omega⟩
 ·rw [if_neg hp]
  obtain ⟨h1, h2, h3, h4⟩ := h.ok.code1 hp h.lit
  obtain ⟨g1, g2, g3, g4, g5, g6, g7, g8, g9⟩ := h.put (Or.inr (Or.inr h1))
  exact ⟨⟨g1.ok, fun b hb => by simp at hb, g1.bit⟩, rfl, g3, g4, g5, g6, g7, g9⟩
/-- what a cut of the bits turns -/
theorem put_cut (x : Wr) (n : Nat) (hn : n ≤ x.b.length) (code : Int) : (x.cut n).put code = (x.put code).cut n := by
 unfold Wr.put Wr.cut
 simp only [List.drop_append_of_le_length hn]
theorem put_b (x : Wr) (code : Int) : x.b.length ≤ (x.put code).b.length := by unfold Wr.put; simp
theorem start_cut (x : Wr) (n : Nat) (hn : n ≤ x.b.length) : (x.cut n).start = x.start.cut n := by
 unfold Wr.start
 by_cases hg : x.g = true
 ·rw [if_pos hg, if_pos (show (x.cut n).g = true from hg)]
 ·rw [if_neg hg, if_neg (show ¬ (x.cut n).g = true from hg)]
  show ({ (x.cut n).put x.k.c with g := true } : Wr) = _
  rw [put_cut x n hn]
  rfl
theorem start_b (x : Wr) : x.b.length ≤ x.start.b.length := by
 unfold Wr.start
 by_cases hg : x.g = true
 ·rw [if_pos hg]; exact Nat.le_refl _
 ·rw [if_neg hg]; exact put_b x _
theorem last_cut (x : Wr) (n : Nat) (hn : n ≤ x.b.length) : (x.cut n).last = x.last.cut n := by
 unfold Wr.last
 by_cases hp : x.p = []
 ·rw [if_pos hp, if_pos (show (x.cut n).p = [] from hp)]
 ·rw [if_neg hp, if_neg (show ¬ (x.cut n).p = [] from hp)]
  show ({ (x.cut n).put (x.k.code1 x.p) with p := [] } : Wr) = _
  rw [put_cut x n hn]
  rfl
theorem last_b (x : Wr) : x.b.length ≤ x.last.b.length := by
 unfold Wr.last
 by_cases hp : x.p = []
 ·rw [if_pos hp]; exact Nat.le_refl _
 ·rw [if_neg hp]; exact put_b x _
theorem close_cut (x : Wr) (n : Nat) (hn : n ≤ x.b.length) : (x.cut n).close = x.close.cut n := by
 have h1 := start_b x
 have h2 := last_b x.start
 unfold Wr.close
 rw [start_cut x n hn, last_cut x.start n (by omega)]
 show (x.start.last.cut n).put (x.start.last.k.c + 1) = _
 rw [put_cut _ n (by omega)]
theorem close_grow (x : Wr) : ∃ t, x.close.b = x.b ++ t := by
 have h1 : ∀ (y : Wr) (code : Int), ∃ t, (y.put code).b = y.b ++ t := fun y code => ⟨_, rfl⟩
 have h2 : ∃ t, x.start.b = x.b ++ t := by
  unfold Wr.start
  by_cases hg : x.g = true
  ·rw [if_pos hg]; exact ⟨[], by simp⟩
  ·rw [if_neg hg]; exact h1 x _
 have h3 : ∃ t, x.start.last.b = x.start.b ++ t := by
  unfold Wr.last
  by_cases hp : x.start.p = []
  ·rw [if_pos hp]; exact ⟨[], by simp⟩
  ·rw [if_neg hp]; exact h1 x.start _
 obtain ⟨t2, h2⟩ := h2
 obtain ⟨t3, h3⟩ := h3
 obtain ⟨t1, h1⟩ := h1 x.start.last (x.start.last.k.c + 1)
 exact ⟨t2 ++ (t3 ++ t1), by unfold Wr.close; rw [h1, h3, h2, List.append_assoc, List.append_assoc]⟩
end Wr

/-! ### all data from the beginning: the codes of the longest words -/
structure WI (k0 : Kn) (D : List UInt8) (x : Wr) (cs : List Int) (s f : Nat) : Prop where
 gi : GI k0 D cs x.k s f
 run : x.k = k0.run cs
 b : x.b = M.asc (k0.bl cs)
 p : x.p = D.drop s
section
variable {k0 : Kn} {D : List UInt8} {x : Wr} {cs : List Int} {s f : Nat}

theorem WI.snoc (h : WI k0 D x cs s f) (code : Int) (hne : code ≠ x.k.c + 1) : (x.put code).k = k0.run (cs ++ [code]) ∧ (x.put code).b = M.asc (k0.bl (cs ++ [code])) := by
 unfold Wr.put
 rw [if_neg hne]
 refine ⟨?_, ?_⟩
 ·show x.k.step code = _
  rw [Kn.run_app, ← h.run]
  rfl
 ·show x.b ++ M.asc (x.k.cb code) = _
  rw [Kn.bl_snoc, ← h.run, M.asc_app, h.b]
theorem WI.clear (h : WI k0 D x cs s f) (hs : s < D.length) (hn : x.k.need) : WI k0 D (x.put x.k.c) (cs ++ [x.k.c]) s f := by
 obtain ⟨h1, h2⟩ := h.snoc x.k.c (by omega)
 refine ⟨?_, h1, h2, h.p⟩
 have := h.gi.clear hs hn
 have e : (x.put x.k.c).k = x.k.step x.k.c := by rw [Wr.put_clear, Kn.step_clear]
 rw [e]
 exact this
theorem WI.word (h : WI k0 D x cs s f) (hl : Lits k0.c D) (hs : s < D.length) (hn : ¬ x.k.need) : ∃ f', WI k0 D x.one (cs ++ [x.k.code1 x.p]) (s + x.k.lng x.p) f' ∧ 1 ≤ x.k.lng x.p ∧ x.k.lng x.p ≤ D.length - s := by
 obtain ⟨h1, h2, h3, f', h4⟩ := h.gi.word hl hs hn
 rw [← h.p] at h1 h2 h3 h4
 obtain ⟨h5, h6⟩ := h.snoc (x.k.code1 x.p) (h.gi.ok.code1_ne h1).2
 refine ⟨f', ⟨?_, h5, h6, ?_⟩, h2, h3⟩
 ·have e : x.one.k = x.k.step (x.k.code1 x.p) := by
   show (x.put (x.k.code1 x.p)).k = _
   rw [Wr.put_code x h.gi.ok h1, Kn.step_fol h.gi.ok h1]
  rw [e]
  exact h4
 ·show x.p.drop (x.k.lng x.p) = _
  rw [h.p, List.drop_drop]
theorem WI.room (h : WI k0 D x cs s f) (hs : s < D.length) : ∃ cs', WI k0 D x.room cs' s f ∧ ¬ x.room.k.need := by
 unfold Wr.room
 by_cases hn : x.k.need
 ·rw [if_pos hn]
  refine ⟨_, h.clear hs hn, ?_⟩
  rw [Wr.put_clear]
  exact h.gi.ok.cleared_need
 ·rw [if_neg hn]
  exact ⟨_, h, hn⟩
theorem WI.loop (hl : Lits k0.c D) : ∀ (n : Nat) {x : Wr} {cs : List Int} {s f : Nat}, WI k0 D x cs s f → ¬ x.k.need → s < D.length → D.length - s ≤ n → ∃ cs' s' f', WI k0 D (Wr.loop n x) cs' s' f' ∧ ¬ (Wr.loop n x).k.need ∧ s' < D.length ∧ (Wr.loop n x).k.lng (Wr.loop n x).p = D.length - s'
 | 0, x, cs, s, f, h, hn, hs, hf => by omega
 | n + 1, x, cs, s, f, h, hn, hs, hf => by
  have hpl : x.p.length = D.length - s := by rw [h.p, List.length_drop]
  unfold Wr.loop
  by_cases he : x.k.lng x.p = x.p.length
  ·rw [if_pos he]
   exact ⟨cs, s, f, h, hn, hs, by rw [he, hpl]⟩
  ·rw [if_neg he]
   obtain ⟨f', h1, h2, h3⟩ := h.word hl hs hn
   obtain ⟨cs', h4, h5⟩ := h1.room (by omega)
   exact WI.loop hl n h4 h5 (by omega) (by omega)
end
/-- a new writer -/
def Wr.fresh (k : Kn) : Wr := ⟨k, [], [], false⟩
theorem Wr.fresh_go {k : Kn} (h : k.Ok) : (Wr.fresh k).Go := ⟨h, fun b hb => by simp [Wr.fresh] at hb, rfl⟩
theorem WI.begun {k0 : Kn} (h : k0.Ok) (D : List UInt8) (hD : D ≠ []) : WI k0 D { (Wr.fresh k0).start with p := D } ([] ++ [k0.c]) 0 D.length := by
 refine ⟨?_, ?_, ?_, rfl⟩
 ·have := GI.start h D
  show GI k0 D ([] ++ [k0.c]) (Wr.fresh k0).start.k 0 D.length
  have e : (Wr.fresh k0).start.k = k0.step k0.c := by
   show ((Wr.fresh k0).put k0.c).k = _
   unfold Wr.put
   rw [if_neg (show ¬ k0.c = (Wr.fresh k0).k.c + 1 from by show ¬ k0.c = k0.c + 1; omega)]
   rfl
  rw [e]
  exact this
 ·show ((Wr.fresh k0).put k0.c).k = _
  unfold Wr.put
  rw [if_neg (show ¬ k0.c = (Wr.fresh k0).k.c + 1 from by show ¬ k0.c = k0.c + 1; omega)]
  rfl
 ·show [] ++ M.asc (k0.cb k0.c) = _
  simp [Kn.bl]
/-- all data at once, and the end -/
theorem Wr.all_bits {k0 : Kn} (h : k0.Ok) {D : List UInt8} (hl : Lits k0.c D) : ((Wr.fresh k0).write D).close.b = M.asc (k0.bl (k0.greedy D)) := by
 by_cases hD : D = []
 ·subst hD
  have e : (Wr.fresh k0).write [] = Wr.fresh k0 := by unfold Wr.write; rw [if_pos rfl]
  have e2 : (Wr.fresh k0).start.last = (Wr.fresh k0).start := by
   unfold Wr.last
   rw [if_pos]
   rfl
  have e3 : (Wr.fresh k0).start.k = k0.cleared := by
   show ((Wr.fresh k0).put (Wr.fresh k0).k.c).k = _
   rw [Wr.put_clear]
   rfl
  have e4 : (Wr.fresh k0).start.b = M.asc (k0.cb k0.c) := by
   show ((Wr.fresh k0).put (Wr.fresh k0).k.c).b = _
   rw [Wr.put_clear]
   show [] ++ M.asc (k0.cb k0.c) = _
   simp
  rw [e]
  unfold Wr.close
  rw [e2, Wr.put_end]
  show (Wr.fresh k0).start.b ++ M.asc ((Wr.fresh k0).start.k.cb ((Wr.fresh k0).start.k.c + 1)) = _
  rw [e4, e3, ← M.asc_app]
  simp [Kn.greedy, Kn.words1, Kn.bl, Kn.step_clear]
  rfl
 ·have hDl : 0 < D.length := List.length_pos_iff.2 hD
  have hst := WI.begun h D hD
  have hn0 : ¬ ({ (Wr.fresh k0).start with p := D } : Wr).k.need := by
   show ¬ ((Wr.fresh k0).put (Wr.fresh k0).k.c).k.need
   rw [Wr.put_clear]
   exact h.cleared_need
  obtain ⟨cs, s, f, h1, h2, h3, h4⟩ := WI.loop hl D.length hst hn0 hDl (by omega)
  have e : (Wr.fresh k0).write D = Wr.loop D.length { (Wr.fresh k0).start with p := D } := by
   unfold Wr.write
   rw [if_neg hD]
   show Wr.loop ([].length + D.length) { (Wr.fresh k0).start with p := [] ++ D } = _
   simp
  have hg : ∀ (n : Nat) (y : Wr), y.g = true → (Wr.loop n y).g = true := by
   intro n
   induction n with
   | zero => intro y hy; exact hy
   | succ n ih =>
    intro y hy
    unfold Wr.loop
    split
    ·exact hy
    ·refine ih _ ?_
     unfold Wr.room
     split <;> exact hy
  rw [e]
  obtain ⟨y, hy⟩ : ∃ y, y = Wr.loop D.length { (Wr.fresh k0).start with p := D } := ⟨_, rfl⟩
  have hyg : y.g = true := by rw [hy]; exact hg _ _ rfl
  rw [← hy] at h1 h2 h4 ⊢
  obtain ⟨f', h5, h6, h7⟩ := h1.word hl h3 h2
  have hpne : y.p ≠ [] := by rw [h1.p]; exact Wr.drop_ne h3
  have e1 : y.start = y := by unfold Wr.start; rw [if_pos hyg]
  have e2 : y.last = { y.put (y.k.code1 y.p) with p := [] } := by unfold Wr.last; rw [if_neg hpne]
  have hd := h5.gi.done (by omega)
  unfold Wr.close
  rw [e1, e2, Wr.put_end]
  show (y.put (y.k.code1 y.p)).b ++ M.asc ((y.put (y.k.code1 y.p)).k.cb ((y.put (y.k.code1 y.p)).k.c + 1)) = _
  have e5 : (y.put (y.k.code1 y.p)).k = y.one.k := rfl
  have e6 : (y.put (y.k.code1 y.p)).b = y.one.b := rfl
  rw [e5, e6, h5.b, h5.gi.c, hd, Kn.bl_snoc k0 (cs ++ [y.k.code1 y.p]), ← h5.run, M.asc_app]
end

section
set_option linter.unusedVariables false
set_option linter.unusedSimpArgs false

theorem Kn.Ok.step_cleared {k : Kn} (h : k.Ok) (code : Int) : (k.step code).cleared = k.cleared := by
 have h1 := h.base0
 have h2 := h.base1
 unfold Kn.step
 split
 ·unfold Kn.cleared
  simp [List.take_take]
 ·unfold Kn.after Kn.cleared
  simp only
  split
  ·rw [List.take_append_of_le_length (by omega)]
  ·rfl
theorem Kn.settled_cleared (q : Kn) : q.settled.cleared = q.settled := by
 unfold Kn.settled Kn.cleared
 simp
namespace Wr
theorem put_cl {x : Wr} (h : x.k.Ok) (code : Int) : (x.put code).k.cleared = x.k.cleared := by
 unfold Wr.put
 split
 ·rfl
 ·exact h.step_cleared code
theorem Go.start_cl {x : Wr} (h : x.Go) : x.start.k.cleared = x.k.cleared := by
 unfold Wr.start
 split
 ·rfl
 ·exact put_cl h.ok _
theorem Go.one_cl {x : Wr} (h : x.Go) : x.one.k.cleared = x.k.cleared := put_cl h.ok _
theorem Go.room_cl {x : Wr} (h : x.Go) : x.room.k.cleared = x.k.cleared := by
 unfold Wr.room
 split
 ·exact put_cl h.ok _
 ·rfl
theorem Go.last_cl {x : Wr} (h : x.Go) : x.last.k.cleared = x.k.cleared := by
 unfold Wr.last
 split
 ·rfl
 ·exact put_cl h.ok _
theorem Sv.loop_cl : ∀ (f : Nat) {x y : Wr}, Sv x y → (Wr.loop f y).k.cleared = y.k.cleared
 | 0, x, y, h => rfl
 | f + 1, x, y, h => by
  unfold Wr.loop
  split
  ·rfl
  ·rename_i hl
   obtain ⟨h1, h2⟩ := h.next hl
   obtain ⟨a1, _⟩ := h.go.one h.ne
   rw [Sv.loop_cl f h1, a1.room_cl, h.go.one_cl]
theorem Go.close_ {x : Wr} (h : x.Go) : x.close.Go ∧ x.close.k.cleared = x.k.cleared ∧ x.close.g = true ∧ x.close.p = [] ∧ x.close.k.c = x.k.c ∧ x.close.k.o = x.k.o ∧ x.close.k.l = x.k.l ∧ x.close.k.m = x.k.m ∧ x.close.b.length ≤ x.b.length + 30 := by
 obtain ⟨a1, a2, a3, a4, a5, a6, a7, a8⟩ := h.start
 obtain ⟨b1, b2, b3, b4, b5, b6, b7, b8⟩ := a1.last
 obtain ⟨c1, c2, c3, c4, c5, c6, c7, c8, c9⟩ := b1.put (Or.inr (Or.inl rfl))
 unfold Wr.close
 refine ⟨c1, ?_, ?_, ?_, ?_, ?_, ?_, ?_, by omega⟩
 ·rw [put_cl b1.ok, a1.last_cl, h.start_cl]
 ·rw [c3, b3, a3]
 ·rw [c2, b2]
 ·rw [c4, b4, a4]
 ·rw [c5, b5, a5]
 ·rw [c6, b6, a6]
 ·rw [c7, b7, a7]
/-- data that fits behind what is pending -/
theorem Go.write_ {x : Wr} (h : x.Go) {d : List UInt8} (hl : Lits x.k.c d) (hb : x.b.length ≤ 7) (hn : x.p.length + d.length ≤ 2000) : (x.write d).Go ∧ (x.write d).k.cleared = x.k.cleared ∧ (x.write d).k.c = x.k.c ∧ (x.write d).k.o = x.k.o ∧ (x.write d).k.l = x.k.l ∧ (x.write d).k.m = x.k.m ∧ (x.write d).b.length ≤ 30100 ∧ (x.write d).p.length ≤ 2500 := by
 unfold Wr.write
 by_cases hd : d = []
 ·rw [if_pos hd]
  exact ⟨h, rfl, rfl, rfl, rfl, rfl, by omega, by omega⟩
 ·rw [if_neg hd]
  obtain ⟨a1, a2, a3, a4, a5, a6, a7, a8⟩ := h.start
  have hg : ({ x.start with p := x.p ++ d } : Wr).Go := ⟨a1.ok, fun b hb => by
   show (b.toNat : Int) < x.start.k.c
   rw [a4]
   rcases List.mem_append.1 hb with h1 | h1
   ·exact h.lit b h1
   ·exact hl b h1, a1.bit⟩
  have hne : ({ x.start with p := x.p ++ d } : Wr).p ≠ [] := by
   show x.p ++ d ≠ []
   simp [hd]
  have hsv := Sv.refl hg hne
  obtain ⟨s1, s2⟩ := Sv.loop (x.p.length + d.length) hsv (by show (x.p ++ d).length ≤ _; simp)
  have hcl := Sv.loop_cl (x.p.length + d.length) hsv
  obtain ⟨y, hy⟩ : ∃ y, y = Wr.loop (x.p.length + d.length) { x.start with p := x.p ++ d } := ⟨_, rfl⟩
  rw [← hy] at s1 s2 hcl ⊢
  have hph := s1.ph
  have e1 : ({ x.start with p := x.p ++ d } : Wr).phi = 2 * x.start.b.length + 30 * (x.p ++ d).length + 10 * x.start.k.phi := rfl
  have e2 := phi_le x.start.k
  have e3 : y.phi = 2 * y.b.length + 30 * y.p.length + 10 * y.k.phi := rfl
  rw [List.length_append] at e1
  refine ⟨s1.go, ?_, s1.c.trans a4, s1.o.trans a5, s1.l.trans a6, s1.m.trans a7, by omega, by omega⟩
  rw [hcl]
  exact h.start_cl
end Wr
/-- bits that are written in two parts, the first one of whole bytes -/
theorem Wr.two_packs {k0 : Kn} (h : k0.Ok) {D : List UInt8} (hl : Lits k0.c D) (n : Nat) (hn : n = ((Wr.fresh k0).write D).b.length / 8 * 8) :
  packS k0.o (str (((Wr.fresh k0).write D).b.take n)) ++ packS k0.o (str ((((Wr.fresh k0).write D).cut n).close.b)) = k0.packed (k0.greedy D) := by
 obtain ⟨y, hy⟩ : ∃ y, y = (Wr.fresh k0).write D := ⟨_, rfl⟩
 have ha := Wr.all_bits h hl
 rw [← hy] at hn ha ⊢
 have hle : n ≤ y.b.length := by omega
 obtain ⟨t, ht⟩ := y.close_grow
 rw [Wr.close_cut y n hle]
 show packS k0.o (str (y.b.take n)) ++ packS k0.o (str (y.close.b.drop n)) = _
 rw [ht, List.drop_append_of_le_length hle, packS_app _ _ _ (by rw [List.length_take, Nat.min_eq_left hle]; omega), ← List.append_assoc, List.take_append_drop, ← ht, ha, ← Kn.bits_bl]
 rfl
end

section
open Go.ChangeShapes Go.WideShapes Go.ChangeAt Go.RowKit Go.Joins
set_option linter.unusedVariables false

theorem Tryz.info_u8o : (Tryz.prog.info? 5).map (fun i => (i.zero, i.size, i.bytes)) = some (some (.int .u8 0), 1, 1) := by kernel_rfl

theorem c_appendNumberO (o n width : Int) (B : Nat) (v : Value) (l : List UInt8) (w : World) (hn : 0 ≤ n) (hn2 : n ≤ 9223372036854775807) (hw0 : 0 ≤ width) (hw1 : width ≤ 16) (hm : l.length ≤ 100000) (hB : B ≤ w.heap.size) (hown : OwnO w B 5 v l) :
  Calls Tryz.prog 157 #[.int .i64 o, v, .int .i64 n, .int .i64 width] w fun e w' => ∃ v', e = .returned v' ∧ OwnO w' B 5 v' (l ++ dl o n width width.toNat) ∧ w.grownBy w' v.ownBlock ∧ (v'.ownBlock = v.ownBlock ∨ ∃ g, v'.ownBlock = some g ∧ w.heap.size ≤ g) := by
 go_enter Tryz.func157, Tryz.ntmps157
 go_wp2_with fail
 go_loopw [1, 11] (fun u i wr => ∃ k : Nat, k ≤ width ∧ i = .int .i64 k ∧ OwnO wr B 5 u (l ++ dl o n width k) ∧ w.grownBy wr v.ownBlock ∧ (u.ownBlock = v.ownBlock ∨ ∃ g, u.ownBlock = some g ∧ w.heap.size ≤ g)) (fun _ i _ => (width - intOf i).toNat)
 case atStart => exact ⟨0, hw0, rfl, by simpa [dl] using hown, grown_refl _ _, Or.inl rfl⟩
 case round =>
  obtain ⟨k, hk, rfl, hown, hgr, hat⟩ := hrel
  by_cases hlt : k < width
  ·have hp : 0 ≤ place o k width ∧ place o k width ≤ 63 := by unfold place; split <;> omega
   have hdg := dgI_bd n (place o k width)
   have hsz := hgr.size
   have hll : (l ++ dl o n width k).length ≤ 100000000000 := by simp [dl]; omega
   go_wp2_with (first | (go_at_call 168; refine (c_digit _ _ _ _ _ hn hn2 (by omega) hlt (by omega)).mono ?_; rintro e w' ⟨rfl, rfl⟩) | (at_builtin; refine app_byteO rfl _ _ 98 rfl B 5 Tryz.underlying98 Tryz.info_u8o _ _ rfl hown _ _ (chr_dg _ _) 1 rfl hll (by omega) ?_; intro v1 w1 hown1 hg1 hat1))
   go_roundw
   case rel =>
    refine ⟨k + 1, by omega, by go_num, by rw [dl_succ, ← List.append_assoc]; exact hown1, grown_step hgr hg1 hat, ?_⟩
    rcases hat1 with h1 | ⟨g, h1, h2⟩
    ·rw [h1]; exact hat
    ·exact Or.inr ⟨g, h1, by omega⟩
   case measure => simp [intOf]; omega
  ·obtain rfl : width = k := by omega
   go_wp2
   go_ret
   exact ⟨_, rfl, by simpa using hown, hgr, hat⟩

/-- a writer at work, in block wb (of type T, with further cells xs): its finder in block fb, its bits in the row v. pd: blocks that its bits never lie in -/
structure WS (L wb : Nat) (T : TypeId) (xs : List Value) (pd : Nat → Prop) (fb : Nat) (v : Value) (x : Wr) (w : World) : Prop where
 bx : Blk w wb T (List.toArray (.pointer (some ⟨fb, 0, none⟩) :: .string (str x.p) :: v :: .bool x.g :: xs))
 row : OwnO w L 5 v x.b
 fa : FAt L fb x.k w
 ap : ∀ g, v.ownBlock = some g → ¬ pd g
 pl : ∀ g, pd g → g < w.heap.size
 lb : L ≤ wb
/-- what a writer at work leaves as it is -/
def WCalm (pd : Nat → Prop) (w w' : World) : Prop := ∀ (g : Nat) (t : TypeId) (cs : Array Value), Blk w g t cs → ¬ Fam t → t ≠ 100 → t ≠ 102 → (t = 5 → pd g) → Blk w' g t cs
def WT (T : TypeId) : Prop := T = 100 ∨ T = 102
theorem WCalm.refl (pd : Nat → Prop) (w : World) : WCalm pd w w := fun _ _ _ h _ _ _ _ => h
theorem WCalm.trans {pd : Nat → Prop} {a b c : World} (h : WCalm pd a b) (k : WCalm pd b c) : WCalm pd a c := fun g t cs hb h1 h2 h3 h4 => k g t cs (h g t cs hb h1 h2 h3 h4) h1 h2 h3 h4
theorem WCalm.on {pd : Nat → Prop} {a b c : World} (h : WCalm pd a b) (k : Below b.heap.size b c) : WCalm pd a c := fun g t cs hb h1 h2 h3 h4 => (h g t cs hb h1 h2 h3 h4).on k
theorem WCalm.calm {pd : Nat → Prop} {a b c : World} (h : WCalm pd a b) (k : Calm b c) : WCalm pd a c := fun g t cs hb h1 h2 h3 h4 => k g t cs (h g t cs hb h1 h2 h3 h4) h1
section
variable {L wb : Nat} {T : TypeId} {xs : List Value} {pd : Nat → Prop} {fb : Nat} {v : Value} {x : Wr} {w w' : World}

theorem WS.on (h : WS L wb T xs pd fb v x w) (hb : Below w.heap.size w w') : WS L wb T xs pd fb v x w' :=
 ⟨h.bx.on hb, h.row.on hb, h.fa.on hb, h.ap, fun g hg => Nat.lt_of_lt_of_le (h.pl g hg) hb.size, h.lb⟩
theorem WS.c0 (h : WS L wb T xs pd fb v x w) : w.cell? ⟨wb, 0, none⟩ = some (.pointer (some ⟨fb, 0, none⟩)) := (h.bx.cell 0).trans (by simp)
theorem WS.c1 (h : WS L wb T xs pd fb v x w) : w.cell? ⟨wb, 1, none⟩ = some (.string (str x.p)) := (h.bx.cell 1).trans (by simp)
theorem WS.c2 (h : WS L wb T xs pd fb v x w) : w.cell? ⟨wb, 2, none⟩ = some v := (h.bx.cell 2).trans (by simp)
theorem WS.c3 (h : WS L wb T xs pd fb v x w) : w.cell? ⟨wb, 3, none⟩ = some (.bool x.g) := (h.bx.cell 3).trans (by simp)
theorem WS.f (h : WS L wb T xs pd fb v x w) (i : Nat) : w.frozen? ⟨wb, i, none⟩ = false := h.bx.frozen i
theorem WT.fam {T : TypeId} (h : WT T) : ¬ Fam T := by rcases h with rfl | rfl <;> decide
theorem WT.u8 {T : TypeId} (h : WT T) : T ≠ 5 := by rcases h with rfl | rfl <;> decide
/-- a store into one of the writer's own cells leaves all others as they are -/
theorem WCalm.store (pd : Nat → Prop) {cs : Array Value} (h : Blk w wb T cs) (hT : WT T) (i : Nat) (u : Value) : WCalm pd w (w.setCell ⟨wb, i, none⟩ u) := fun g t cs hb h1 h2 h3 h4 => hb.far i u (hb.ne_type h (fun e => by rcases hT with rfl | rfl; exact h2 e; exact h3 e))
theorem WCalm.grown (h : OwnO w L 5 v x.b) (ap : ∀ g, v.ownBlock = some g → ¬ pd g) (hg : w.grownBy w' v.ownBlock) : WCalm pd w w' := fun g t cs hb h1 h2 h3 h4 => hb.grown hg (fun e => by
 obtain ⟨_, _, cs2, h5⟩ := h.elem g e.symm
 have := hb.symm.trans h5
 simp at this
 exact ap g e.symm (h4 this.2))
/-- a store into one of the first four cells -/
theorem WS.at_ (h : WS L wb T xs pd fb v x w) (hT : WT T) (i : Nat) (u : Value) (v2 : Value) (y : Wr) (hk : y.k = x.k) (hb : OwnO w L 5 v2 y.b) (ap : ∀ g, v2.ownBlock = some g → ¬ pd g)
  (hc : (List.toArray (.pointer (some ⟨fb, 0, none⟩) :: .string (str x.p) :: v :: .bool x.g :: xs)).setIfInBounds i u = List.toArray (.pointer (some ⟨fb, 0, none⟩) :: .string (str y.p) :: v2 :: .bool y.g :: xs)) : WS L wb T xs pd fb v2 y (w.setCell ⟨wb, i, none⟩ u) := by
 refine ⟨by rw [← hc]; exact h.bx.set_ i u, hb.keep fun g cs hg hh => hh.far i u (hh.ne_type h.bx (fun e => hT.u8 e.symm)), ?_, ap, fun g hg => by rw [World.size_setCell]; exact h.pl g hg, h.lb⟩
 rw [hk]
 exact h.fa.away (e := T) (grown_set (grown_refl w (some wb)) i u) (fun g e => by obtain rfl := Option.some.inj e; exact ⟨_, h.bx⟩) hT.fam
/-- bits that have been appended, and stored -/
theorem WS.app (h : WS L wb T xs pd fb v x w) (hT : WT T) (hL : L ≤ w.heap.size) {v9 : Value} {b9 : List UInt8} (ho : OwnO w' L 5 v9 b9) (hg : w.grownBy w' v.ownBlock) (ha : v9.ownBlock = v.ownBlock ∨ ∃ g, v9.ownBlock = some g ∧ w.heap.size ≤ g) :
  WS L wb T xs pd fb v9 { x with b := b9 } (w'.setCell ⟨wb, 2, none⟩ v9) ∧ WCalm pd w (w'.setCell ⟨wb, 2, none⟩ v9) ∧ Below L w (w'.setCell ⟨wb, 2, none⟩ v9) := by
 have hne : some wb ≠ v.ownBlock := fun e => by
  obtain ⟨_, _, cs2, h5⟩ := h.row.elem wb e.symm
  have := h.bx.symm.trans h5
  simp at this
  exact hT.u8 this.2
 have hbx : Blk w' wb T (List.toArray (.pointer (some ⟨fb, 0, none⟩) :: .string (str x.p) :: v :: .bool x.g :: xs)) := h.bx.grown hg hne
 have hap : ∀ g, v9.ownBlock = some g → ¬ pd g := fun g hg9 hp => by
  rcases ha with h1 | ⟨g2, h1, h2⟩
  ·exact h.ap g (h1 ▸ hg9) hp
  ·have := h.pl g hp
   have e := hg9.symm.trans h1
   simp at e
   omega
 have hbel : Below L w w' := below_of_grown hg hL (fun g e => (h.row.elem g e).1)
 refine ⟨⟨?_, ?_, ?_, hap, fun g hp => ?_, h.lb⟩, ?_, ?_⟩
 ·have := hbx.set_ 2 v9
  simpa using this
 ·exact ho.keep fun g cs _ hh => hh.far 2 v9 (hh.ne_type hbx (fun e => hT.u8 e.symm))
 ·exact (h.fa.away hg (fun g e => (h.row.elem g e).2.2) (by decide)).away (e := T) (grown_set (grown_refl w' (some wb)) 2 v9) (fun g e => by obtain rfl := Option.some.inj e; exact ⟨_, hbx⟩) hT.fam
 ·rw [World.size_setCell]; exact Nat.lt_of_lt_of_le (h.pl g hp) hg.size
 ·exact (WCalm.grown h.row h.ap hg).trans (WCalm.store pd hbx hT 2 v9)
 ·exact hbel.trans (below_of_grown (grown_set (grown_refl w' (some wb)) 2 v9) (Nat.le_trans hL hg.size) (fun g e => by obtain rfl := Option.some.inj e; exact h.lb))
theorem WS.t2 (h : WS L wb T xs pd fb v x w) : w.cell? ⟨wb, 0, none⟩ = some (.pointer (some ⟨fb, 0, none⟩)) ∧ w.cell? ⟨wb, 2, none⟩ = some v ∧ True := ⟨h.c0, h.c2, trivial⟩
theorem WS.gr (h : WS L wb T xs pd fb v x w) (hT : WT T) (hg : w.grownBy w' v.ownBlock) : Blk w' wb T (List.toArray (.pointer (some ⟨fb, 0, none⟩) :: .string (str x.p) :: v :: .bool x.g :: xs)) := h.bx.grown hg (fun e => by
  obtain ⟨_, _, cs2, h5⟩ := h.row.elem wb e.symm
  have := h.bx.symm.trans h5
  simp at this
  exact hT.u8 this.2)
theorem WS.gr2 (h : WS L wb T xs pd fb v x w) (hT : WT T) (hg : w.grownBy w' v.ownBlock) : w'.cell? ⟨wb, 0, none⟩ = some (.pointer (some ⟨fb, 0, none⟩)) ∧ w'.cell? ⟨wb, 2, none⟩ = some v ∧ True :=
 ⟨((h.gr hT hg).cell 0).trans (by simp), ((h.gr hT hg).cell 2).trans (by simp), trivial⟩
theorem WS.calm (h : WS L wb T xs pd fb v x w) (hT : WT T) (hc : Calm w w') (hs : w.heap.size ≤ w'.heap.size) {k' : Kn} (hf : FAt L fb k' w') : WS L wb T xs pd fb v { x with k := k' } w' :=
 ⟨hc _ _ _ h.bx hT.fam, h.row.keep fun g cs _ hh => hc _ _ _ hh (by decide), hf, h.ap, fun g hp => Nat.lt_of_lt_of_le (h.pl g hp) hs, h.lb⟩
end
end

section
open Go.ChangeShapes Go.WideShapes Go.ChangeAt Go.RowKit Go.Joins
set_option linter.unusedVariables false
set_option linter.unusedSimpArgs false

section
variable (L wb : Nat) (T : TypeId) (xs : List Value) (pd : Nat → Prop) (fb : Nat) (sv : Value) (x : Wr) (w : World)

theorem c_wset (h : WS L wb T xs pd fb sv x w) : Calls Tryz.prog 98 #[.pointer (some ⟨wb, 0, none⟩)] w fun e w' => e = .returned (.agg #[.int .i64 x.k.o, .int .i64 x.k.l, .int .i64 x.k.m]) ∧ Below w.heap.size w w' := by
 obtain ⟨A', cap, hk⟩ := h.fa.kat
 obtain ⟨hb, r0, r1, r2, r3, r4, r5⟩ := hk
 have p0 := cell_al h.c0 (.cells #[.int .i64 0, .int .i64 0, .int .i64 0] 28)
 have q0 := cell_al r0 (.cells #[.int .i64 0, .int .i64 0, .int .i64 0] 28)
 have q1 := cell_al r1 (.cells #[.int .i64 0, .int .i64 0, .int .i64 0] 28)
 have q2 := cell_al r2 (.cells #[.int .i64 0, .int .i64 0, .int .i64 0] 28)
 clear r0 r1 r2 r3 r4 r5 hb h
 go_enter Tryz.func98, Tryz.ntmps98
 go_wp2
 exact bodyPost_ret (v := .agg #[.int .i64 x.k.o, .int .i64 x.k.l, .int .i64 x.k.m]) (by simp [results, Tryz.results98, go_sem]) rfl ⟨rfl, by exact obB⟩

theorem fld_order (o l m : Int) : ∀ w : World, (Instr.field 28 (.agg #[.int .i64 o, .int .i64 l, .int .i64 m]) 0).run Tryz.prog w = .ok (.int .i64 o) w := fun _ => by kernel_rfl

set_option maxHeartbeats 4000000 in
set_option maxRecDepth 100000 in
theorem c_put (hT : WT T) (hx : x.Go) (hL : L ≤ w.heap.size) (hbl : x.b.length ≤ 100000) (h : WS L wb T xs pd fb sv x w) (code : Int) (hc : code = x.k.c ∨ code = x.k.c + 1 ∨ x.k.Fol code) : Calls Tryz.prog 202 #[.pointer (some ⟨wb, 0, none⟩), .int .i64 code] w fun e w' => e = .returned (.tuple #[]) ∧ Below L w w' ∧ WCalm pd w w' ∧ ∃ v', WS L wb T xs pd fb v' (x.put code) w' := by
 have hset := hx.ok.set
 have hord : x.k.o = 0 ∨ x.k.o = 1 := (setOk_iff.1 hset).1
 have hcb := hx.ok.cbd
 have hg := hx.ok.great_bd
 have hcd : 0 ≤ code ∧ code ≤ 1023 := by
  rcases hc with h1 | h1 | h1
  ·omega
  ·omega
  ·have := (hx.ok.fol_iff code).1 h1; omega
 have hwd := hx.ok.width_bd
 have HEn := hid (fun (u : World) => c_EndCode_yes x.k.o x.k.l x.k.m u hset)
 have hce : x.k.c = pow2 x.k.l := rfl
 obtain ⟨C, hC⟩ : ∃ C, C = pow2 x.k.l := ⟨_, rfl⟩
 have HC := hid (show x.k.c = C from hC.symm)
 simp only [← hC] at HEn
 have H := hid h
 have HDl := hid (dl_codeBits x.k.o code x.k.width hord hcd.1)
 have HX := hid hx
 have HCo := hid hc
 have HT := hid hT
 have HW := hid (fun (u : World) (hk : WS L wb T xs pd fb sv x u) => by
  obtain ⟨A', cap, hk2⟩ := hk.fa.kat
  exact c_width fb x.k A' cap u hx.ok hk2)
 have hfd := fld_order x.k.o x.k.l x.k.m
 clear h hx hset hord hcb hg hce hC hc hT
 go_enter Tryz.func202, Tryz.ntmps202
 go_wp2_with fail
 refine (c_wset L wb T xs pd fb sv x _ H.out).mono ?_
 rintro e w1 ⟨rfl, hb1⟩
 have H1 := hid (H.out.on hb1)
 have hL1 : L ≤ w1.heap.size := Nat.le_trans hL hb1.size
 have hS : w1.cell? ⟨wb, 0, none⟩ = some (.pointer (some ⟨fb, 0, none⟩)) ∧ True := ⟨H1.out.c0, trivial⟩
 have hbel : Below w.heap.size w w1.drew := bel_drew hb1
 go_wp2_with fail
 have H2 := hid (H1.out.on (bel_drew (Below.refl _ w1)))
 have hL2 : L ≤ w1.drew.heap.size := hL1
 refine wp_region_noPanic ?_
 refine wp_region_held_drew (S := (fun v => v.cell? ⟨wb, 0, none⟩ = some (.pointer (some ⟨fb, 0, none⟩)) ∧ True)) (by kernel_rfl) (t1_drew hS) (fun hHeld => ?_)
 refine tk 0 ?_
 refine tk 1 ?_
 refine tk 2 ?_
 refine tk 3 ?_
 refine tk 4 ?_
 refine tk 6 ?_
 refine tk 7 ?_
 refine tk 8 ?_
 refine tk 9 ?_
 refine tk 10 ?_
 refine tk 11 ?_
 refine tk 12 ?_
 refine wpAnyH_ready (rs := [5, 13]) (by kernel_rfl) (by simp) ?_
 refine AllReadyH.cons (o := ?or1_5) ?ir1_5 (fun K hK => ?sr1_5) (AllReadyH.cons (o := ?or1_13) ?ir1_13 (fun K hK => ?sr1_13) AllReadyH.nil)
 case ir1_5 => (simp only [List.getElem?_toArray, List.getElem?_cons_succ, List.getElem?_cons_zero]; rfl)
 case ir1_13 => (simp only [List.getElem?_toArray, List.getElem?_cons_succ, List.getElem?_cons_zero]; rfl)
 case' sr1_5 =>
  ((have c5 := H2.out.c2; go_simp))
  refine hK.out _ _ ?kr1_5 (fun hHeld => ?_)
  case kr1_5 => (try dsimp only); (first | with_reducible assumption | with_reducible exact ⟨HR.out.1.c0, trivial⟩ | with_reducible exact ⟨H9.out.1, trivial⟩ | with_reducible exact ⟨H2.out.c0, trivial⟩ | exact t1_bel (by assumption) (by assumption) | assumption | exact t1_alloc (by assumption) _ | exact ⟨HR.out.1.c0, trivial⟩ | exact ⟨H9.out.1, trivial⟩ | exact ⟨H2.out.c0, trivial⟩)
  clear hK K
  try simp only [Act.put, List.setIfInBounds_toArray, List.set_cons_zero, List.set_cons_succ]
  refine wpAnyH_ready (rs := [13]) (by kernel_rfl) (by simp) ?_
  refine AllReadyH.cons (o := ?or1b1_13) ?ir1b1_13 (fun K hK => ?sr1b1_13) AllReadyH.nil
  case ir1b1_13 => (simp only [List.getElem?_toArray, List.getElem?_cons_succ, List.getElem?_cons_zero]; rfl)
  (go_simp; (go_at_call 164; refine (HW.out _ H2.out).mono ?_; rintro e wQ ⟨rfl, hbQ⟩; replace H2 := hid (H2.out.on hbQ); replace hL2 := Nat.le_trans hL2 hbQ.size; replace hbel := bel_trans hbel hbQ))
  refine hK.out _ _ ?kr1b1_13 (fun hHeld => ?_)
  case kr1b1_13 => (try dsimp only); (first | with_reducible assumption | with_reducible exact ⟨HR.out.1.c0, trivial⟩ | with_reducible exact ⟨H9.out.1, trivial⟩ | with_reducible exact ⟨H2.out.c0, trivial⟩ | exact t1_bel (by assumption) (by assumption) | assumption | exact t1_alloc (by assumption) _ | exact ⟨HR.out.1.c0, trivial⟩ | exact ⟨H9.out.1, trivial⟩ | exact ⟨H2.out.c0, trivial⟩)
  clear hK K
  try simp only [Act.put, List.setIfInBounds_toArray, List.set_cons_zero, List.set_cons_succ]
  refine wpAnyH_ready (rs := [14]) (by kernel_rfl) (by simp) ?_
  refine AllReadyH.cons (o := ?or1b1_14) ?ir1b1_14 (fun K hK => ?sr1b1_14) AllReadyH.nil
  case ir1b1_14 => (simp only [List.getElem?_toArray, List.getElem?_cons_succ, List.getElem?_cons_zero]; rfl)
  (go_simp; (go_at_call 157; refine (c_appendNumberO x.k.o code x.k.width L sv x.b _ hcd.1 (by omega) (by omega) (by omega) hbl hL2 H2.out.row).mono ?_; rintro e w9 ⟨v9, rfl, ho9, hg9, ha9⟩; obtain ⟨b9, hb9⟩ : ∃ b9, b9 = x.b ++ dl x.k.o code x.k.width x.k.width.toNat := ⟨_, rfl⟩; rw [← hb9] at ho9; have HB9 := hid hb9; clear hb9; obtain ⟨A9, c9, rfl⟩ := ho9.sl; have H9 := hid (H2.out.gr2 HT.out hg9); have HR := hid (H2.out.app HT.out hL2 ho9 hg9 ha9); have f9 := (H2.out.gr HT.out hg9).frozen 2; have q9 := H9.out.2.1))
  refine hK.out _ _ ?kr1b1_14 (fun hHeld => ?_)
  case kr1b1_14 => (try dsimp only); (first | with_reducible assumption | with_reducible exact ⟨HR.out.1.c0, trivial⟩ | with_reducible exact ⟨H9.out.1, trivial⟩ | with_reducible exact ⟨H2.out.c0, trivial⟩ | exact t1_bel (by assumption) (by assumption) | assumption | exact t1_alloc (by assumption) _ | exact ⟨HR.out.1.c0, trivial⟩ | exact ⟨H9.out.1, trivial⟩ | exact ⟨H2.out.c0, trivial⟩)
  clear hK K
  try simp only [Act.put, List.setIfInBounds_toArray, List.set_cons_zero, List.set_cons_succ]
  refine tk 15 ?_
  refine tk 16 ?_
  refine wpAnyH_ready (rs := [17]) (by kernel_rfl) (by simp) ?_
  refine AllReadyH.cons (o := ?or1b1_17) ?ir1b1_17 (fun K hK => ?sr1b1_17) AllReadyH.nil
  case ir1b1_17 => (simp only [List.getElem?_toArray, List.getElem?_cons_succ, List.getElem?_cons_zero]; rfl)
  (go_simp; (skip))
  refine hK.out _ _ ?kr1b1_17 (fun hHeld => ?_)
  case kr1b1_17 => (try dsimp only); (first | with_reducible assumption | with_reducible exact ⟨HR.out.1.c0, trivial⟩ | with_reducible exact ⟨H9.out.1, trivial⟩ | with_reducible exact ⟨H2.out.c0, trivial⟩ | exact t1_bel (by assumption) (by assumption) | assumption | exact t1_alloc (by assumption) _ | exact ⟨HR.out.1.c0, trivial⟩ | exact ⟨H9.out.1, trivial⟩ | exact ⟨H2.out.c0, trivial⟩)
  clear hK K
  try simp only [Act.put, List.setIfInBounds_toArray, List.set_cons_zero, List.set_cons_succ]
  refine wpAnyH_done (by kernel_rfl) ?_ _
  refine NoPanic.normal ?_
 case' sr1_13 =>
  (go_simp; (go_at_call 164; refine (HW.out _ H2.out).mono ?_; rintro e wQ ⟨rfl, hbQ⟩; replace H2 := hid (H2.out.on hbQ); replace hL2 := Nat.le_trans hL2 hbQ.size; replace hbel := bel_trans hbel hbQ))
  refine hK.out _ _ ?kr1_13 (fun hHeld => ?_)
  case kr1_13 => (try dsimp only); (first | with_reducible assumption | with_reducible exact ⟨HR.out.1.c0, trivial⟩ | with_reducible exact ⟨H9.out.1, trivial⟩ | with_reducible exact ⟨H2.out.c0, trivial⟩ | exact t1_bel (by assumption) (by assumption) | assumption | exact t1_alloc (by assumption) _ | exact ⟨HR.out.1.c0, trivial⟩ | exact ⟨H9.out.1, trivial⟩ | exact ⟨H2.out.c0, trivial⟩)
  clear hK K
  try simp only [Act.put, List.setIfInBounds_toArray, List.set_cons_zero, List.set_cons_succ]
  refine wpAnyH_ready (rs := [5]) (by kernel_rfl) (by simp) ?_
  refine AllReadyH.cons (o := ?or1b2_5) ?ir1b2_5 (fun K hK => ?sr1b2_5) AllReadyH.nil
  case ir1b2_5 => (simp only [List.getElem?_toArray, List.getElem?_cons_succ, List.getElem?_cons_zero]; rfl)
  ((have c5 := H2.out.c2; go_simp))
  refine hK.out _ _ ?kr1b2_5 (fun hHeld => ?_)
  case kr1b2_5 => (try dsimp only); (first | with_reducible assumption | with_reducible exact ⟨HR.out.1.c0, trivial⟩ | with_reducible exact ⟨H9.out.1, trivial⟩ | with_reducible exact ⟨H2.out.c0, trivial⟩ | exact t1_bel (by assumption) (by assumption) | assumption | exact t1_alloc (by assumption) _ | exact ⟨HR.out.1.c0, trivial⟩ | exact ⟨H9.out.1, trivial⟩ | exact ⟨H2.out.c0, trivial⟩)
  clear hK K
  try simp only [Act.put, List.setIfInBounds_toArray, List.set_cons_zero, List.set_cons_succ]
  refine wpAnyH_ready (rs := [14]) (by kernel_rfl) (by simp) ?_
  refine AllReadyH.cons (o := ?or1b2_14) ?ir1b2_14 (fun K hK => ?sr1b2_14) AllReadyH.nil
  case ir1b2_14 => (simp only [List.getElem?_toArray, List.getElem?_cons_succ, List.getElem?_cons_zero]; rfl)
  (go_simp; (go_at_call 157; refine (c_appendNumberO x.k.o code x.k.width L sv x.b _ hcd.1 (by omega) (by omega) (by omega) hbl hL2 H2.out.row).mono ?_; rintro e w9 ⟨v9, rfl, ho9, hg9, ha9⟩; obtain ⟨b9, hb9⟩ : ∃ b9, b9 = x.b ++ dl x.k.o code x.k.width x.k.width.toNat := ⟨_, rfl⟩; rw [← hb9] at ho9; have HB9 := hid hb9; clear hb9; obtain ⟨A9, c9, rfl⟩ := ho9.sl; have H9 := hid (H2.out.gr2 HT.out hg9); have HR := hid (H2.out.app HT.out hL2 ho9 hg9 ha9); have f9 := (H2.out.gr HT.out hg9).frozen 2; have q9 := H9.out.2.1))
  refine hK.out _ _ ?kr1b2_14 (fun hHeld => ?_)
  case kr1b2_14 => (try dsimp only); (first | with_reducible assumption | with_reducible exact ⟨HR.out.1.c0, trivial⟩ | with_reducible exact ⟨H9.out.1, trivial⟩ | with_reducible exact ⟨H2.out.c0, trivial⟩ | exact t1_bel (by assumption) (by assumption) | assumption | exact t1_alloc (by assumption) _ | exact ⟨HR.out.1.c0, trivial⟩ | exact ⟨H9.out.1, trivial⟩ | exact ⟨H2.out.c0, trivial⟩)
  clear hK K
  try simp only [Act.put, List.setIfInBounds_toArray, List.set_cons_zero, List.set_cons_succ]
  refine tk 15 ?_
  refine tk 16 ?_
  refine wpAnyH_ready (rs := [17]) (by kernel_rfl) (by simp) ?_
  refine AllReadyH.cons (o := ?or1b2_17) ?ir1b2_17 (fun K hK => ?sr1b2_17) AllReadyH.nil
  case ir1b2_17 => (simp only [List.getElem?_toArray, List.getElem?_cons_succ, List.getElem?_cons_zero]; rfl)
  (go_simp; (skip))
  refine hK.out _ _ ?kr1b2_17 (fun hHeld => ?_)
  case kr1b2_17 => (try dsimp only); (first | with_reducible assumption | with_reducible exact ⟨HR.out.1.c0, trivial⟩ | with_reducible exact ⟨H9.out.1, trivial⟩ | with_reducible exact ⟨H2.out.c0, trivial⟩ | exact t1_bel (by assumption) (by assumption) | assumption | exact t1_alloc (by assumption) _ | exact ⟨HR.out.1.c0, trivial⟩ | exact ⟨H9.out.1, trivial⟩ | exact ⟨H2.out.c0, trivial⟩)
  clear hK K
  try simp only [Act.put, List.setIfInBounds_toArray, List.set_cons_zero, List.set_cons_succ]
  refine wpAnyH_done (by kernel_rfl) ?_ _
  refine NoPanic.normal ?_
 all_goals
  have HB := hid ((hbel.mono hL).trans HR.out.2.2)
  have HCm := hid (((WCalm.refl pd w).on hbel).trans HR.out.2.1)
  have HWS := hid HR.out.1
  obtain ⟨W9, hW9⟩ : ∃ W9, W9 = w9.setCell ⟨wb, 2, none⟩ (.slice A9 b9.length c9) := ⟨_, rfl⟩
  rw [← hW9] at HB HCm HWS ⊢
  have HE9 := hid (show b9 = x.b ++ M.asc (x.k.cb code) by rw [HB9.out, HDl.out]; rfl)
  have pz : W9.cell? ⟨wb, 0, none⟩ = some (.pointer (some ⟨fb, 0, none⟩)) := HWS.out.c0
  clear hW9 HR hbel hHeld f9 q9 H9 ha9 hg9 ho9 HB9 H2 hL2 hbQ HW H1 hL1
  go_wp2_with fail
  refine (c_wset L wb T xs pd fb _ _ _ HWS.out).mono ?_
  rintro e w3 ⟨rfl, hb3⟩
  replace HB := hid (HB.out.trans (hb3.mono (Nat.le_trans hL HB.out.size)))
  replace HCm := hid (HCm.out.on hb3)
  replace HWS := hid (HWS.out.on hb3)
  clear hb3 pz
  go_wp2_with fail
  refine (HEn.out _).mono ?_
  rintro e w4 ⟨rfl, hb4⟩
  replace HB := hid (HB.out.trans (hb4.mono (Nat.le_trans hL HB.out.size)))
  replace HCm := hid (HCm.out.on hb4)
  replace HWS := hid (HWS.out.on hb4)
  clear hb4
  by_cases hce : code = C + 1
  ·have he := ne_no hce
   have HP := hid (show x.put code = { x with b := b9 } by
    unfold Wr.put
    rw [if_pos (by rw [HC.out]; exact hce), HE9.out])
   clear hce
   go_wp2
   go_end0
   exact ⟨rfl, HB.out, HCm.out, _, by rw [HP.out]; exact HWS.out⟩
  ·have he := ne_yes (a := code) (b := C + 1) (by omega)
   have HP := hid (show x.put code = { x with b := b9, k := x.k.step code } by
    unfold Wr.put
    rw [if_neg (by rw [HC.out]; exact hce), HE9.out])
   have HF := hid (show code = x.k.c ∨ x.k.Fol code from by
    rcases HCo.out with h1 | h1 | h1
    ·exact Or.inl h1
    ·exact absurd (h1.trans (by rw [HC.out])) hce
    ·exact Or.inr h1)
   have pz : w4.cell? ⟨wb, 0, none⟩ = some (.pointer (some ⟨fb, 0, none⟩)) := HWS.out.c0
   clear hce
   go_wp2_with fail
   refine (c_ffollow L fb x.k _ HX.out.ok (Nat.le_trans hL HB.out.size) HWS.out.fa code HF.out).mono ?_
   rintro e w5 ⟨rfl, hb5, hc5, hF5⟩
   go_wp2
   go_end0
   exact ⟨rfl, HB.out.trans hb5, HCm.out.calm hc5, _, by rw [HP.out]; exact HWS.out.calm HT.out hc5 hb5.size hF5⟩

theorem c_begin (hT : WT T) (hx : x.Go) (hL : L ≤ w.heap.size) (hbl : x.b.length ≤ 99000) (h : WS L wb T xs pd fb sv x w) : Calls Tryz.prog 197 #[.pointer (some ⟨wb, 0, none⟩)] w fun e w' => e = .returned (.tuple #[]) ∧ Below L w w' ∧ WCalm pd w w' ∧ ∃ v', WS L wb T xs pd fb v' x.start w' := by
 by_cases hg : x.g = true
 ·have p3 : w.cell? ⟨wb, 3, none⟩ = some (.bool true) := by rw [← hg]; exact h.c3
  have HE := hid (show x.start = x by unfold Wr.start; rw [if_pos hg])
  have H := hid h
  clear h hg
  go_enter Tryz.func197, Tryz.ntmps197
  go_wp2
  go_end0
  exact ⟨rfl, Below.refl _ _, WCalm.refl _ _, _, by rw [HE.out]; exact H.out⟩
 ·have hg2 : x.g = false := by simpa using hg
  have p3 : w.cell? ⟨wb, 3, none⟩ = some (.bool false) := by rw [← hg2]; exact h.c3
  have HE := hid (show x.start = { x.put x.k.c with g := true } by unfold Wr.start; rw [if_neg hg])
  have H := hid h
  have HX := hid hx
  have HT := hid hT
  have hset := hx.ok.set
  have hce : x.k.c = pow2 x.k.l := rfl
  have HCl := hid (fun (u : World) => c_ClearCode_yes x.k.o x.k.l x.k.m u hset)
  obtain ⟨C, hC⟩ : ∃ C, C = pow2 x.k.l := ⟨_, rfl⟩
  have HC := hid (show x.k.c = C from hC.symm)
  simp only [← hC] at HCl
  clear h hx hT hg hg2 hset hce hC
  go_enter Tryz.func197, Tryz.ntmps197
  go_wp2_with fail
  refine (c_wset L wb T xs pd fb sv x _ H.out).mono ?_
  rintro e w1 ⟨rfl, hb1⟩
  have HB := hid (hb1.mono hL)
  have H1 := hid (H.out.on hb1)
  have HCm := hid ((WCalm.refl pd w).on hb1)
  clear hb1 p3
  go_wp2_with fail
  refine (HCl.out _).mono ?_
  rintro e w2 ⟨rfl, hb2⟩
  replace HB := hid (HB.out.trans (hb2.mono (Nat.le_trans hL HB.out.size)))
  replace HCm := hid (HCm.out.on hb2)
  replace H1 := hid (H1.out.on hb2)
  clear hb2
  go_wp2_with fail
  refine (c_put L wb T xs pd fb sv x _ HT.out HX.out (Nat.le_trans hL HB.out.size) (by omega) H1.out C (Or.inl HC.out.symm)).mono ?_
  rintro e w3 ⟨rfl, hb3, hc3, v3, h3⟩
  replace HB := hid (HB.out.trans hb3)
  replace HCm := hid (HCm.out.trans hc3)
  rw [← HC.out] at h3
  have H3 := hid h3
  have p3 : w3.cell? ⟨wb, 3, none⟩ = some (.bool (x.put x.k.c).g) := H3.out.c3
  have f3 := H3.out.f 3
  clear hb3 hc3 h3
  go_wp2
  go_end0
  refine ⟨rfl, HB.out.setCell H3.out.lb (.bool true), HCm.out.trans (WCalm.store pd H3.out.bx HT.out 3 (.bool true)), v3, ?_⟩
  rw [HE.out]
  exact H3.out.at_ HT.out 3 (.bool true) v3 { x.put x.k.c with g := true } rfl H3.out.row H3.out.ap (by simp)
end
end

section
open Go.ChangeShapes Go.WideShapes Go.ChangeAt Go.RowKit Go.Joins
set_option linter.unusedVariables false
set_option linter.unusedSimpArgs false

/-- the length of the string in a cell -/
def wlen (wb : Nat) (w : World) : Nat := match w.cell? ⟨wb, 1, none⟩ with
 | some (.string S) => S.size
 | _ => 0
theorem wr_cut (l : List UInt8) (g : Nat) (hg : g ≤ l.length) : (str l).extract g (str l).size = str (l.drop g) := by
 have h := cut_drop (str l) g
 rw [str_list] at h
 rw [← h, str_self]
theorem str_add (l : List UInt8) (D : ByteArray) : str l ++ D = str (l ++ D.data.toList) := by
 rw [← str_append, str_self]
theorem str_first {l : List UInt8} {c : Int} (h : Lits c l) (h0 : 0 < (str l).size) : (((str l)[0]).toNat : Int) < c := by
 cases l with
 | nil => simp [str_size] at h0
 | cons a t =>
  have : (str (a :: t))[0] = a := rfl
  rw [this]
  exact h a (by simp)
section
variable (L wb : Nat) (T : TypeId) (xs : List Value) (pd : Nat → Prop) (fb : Nat) (sv : Value) (x : Wr) (w : World)

theorem c_wwrite_nil (h : WS L wb T xs pd fb sv x w) : Calls Tryz.prog 199 #[.pointer (some ⟨wb, 0, none⟩), .string ByteArray.empty] w fun e w' => e = .returned (.tuple #[]) ∧ Below L w w' ∧ WCalm pd w w' ∧ ∃ v', WS L wb T xs pd fb v' x w' := by
 have H := hid h
 clear h
 go_enter Tryz.func199, Tryz.ntmps199
 go_wp2
 exact bodyPost_ret (v := .tuple #[]) (by simp [results, Tryz.results199, go_sem]) rfl ⟨rfl, Below.refl _ _, WCalm.refl _ _, _, H.out⟩

set_option maxHeartbeats 4000000 in
set_option maxRecDepth 100000 in
theorem c_wwrite (hT : WT T) (hx : x.Go) (hL : L ≤ w.heap.size) (D : ByteArray) (hD : 0 < D.size) (hl : Lits x.k.c D.data.toList) (hbl : x.b.length ≤ 7) (hn : x.p.length + D.size ≤ 2000) (h : WS L wb T xs pd fb sv x w) : Calls Tryz.prog 199 #[.pointer (some ⟨wb, 0, none⟩), .string D] w fun e w' => e = .returned (.tuple #[]) ∧ Below L w w' ∧ WCalm pd w w' ∧ ∃ v', WS L wb T xs pd fb v' (x.write D.data.toList) w' := by
 obtain ⟨a1, a2, a3, a4, a5, a6, a7, a8⟩ := hx.start
 have hDl : D.data.toList.length = D.size := len_toList D
 have hDne : D.data.toList ≠ [] := fun e => by rw [e] at hDl; simp at hDl; omega
 obtain ⟨x0, hx0⟩ : ∃ x0 : Wr, x0 = { x.start with p := x.p ++ D.data.toList } := ⟨_, rfl⟩
 have hg0 : x0.Go := by
  rw [hx0]
  exact ⟨a1.ok, fun b hb => by
   show (b.toNat : Int) < x.start.k.c
   rw [a4]
   rcases List.mem_append.1 hb with h1 | h1
   ·exact hx.lit b h1
   ·exact hl b h1, a1.bit⟩
 have hp0 : x0.p = x.p ++ D.data.toList := by rw [hx0]
 have hp0l : x0.p.length = x.p.length + D.size := by rw [hp0, List.length_append, hDl]
 have hne0 : x0.p ≠ [] := by rw [hp0]; simp [hDne]
 have hph0 : x0.phi ≤ 70000 := by
  have e1 : x0.phi = 2 * x0.b.length + 30 * x0.p.length + 10 * x0.k.phi := rfl
  have e2 := Wr.phi_le x0.k
  have e3 : x0.b.length ≤ 17 := by rw [hx0]; show x.start.b.length ≤ 17; omega
  omega
 have HW := hid (show x.write D.data.toList = Wr.loop x0.p.length x0 by
  unfold Wr.write
  rw [if_neg hDne, ← hx0, hp0l, hDl])
 rw [HW.out]
 have HSt := hid (fun (v2 : Value) (W : World) (hW : WS L wb T xs pd fb v2 x.start W) => hW.at_ hT 1 (.string (str x0.p)) v2 x0 (by rw [hx0]) (by rw [hx0]; exact hW.row) hW.ap (by rw [hx0]; simp))
 have hadd : ∀ W, (Op.stringOp .add (str x.p) D).run Tryz.prog W = .ok (.string (str x0.p)) W := fun W => by
  rw [run_string_add_sum W _ _ (by rw [str_size]; omega), str_add, hp0]
 have he := not_empty (D := D) (by omega)
 have H := hid h
 have HX := hid hx
 have HT := hid hT
 have HG0 := hid (Wr.Sv.refl hg0 hne0)
 have HP := hid a2
 clear h hx hT a1 a2 a3 a4 a5 a6 a7 a8 hx0 hg0 hp0 hne0 hDl hDne HW hl
 go_enter Tryz.func199, Tryz.ntmps199
 go_wp2_with fail
 refine (c_begin L wb T xs pd fb sv x _ HT.out HX.out hL (by omega) H.out).mono ?_
 rintro e w1 ⟨rfl, hb1, hc1, v1, h1⟩
 have HB1 := hid hb1
 have HC1 := hid hc1
 have H1 := hid h1
 have p1 : w1.cell? ⟨wb, 1, none⟩ = some (.string (str x.p)) := by rw [← HP.out]; exact H1.out.c1
 have f1 := H1.out.f 1
 clear hb1 hc1 h1
 go_wp2_with fail
 have H2 := hid (HSt.out v1 w1 H1.out)
 have HB2 := hid (HB1.out.setCell (p := ⟨wb, 1, none⟩) H1.out.lb (.string (str x0.p)))
 have HC2 := hid (HC1.out.trans (WCalm.store pd H1.out.bx HT.out 1 (.string (str x0.p))))
 clear p1 f1 H1 HB1 HC1 HSt hadd
 go_loopw [4, 5] (fun _ _ wr => ∃ (y : Wr) (f : Nat) (v2 : Value), Hid (Wr.Sv x0 y) ∧ y.p.length ≤ f ∧ Hid (Wr.loop x0.p.length x0 = Wr.loop f y) ∧ Hid (WS L wb T xs pd fb v2 y wr) ∧ Hid (Below L w wr) ∧ Hid (WCalm pd w wr)) (fun _ _ wr => wlen wb wr)
 case atStart => exact ⟨x0, x0.p.length, v1, HG0, Nat.le_refl _, hid rfl, H2, HB2, HC2⟩
 case round =>
  clear H2 HB2 HC2
  obtain ⟨y, f, v2, HS, hf, HL, H3, HB, HC⟩ := hrel
  have hpl := HS.out.ph
  have hph : y.phi = 2 * y.b.length + 30 * y.p.length + 10 * y.k.phi := rfl
  have hyl : y.p.length ≤ 2500 := by omega
  have hyb : y.b.length ≤ 40000 := by omega
  have hy0 : 0 < y.p.length := List.length_pos_iff.2 HS.out.ne
  have hms : wlen wb wr = y.p.length := by unfold wlen; rw [H3.out.c1]; simp [str_size]
  obtain ⟨c1, c2, c3, c4⟩ := HS.out.go.ok.code1 HS.out.ne HS.out.go.lit
  have HFo := hid c1
  obtain ⟨S, hS⟩ : ∃ S, S = str y.p := ⟨_, rfl⟩
  obtain ⟨g, hg⟩ : ∃ g, g = y.k.lng y.p := ⟨_, rfl⟩
  obtain ⟨code, hcode⟩ : ∃ code, code = y.k.code1 y.p := ⟨_, rfl⟩
  have hSs : S.size = y.p.length := by rw [hS, str_size]
  have HLo := hid (fun (u : World) (hF : FAt L fb y.k u) => c_flongest L fb y.k (str y.p) u HS.out.go.ok hF (by rw [str_size]; exact hy0) (by rw [str_size]; omega) (str_first HS.out.go.lit (by rw [str_size]; exact hy0)))
  simp only [str_list, ← hg, ← hcode] at HLo
  simp only [← hS] at HLo
  rw [← hg] at c3 c4
  rw [← hcode] at HFo
  have HSl := hid (fun (W : World) => show (Instr.slice 9 (.string S) (some (.int .i64 (g : Int))) none none).run Tryz.prog W = .ok (.string (str (y.p.drop g))) W by
   rw [run_slice_string_l W 9 S Tryz.underlying9 .i64 (g : Int) (by omega) (by omega)]
   have := wr_cut y.p g c4
   rw [← hS] at this
   rw [← this]
   rfl)
  have q1 : wr.cell? ⟨wb, 1, none⟩ = some (.string S) := by rw [hS]; exact H3.out.c1
  have q0 : wr.cell? ⟨wb, 0, none⟩ = some (.pointer (some ⟨fb, 0, none⟩)) := H3.out.c0
  have HSe := hid hS
  have HG := hid hg
  have HCo := hid hcode
  clear c1 c2 hS hg hcode hpl hph
  have hS : wr.cell? ⟨wb, 0, none⟩ = some (.pointer (some ⟨fb, 0, none⟩)) ∧ wr.cell? ⟨wb, 1, none⟩ = some (.string S) ∧ True := ⟨q0, q1, trivial⟩
  clear q0 q1
  go_wp2_with fail
  replace H3 := hid (H3.out.on (bel_drew (Below.refl _ wr)))
  replace HB := hid (HB.out.drew)
  replace HC := hid (HC.out.on (bel_drew (Below.refl _ wr)))
  refine wp_region_noPanic ?_
  refine wp_region_held_drew (S := (fun v => v.cell? ⟨wb, 0, none⟩ = some (.pointer (some ⟨fb, 0, none⟩)) ∧ v.cell? ⟨wb, 1, none⟩ = some (.string S) ∧ True)) (by kernel_rfl) (t2_drew hS) (fun hHeld => ?_)
  refine tk 0 ?_
  refine tk 1 ?_
  refine tk 2 ?_
  refine tk 3 ?_
  refine tk 4 ?_
  refine tk 5 ?_
  refine tk 6 ?_
  refine tk 7 ?_
  refine wpAnyH_ready (rs := [8]) (by kernel_rfl) (by simp) ?_
  refine AllReadyH.cons (o := ?or1_8) ?ir1_8 (fun K hK => ?sr1_8) AllReadyH.nil
  case ir1_8 => (simp only [List.getElem?_toArray, List.getElem?_cons_succ, List.getElem?_cons_zero]; rfl)
  (go_simp; (go_at_call 92; refine (HLo.out _ H3.out.fa).mono ?_; rintro e wQ ⟨rfl, hbQ⟩; replace H3 := hid (H3.out.on hbQ); replace HB := hid (HB.out.trans (hbQ.mono (Nat.le_trans hL HB.out.size))); replace HC := hid (HC.out.on hbQ); have t2 : wQ.cell? ⟨wb, 0, none⟩ = some (.pointer (some ⟨fb, 0, none⟩)) ∧ wQ.cell? ⟨wb, 1, none⟩ = some (.string S) ∧ True := ⟨H3.out.c0, by rw [HSe.out]; exact H3.out.c1, trivial⟩))
  refine hK.out _ _ ?kr1_8 (fun hHeld => ?_)
  case kr1_8 => (try dsimp only); (first | with_reducible assumption | with_reducible exact t2 | exact t2_bel (by assumption) (by assumption) | assumption | exact t2_alloc (by assumption) _ | exact t2)
  clear hK K
  try simp only [Act.put, List.setIfInBounds_toArray, List.set_cons_zero, List.set_cons_succ]
  refine tk 9 ?_
  refine tk 10 ?_
  refine tk 11 ?_
  refine tk 12 ?_
  refine tk 13 ?_
  refine wpAnyH_done (by kernel_rfl) ?_ _
  refine NoPanic.normal ?_
  clear hHeld t2 hbQ hS HLo
  have q1 : wQ.cell? ⟨wb, 1, none⟩ = some (.string S) := by rw [HSe.out]; exact H3.out.c1
  by_cases hlt : g = y.p.length
  ·have he1 : ((g : Int) == (S.size : Int)) = true := eq_yes (by omega)
   have HY := hid (show Wr.loop f y = y by
    cases f with
    | zero => rfl
    | succ f => unfold Wr.loop; rw [if_pos (by rw [← HG.out]; exact hlt)])
   clear hlt
   go_wp2
   exact bodyPost_ret (v := .tuple #[]) (by simp [results, Tryz.results199, go_sem]) rfl ⟨rfl, HB.out, HC.out, _, by rw [HL.out, HY.out]; exact H3.out⟩
  ·have he1 : ((g : Int) == (S.size : Int)) = false := by
    have : ¬ ((g : Int) = (S.size : Int)) := by omega
    simpa using this
   have HN := hid (HS.out.next (by rw [← HG.out]; exact hlt))
   obtain ⟨f', HF'⟩ : ∃ f', Hid (f = f' + 1) := ⟨f - 1, hid (by omega)⟩
   have HL2 := hid (show Wr.loop f y = Wr.loop f' y.one.room by
    rw [HF'.out]
    conv => lhs; unfold Wr.loop
    rw [if_neg (by rw [← HG.out]; exact hlt)])
   have HPut := hid (HS.out.go.put (Or.inr (Or.inr HFo.out)))
   have hone := (HS.out.go.one HS.out.ne).1
   have HOne := hid hone
   have HNe := hid (HS.out.go.more HS.out.ne (by rw [← HG.out]; exact hlt))
   clear hone hlt
   go_wp2_with fail
   refine (c_put L wb T xs pd fb v2 y _ HT.out HS.out.go (Nat.le_trans hL HB.out.size) (by omega) H3.out code (Or.inr (Or.inr HFo.out))).mono ?_
   rintro e w5 ⟨rfl, hb5, hc5, v5, h5⟩
   have HB5 := hid (HB.out.trans hb5)
   have HC5 := hid (HC.out.trans hc5)
   have H5 := hid h5
   have r1 : w5.cell? ⟨wb, 1, none⟩ = some (.string S) := by
    have := H5.out.c1
    rw [HPut.out.2.1, ← HSe.out] at this
    exact this
   have r0 := H5.out.c0
   have f1 := H5.out.f 1
   have hsl := HSl.out
   clear hb5 hc5 h5 q1 H3 HB HC
   go_wp2_with fail
   have H6 := hid (show WS L wb T xs pd fb v5 y.one (w5.setCell ⟨wb, 1, none⟩ (.string (str (y.p.drop g)))) from H5.out.at_ HT.out 1 _ v5 y.one (by rw [HCo.out]; rfl) (by rw [HCo.out] at H5; exact H5.out.row) H5.out.ap (by rw [HG.out, HCo.out]; simp [Wr.one]))
   have HB6 := hid (HB5.out.setCell (p := ⟨wb, 1, none⟩) H5.out.lb (.string (str (y.p.drop g))))
   have HC6 := hid (HC5.out.trans (WCalm.store pd H5.out.bx HT.out 1 (.string (str (y.p.drop g)))))
   obtain ⟨W6, hW6⟩ : ∃ W6, W6 = w5.setCell ⟨wb, 1, none⟩ (.string (str (y.p.drop g))) := ⟨_, rfl⟩
   rw [← hW6] at H6 HB6 HC6 ⊢
   obtain ⟨A6, cp6, hkat⟩ := H6.out.fa.kat
   have HNc := hid (c_needsClear fb y.one.k A6 cp6 W6 HOne.out.ok hkat)
   clear hW6 H5 HB5 HC5 hkat r0 r1 f1 hsl
   by_cases hn : y.one.k.need
   ·simp only [decide_eq_true hn] at HNc
    have HRm := hid (show y.one.room = y.one.put y.one.k.c by unfold Wr.room; rw [if_pos hn])
    have hset := HOne.out.ok.set
    have hce : y.one.k.c = pow2 y.one.k.l := rfl
    have HCl := hid (fun (u : World) => c_ClearCode_yes y.one.k.o y.one.k.l y.one.k.m u hset)
    obtain ⟨C, hC⟩ : ∃ C, C = pow2 y.one.k.l := ⟨_, rfl⟩
    have HCq := hid (show y.one.k.c = C from hC.symm)
    simp only [← hC] at HCl
    have hb1 := hid (HS.out.go.one HS.out.ne).2.1
    have hob : y.one.b.length ≤ 50000 := by
     have e := (HS.out.go.one HS.out.ne).2.2.2.2.2.2.2.2.2
     omega
    clear hn hset hce hC hb1
    refine HNc.out.mono ?_
    rintro e w7 ⟨rfl, hb7⟩
    have H7 := hid (H6.out.on hb7)
    have HB7 := hid (HB6.out.trans (hb7.mono (Nat.le_trans hL HB6.out.size)))
    have HC7 := hid (HC6.out.on hb7)
    clear hb7 H6 HB6 HC6 HNc
    go_wp2_with fail
    refine (c_wset L wb T xs pd fb _ _ _ H7.out).mono ?_
    rintro e w8 ⟨rfl, hb8⟩
    have H8 := hid (H7.out.on hb8)
    have HB8 := hid (HB7.out.trans (hb8.mono (Nat.le_trans hL HB7.out.size)))
    have HC8 := hid (HC7.out.on hb8)
    clear hb8 H7 HB7 HC7
    go_wp2_with fail
    refine (HCl.out _).mono ?_
    rintro e w9 ⟨rfl, hb9⟩
    have H9 := hid (H8.out.on hb9)
    have HB9 := hid (HB8.out.trans (hb9.mono (Nat.le_trans hL HB8.out.size)))
    have HC9 := hid (HC8.out.on hb9)
    clear hb9 H8 HB8 HC8
    go_wp2_with fail
    refine (c_put L wb T xs pd fb _ _ _ HT.out HOne.out (Nat.le_trans hL HB9.out.size) (by omega) H9.out C (Or.inl HCq.out.symm)).mono ?_
    rintro e wA ⟨rfl, hbA, hcA, vA, hA⟩
    rw [← HCq.out, ← HRm.out] at hA
    have HA := hid hA
    have HBA := hid (HB9.out.trans hbA)
    have HCA := hid (HC9.out.trans hcA)
    have hmA : wlen wb wA = y.one.room.p.length := by unfold wlen; rw [hA.c1]; simp [str_size]
    clear hA hbA hcA H9 HB9 HC9
    go_wp2
    go_roundw
    case rel => exact ⟨y.one.room, f', vA, hid HN.out.1, by have := HN.out.2; have := HF'.out; omega, hid (HL.out.trans HL2.out), HA, HBA, HCA⟩
    case measure => rw [hmA, hms]; exact HN.out.2
   ·simp only [decide_eq_false hn] at HNc
    have HRm := hid (show y.one.room = y.one by unfold Wr.room; rw [if_neg hn])
    clear hn
    refine HNc.out.mono ?_
    rintro e w7 ⟨rfl, hb7⟩
    have H7 := hid (H6.out.on hb7)
    have HB7 := hid (HB6.out.trans (hb7.mono (Nat.le_trans hL HB6.out.size)))
    have HC7 := hid (HC6.out.on hb7)
    rw [← HRm.out] at H7
    have hmA : wlen wb w7 = y.one.room.p.length := by unfold wlen; rw [H7.out.c1]; simp [str_size]
    clear hb7 H6 HB6 HC6 HNc
    go_wp2
    go_roundw
    case rel => exact ⟨y.one.room, f', _, hid HN.out.1, by have := HN.out.2; have := HF'.out; omega, hid (HL.out.trans HL2.out), H7, HB7, HC7⟩
    case measure => rw [hmA, hms]; exact HN.out.2
end
end

section
open Go.ChangeShapes Go.WideShapes Go.ChangeAt Go.RowKit Go.Joins
set_option linter.unusedVariables false
set_option linter.unusedSimpArgs false

section
variable (L wb : Nat) (T : TypeId) (xs : List Value) (pd : Nat → Prop) (fb : Nat) (sv : Value) (x : Wr) (w : World)

set_option maxHeartbeats 4000000 in
set_option maxRecDepth 100000 in
theorem c_pack (hT : WT T) (hx : x.Go) (hL : L ≤ w.heap.size) (n : Nat) (hn : n ≤ x.b.length) (hn2 : n ≤ 32000) (h : WS L wb T xs pd fb sv x w) : Calls Tryz.prog 200 #[.pointer (some ⟨wb, 0, none⟩), .int .i64 (n : Int)] w fun e w' => e = .returned (.string (packS x.k.o (str (x.b.take n)))) ∧ Below L w w' ∧ WCalm pd w w' ∧ ∃ v', WS L wb T xs pd fb v' (x.cut n) w' := by
 obtain ⟨v1, hs1, ho1⟩ := h.row.take (P := Tryz.prog) Tryz.underlying98 Tryz.info_u8o n hn
 obtain ⟨v2, hs2, ho2, hb2⟩ := h.row.drop (P := Tryz.prog) Tryz.underlying98 Tryz.info_u8o n hn
 obtain ⟨A1, c1, rfl⟩ := ho1.sl
 obtain ⟨A2, c2, rfl⟩ := ho2.sl
 have hlt : (x.b.take n).length = n := by rw [List.length_take]; omega
 have hord : orderOk x.k.o = true := by
  rcases (setOk_iff.1 hx.ok.set).1 with h1 | h1 <;> rw [h1] <;> rfl
 have hbt : (x.b.take n).all isBit = true := by
  have h1 := hx.bit
  rw [List.all_eq_true] at h1 ⊢
  exact fun b hb => h1 b (List.mem_of_mem_take hb)
 have HPk := hid (fun (u : World) => c_PackBits_yes x.k.o (str (x.b.take n)) u (by rw [str_size, hlt]; unfold maxLen; omega) (by simp [packOk, hord, bitsOk, str_size, str_list, hlt, hbt]; omega))
 obtain ⟨S, hS⟩ : ∃ S, S = packS x.k.o (str (x.b.take n)) := ⟨_, rfl⟩
 rw [← hS]
 simp only [← hS] at HPk
 obtain ⟨b1, hb1⟩ : ∃ b1, b1 = x.b.take n := ⟨_, rfl⟩
 rw [← hb1] at HPk ho1 hs1 hlt
 rw [hlt] at ho1 hs1
 obtain ⟨m2, hm2⟩ : ∃ m2, m2 = (x.b.drop n).length := ⟨_, rfl⟩
 rw [← hm2] at ho2 hs2 hb2
 have HLt := hid hlt
 have H := hid h
 have HV := hid ho1
 have HT := hid hT
 have HO2 := hid ho2
 have HB2 := hid hb2
 have hfd := fld_order x.k.o x.k.l x.k.m
 have hS0 : w.cell? ⟨wb, 2, none⟩ = some sv ∧ True := ⟨h.c2, trivial⟩
 clear h hx hT ho1 ho2 hb2 hord hbt hS hb1 hm2 hlt
 go_enter Tryz.func200, Tryz.ntmps200
 go_wp2_with fail
 have H2 := hid (H.out.on (bel_drew (Below.refl _ w)))
 replace HV := hid (HV.out.on (bel_drew (Below.refl _ w)))
 have hbel : Below w.heap.size w w.drew := bel_drew (Below.refl _ w)
 refine wp_region_noPanic ?_
 refine wp_region_held_drew (S := (fun v => v.cell? ⟨wb, 2, none⟩ = some (sv) ∧ True)) (by kernel_rfl) (t1_drew hS0) (fun hHeld => ?_)
 refine tk 0 ?_
 refine tk 3 ?_
 refine tk 4 ?_
 refine tk 5 ?_
 refine tk 6 ?_
 refine tk 7 ?_
 refine tk 8 ?_
 refine wpAnyH_ready (rs := [1, 9]) (by kernel_rfl) (by simp) ?_
 refine AllReadyH.cons (o := ?or1_1) ?ir1_1 (fun K hK => ?sr1_1) (AllReadyH.cons (o := ?or1_9) ?ir1_9 (fun K hK => ?sr1_9) AllReadyH.nil)
 case ir1_1 => (simp only [List.getElem?_toArray, List.getElem?_cons_succ, List.getElem?_cons_zero]; rfl)
 case ir1_9 => (simp only [List.getElem?_toArray, List.getElem?_cons_succ, List.getElem?_cons_zero]; rfl)
 case' sr1_1 =>
  (go_simp; (go_at_call 98; refine (c_wset L wb T xs pd fb sv x _ H2.out).mono ?_; rintro e wQ ⟨rfl, hbQ⟩; replace H2 := hid (H2.out.on hbQ); replace HV := hid (HV.out.on hbQ); replace hbel := bel_trans hbel hbQ; clear hbQ))
  refine hK.out _ _ ?kr1_1 (fun hHeld => ?_)
  case kr1_1 => (try dsimp only); (first | with_reducible assumption | with_reducible exact ⟨H2.out.c2, trivial⟩ | exact t1_bel (by assumption) (by assumption) | assumption | exact t1_alloc (by assumption) _ | exact ⟨H2.out.c2, trivial⟩)
  clear hK K
  try simp only [Act.put, List.setIfInBounds_toArray, List.set_cons_zero, List.set_cons_succ]
  refine tk 2 ?_
  refine wpAnyH_ready (rs := [9]) (by kernel_rfl) (by simp) ?_
  refine AllReadyH.cons (o := ?or1b1_9) ?ir1b1_9 (fun K hK => ?sr1b1_9) AllReadyH.nil
  case ir1b1_9 => (simp only [List.getElem?_toArray, List.getElem?_cons_succ, List.getElem?_cons_zero]; rfl)
  ((have hcv := HV.out.run_str (P := Tryz.prog) Tryz.underlying98 Tryz.underlying5 Tryz.underlying9; go_simp))
  refine hK.out _ _ ?kr1b1_9 (fun hHeld => ?_)
  case kr1b1_9 => (try dsimp only); (first | with_reducible assumption | with_reducible exact ⟨H2.out.c2, trivial⟩ | exact t1_bel (by assumption) (by assumption) | assumption | exact t1_alloc (by assumption) _ | exact ⟨H2.out.c2, trivial⟩)
  clear hK K
  try simp only [Act.put, List.setIfInBounds_toArray, List.set_cons_zero, List.set_cons_succ]
  refine wpAnyH_ready (rs := [10]) (by kernel_rfl) (by simp) ?_
  refine AllReadyH.cons (o := ?or1b1_10) ?ir1b1_10 (fun K hK => ?sr1b1_10) AllReadyH.nil
  case ir1b1_10 => (simp only [List.getElem?_toArray, List.getElem?_cons_succ, List.getElem?_cons_zero]; rfl)
  (go_simp; (go_at_call 158; refine (HPk.out _).mono ?_; rintro e wQ ⟨rfl, hbQ⟩; replace H2 := hid (H2.out.on hbQ); replace HV := hid (HV.out.on hbQ); replace hbel := bel_trans hbel hbQ; clear hbQ))
  refine hK.out _ _ ?kr1b1_10 (fun hHeld => ?_)
  case kr1b1_10 => (try dsimp only); (first | with_reducible assumption | with_reducible exact ⟨H2.out.c2, trivial⟩ | exact t1_bel (by assumption) (by assumption) | assumption | exact t1_alloc (by assumption) _ | exact ⟨H2.out.c2, trivial⟩)
  clear hK K
  try simp only [Act.put, List.setIfInBounds_toArray, List.set_cons_zero, List.set_cons_succ]
  refine tk 11 ?_
  refine tk 12 ?_
  refine tk 13 ?_
  refine tk 14 ?_
  refine tk 15 ?_
  refine wpAnyH_done (by kernel_rfl) ?_ _
  refine NoPanic.normal ?_
 case' sr1_9 =>
  ((have hcv := HV.out.run_str (P := Tryz.prog) Tryz.underlying98 Tryz.underlying5 Tryz.underlying9; go_simp))
  refine hK.out _ _ ?kr1_9 (fun hHeld => ?_)
  case kr1_9 => (try dsimp only); (first | with_reducible assumption | with_reducible exact ⟨H2.out.c2, trivial⟩ | exact t1_bel (by assumption) (by assumption) | assumption | exact t1_alloc (by assumption) _ | exact ⟨H2.out.c2, trivial⟩)
  clear hK K
  try simp only [Act.put, List.setIfInBounds_toArray, List.set_cons_zero, List.set_cons_succ]
  refine wpAnyH_ready (rs := [1]) (by kernel_rfl) (by simp) ?_
  refine AllReadyH.cons (o := ?or1b2_1) ?ir1b2_1 (fun K hK => ?sr1b2_1) AllReadyH.nil
  case ir1b2_1 => (simp only [List.getElem?_toArray, List.getElem?_cons_succ, List.getElem?_cons_zero]; rfl)
  (go_simp; (go_at_call 98; refine (c_wset L wb T xs pd fb sv x _ H2.out).mono ?_; rintro e wQ ⟨rfl, hbQ⟩; replace H2 := hid (H2.out.on hbQ); replace HV := hid (HV.out.on hbQ); replace hbel := bel_trans hbel hbQ; clear hbQ))
  refine hK.out _ _ ?kr1b2_1 (fun hHeld => ?_)
  case kr1b2_1 => (try dsimp only); (first | with_reducible assumption | with_reducible exact ⟨H2.out.c2, trivial⟩ | exact t1_bel (by assumption) (by assumption) | assumption | exact t1_alloc (by assumption) _ | exact ⟨H2.out.c2, trivial⟩)
  clear hK K
  try simp only [Act.put, List.setIfInBounds_toArray, List.set_cons_zero, List.set_cons_succ]
  refine tk 2 ?_
  refine wpAnyH_ready (rs := [10]) (by kernel_rfl) (by simp) ?_
  refine AllReadyH.cons (o := ?or1b2_10) ?ir1b2_10 (fun K hK => ?sr1b2_10) AllReadyH.nil
  case ir1b2_10 => (simp only [List.getElem?_toArray, List.getElem?_cons_succ, List.getElem?_cons_zero]; rfl)
  (go_simp; (go_at_call 158; refine (HPk.out _).mono ?_; rintro e wQ ⟨rfl, hbQ⟩; replace H2 := hid (H2.out.on hbQ); replace HV := hid (HV.out.on hbQ); replace hbel := bel_trans hbel hbQ; clear hbQ))
  refine hK.out _ _ ?kr1b2_10 (fun hHeld => ?_)
  case kr1b2_10 => (try dsimp only); (first | with_reducible assumption | with_reducible exact ⟨H2.out.c2, trivial⟩ | exact t1_bel (by assumption) (by assumption) | assumption | exact t1_alloc (by assumption) _ | exact ⟨H2.out.c2, trivial⟩)
  clear hK K
  try simp only [Act.put, List.setIfInBounds_toArray, List.set_cons_zero, List.set_cons_succ]
  refine tk 11 ?_
  refine tk 12 ?_
  refine tk 13 ?_
  refine tk 14 ?_
  refine tk 15 ?_
  refine wpAnyH_done (by kernel_rfl) ?_ _
  refine NoPanic.normal ?_
 all_goals
  have p2 := H2.out.c2
  have f2 := H2.out.f 2
  go_wp2
  go_ret
  exact ⟨rfl, (hbel.mono hL).setCell (p := ⟨wb, 2, none⟩) H2.out.lb _, ((WCalm.refl pd w).on hbel).trans (WCalm.store pd H2.out.bx HT.out 2 _), _, H2.out.at_ HT.out 2 _ (.slice A2 m2 c2) (x.cut n) rfl (HO2.out.on hbel) (fun g hg => H2.out.ap g (HB2.out g hg)) (by simp [Wr.cut])⟩

set_option maxHeartbeats 4000000 in
set_option maxRecDepth 100000 in
theorem c_wclose (hT : WT T) (hx : x.Go) (hL : L ≤ w.heap.size) (hbl : x.b.length ≤ 60000) (hpl : x.p.length ≤ 2500) (h : WS L wb T xs pd fb sv x w) : Calls Tryz.prog 201 #[.pointer (some ⟨wb, 0, none⟩)] w fun e w' => e = .returned (.tuple #[]) ∧ Below L w w' ∧ WCalm pd w w' ∧ ∃ v', WS L wb T xs pd fb v' x.close w' := by
 obtain ⟨a1, a2, a3, a4, a5, a6, a7, a8⟩ := hx.start
 obtain ⟨y, hy⟩ : ∃ y, y = x.start := ⟨_, rfl⟩
 rw [← hy] at a1 a2 a3 a4 a5 a6 a7 a8
 obtain ⟨b1, b2, b3, b4, b5, b6, b7, b8⟩ := a1.last
 have HC := hid (show x.close = y.last.put (y.last.k.c + 1) by unfold Wr.close; rw [← hy])
 have HY := hid hy
 have hset := b1.ok.set
 have hce : y.last.k.c = pow2 y.last.k.l := rfl
 have HEn := hid (fun (u : World) => c_EndCode_yes y.last.k.o y.last.k.l y.last.k.m u hset)
 obtain ⟨C, hC⟩ : ∃ C, C = pow2 y.last.k.l := ⟨_, rfl⟩
 have HCq := hid (show y.last.k.c = C from hC.symm)
 simp only [← hC] at HEn
 have H := hid h
 have HT := hid hT
 have HX := hid hx
 have HG := hid a1
 have HL1 := hid b1
 have hyp : y.p.length ≤ 2500 := by rw [a2]; exact hpl
 have HPe := hid b2
 clear h hT hx hset hce hC hy a1 a2 a3 a4 a5 a6 a7 b1 b2 b3 b4 b5 b6 b7
 go_enter Tryz.func201, Tryz.ntmps201
 go_wp2_with fail
 refine (c_begin L wb T xs pd fb sv x _ HT.out HX.out hL (by omega) H.out).mono ?_
 rintro e w1 ⟨rfl, hb1, hc1, v1, h1⟩
 rw [← HY.out] at h1
 have HB1 := hid hb1
 have HC1 := hid hc1
 have H1 := hid h1
 have p1 : w1.cell? ⟨wb, 1, none⟩ = some (.string (str y.p)) := H1.out.c1
 have p0 := H1.out.c0
 clear hb1 hc1 h1
 by_cases hp : y.p = []
 ·have hs0 : (str y.p) = ByteArray.empty := by rw [hp]; rfl
  rw [hs0] at p1
  have HLa := hid (show y.last = y by unfold Wr.last; rw [if_pos hp])
  clear hs0 hp p0
  rw [← HLa.out] at H1
  go_wp2_with fail
  refine (c_wset L wb T xs pd fb _ _ _ H1.out).mono ?_
  rintro e wS ⟨rfl, hbS⟩
  have HS1 := hid (H1.out.on hbS)
  have HBS := hid (HB1.out.trans (hbS.mono (Nat.le_trans hL HB1.out.size)))
  have HCS := hid (HC1.out.on hbS)
  clear hbS H1 HB1 HC1 p1
  go_wp2_with fail
  refine (HEn.out _).mono ?_
  rintro e wE ⟨rfl, hbE⟩
  have HE1 := hid (HS1.out.on hbE)
  have HBE := hid (HBS.out.trans (hbE.mono (Nat.le_trans hL HBS.out.size)))
  have HCE := hid (HCS.out.on hbE)
  clear hbE HS1 HBS HCS
  go_wp2_with fail
  refine (c_put L wb T xs pd fb _ _ _ HT.out HL1.out (Nat.le_trans hL HBE.out.size) (by omega) HE1.out (C + 1) (Or.inr (Or.inl (by rw [HCq.out])))).mono ?_
  rintro e wP ⟨rfl, hbP, hcP, vP, hP⟩
  rw [← HCq.out, ← HC.out] at hP
  have HP := hid hP
  have HBP := hid (HBE.out.trans hbP)
  have HCP := hid (HCE.out.trans hcP)
  clear hP hbP hcP HE1 HBE HCE
  go_wp2
  go_end0
  exact ⟨rfl, HBP.out, HCP.out, vP, HP.out⟩
 ·have hy0 : 0 < y.p.length := List.length_pos_iff.2 hp
  have he := not_empty (D := str y.p) (by rw [str_size]; omega)
  obtain ⟨c1, c2, c3, c4⟩ := HG.out.ok.code1 hp HG.out.lit
  have HFo := hid c1
  have HLa := hid (show y.last = { y.put (y.k.code1 y.p) with p := [] } by unfold Wr.last; rw [if_neg hp])
  have HLo := hid (fun (u : World) (hF : FAt L fb y.k u) => c_flongest L fb y.k (str y.p) u HG.out.ok hF (by rw [str_size]; exact hy0) (by rw [str_size]; omega) (str_first HG.out.lit (by rw [str_size]; exact hy0)))
  obtain ⟨S, hS⟩ : ∃ S, S = str y.p := ⟨_, rfl⟩
  obtain ⟨code, hcode⟩ : ∃ code, code = y.k.code1 y.p := ⟨_, rfl⟩
  obtain ⟨g, hg⟩ : ∃ g, g = y.k.lng y.p := ⟨_, rfl⟩
  simp only [str_list, ← hg, ← hcode] at HLo
  simp only [← hS] at HLo
  rw [← hcode] at HFo HLa
  rw [← hS] at he p1
  have HSe := hid hS
  clear hS
  have hS : w1.cell? ⟨wb, 0, none⟩ = some (.pointer (some ⟨fb, 0, none⟩)) ∧ w1.cell? ⟨wb, 1, none⟩ = some (.string S) ∧ True := ⟨p0, p1, trivial⟩
  clear c1 c2 c3 c4 hp hy0 hcode hg
  go_wp2_with fail
  clear p0 p1
  have H2 := hid (H1.out.on (bel_drew (Below.refl _ w1)))
  have HB2 := hid (HB1.out.drew)
  have HC2 := hid (HC1.out.on (bel_drew (Below.refl _ w1)))
  clear H1 HB1 HC1
  refine wp_region_noPanic ?_
  refine wp_region_held_drew (S := (fun v => v.cell? ⟨wb, 0, none⟩ = some (.pointer (some ⟨fb, 0, none⟩)) ∧ v.cell? ⟨wb, 1, none⟩ = some (.string S) ∧ True)) (by kernel_rfl) (t2_drew hS) (fun hHeld => ?_)
  refine tk 0 ?_
  refine tk 1 ?_
  refine tk 2 ?_
  refine tk 3 ?_
  refine tk 4 ?_
  refine tk 5 ?_
  refine tk 6 ?_
  refine tk 7 ?_
  refine wpAnyH_ready (rs := [8]) (by kernel_rfl) (by simp) ?_
  refine AllReadyH.cons (o := ?or2_8) ?ir2_8 (fun K hK => ?sr2_8) AllReadyH.nil
  case ir2_8 => (simp only [List.getElem?_toArray, List.getElem?_cons_succ, List.getElem?_cons_zero]; rfl)
  (go_simp; (go_at_call 92; refine (HLo.out _ H2.out.fa).mono ?_; rintro e wQ ⟨rfl, hbQ⟩; replace H2 := hid (H2.out.on hbQ); replace HB2 := hid (HB2.out.trans (hbQ.mono (Nat.le_trans hL HB2.out.size))); replace HC2 := hid (HC2.out.on hbQ); have t2 : wQ.cell? ⟨wb, 0, none⟩ = some (.pointer (some ⟨fb, 0, none⟩)) ∧ wQ.cell? ⟨wb, 1, none⟩ = some (.string S) ∧ True := ⟨H2.out.c0, by rw [HSe.out]; exact H2.out.c1, trivial⟩))
  refine hK.out _ _ ?kr2_8 (fun hHeld => ?_)
  case kr2_8 => (try dsimp only); (first | with_reducible assumption | with_reducible exact t2 | exact t2_bel (by assumption) (by assumption) | assumption | exact t2_alloc (by assumption) _ | exact t2)
  clear hK K
  try simp only [Act.put, List.setIfInBounds_toArray, List.set_cons_zero, List.set_cons_succ]
  refine tk 9 ?_
  refine tk 10 ?_
  refine tk 11 ?_
  refine tk 12 ?_
  refine tk 13 ?_
  refine wpAnyH_done (by kernel_rfl) ?_ _
  refine NoPanic.normal ?_
  clear hHeld t2 hbQ hS HLo
  go_wp2_with fail
  refine (c_put L wb T xs pd fb _ _ _ HT.out HG.out (Nat.le_trans hL HB2.out.size) (by omega) H2.out code (Or.inr (Or.inr HFo.out))).mono ?_
  rintro e w5 ⟨rfl, hb5, hc5, v5, h5⟩
  have HB5 := hid (HB2.out.trans hb5)
  have HC5 := hid (HC2.out.trans hc5)
  have H5 := hid h5
  have r1 := H5.out.c1
  have f1 := H5.out.f 1
  have r0 := H5.out.c0
  clear hb5 hc5 h5 H2 HB2 HC2
  go_wp2_with fail
  have H6 := hid (show WS L wb T xs pd fb v5 y.last (w5.setCell ⟨wb, 1, none⟩ (.string (ByteArray.mk #[]))) from H5.out.at_ HT.out 1 _ v5 y.last (by rw [HLa.out]) (by rw [HLa.out]; exact H5.out.row) H5.out.ap (by rw [HLa.out]; simp; rfl))
  have HB6 := hid (HB5.out.setCell (p := ⟨wb, 1, none⟩) H5.out.lb (.string (ByteArray.mk #[])))
  have HC6 := hid (HC5.out.trans (WCalm.store pd H5.out.bx HT.out 1 (.string (ByteArray.mk #[]))))
  obtain ⟨W6, hW6⟩ : ∃ W6, W6 = w5.setCell ⟨wb, 1, none⟩ (.string (ByteArray.mk #[])) := ⟨_, rfl⟩
  rw [← hW6] at H6 HB6 HC6 ⊢
  clear hW6 H5 HB5 HC5 r0 r1 f1
  refine (c_wset L wb T xs pd fb _ _ _ H6.out).mono ?_
  rintro e wS ⟨rfl, hbS⟩
  have HS1 := hid (H6.out.on hbS)
  have HBS := hid (HB6.out.trans (hbS.mono (Nat.le_trans hL HB6.out.size)))
  have HCS := hid (HC6.out.on hbS)
  clear hbS H6 HB6 HC6
  go_wp2_with fail
  refine (HEn.out _).mono ?_
  rintro e wE ⟨rfl, hbE⟩
  have HE1 := hid (HS1.out.on hbE)
  have HBE := hid (HBS.out.trans (hbE.mono (Nat.le_trans hL HBS.out.size)))
  have HCE := hid (HCS.out.on hbE)
  clear hbE HS1 HBS HCS
  go_wp2_with fail
  refine (c_put L wb T xs pd fb _ _ _ HT.out HL1.out (Nat.le_trans hL HBE.out.size) (by omega) HE1.out (C + 1) (Or.inr (Or.inl (by rw [HCq.out])))).mono ?_
  rintro e wP ⟨rfl, hbP, hcP, vP, hP⟩
  rw [← HCq.out, ← HC.out] at hP
  have HP := hid hP
  have HBP := hid (HBE.out.trans hbP)
  have HCP := hid (HCE.out.trans hcP)
  clear hP hbP hcP HE1 HBE HCE
  go_wp2
  go_end0
  exact ⟨rfl, HBP.out, HCP.out, vP, HP.out⟩
end
end

section
open Go.ChangeShapes Go.WideShapes Go.ChangeAt Go.RowKit Go.Joins
set_option linter.unusedVariables false
set_option linter.unusedSimpArgs false

theorem ta_part (D : ByteArray) (w : World) : (Instr.typeAssert (.iface 179 (.string D)) 228 179 true).run Tryz.prog w = .ok (.tuple #[.string D, .bool true]) w := by kernel_rfl
theorem ta_closing (w : World) : (Instr.typeAssert (.iface 181 (.agg #[])) 228 179 true).run Tryz.prog w = .ok (.tuple #[.string (ByteArray.mk #[]), .bool false]) w := by kernel_rfl
theorem ta_closing2 (w : World) : (Instr.typeAssert (.iface 181 (.agg #[])) 228 181 true).run Tryz.prog w = .ok (.tuple #[.agg #[], .bool true]) w := by kernel_rfl

section
variable (L wb : Nat) (T : TypeId) (xs : List Value) (pd : Nat → Prop) (fb : Nat) (sv : Value) (x : Wr) (w : World)

set_option maxHeartbeats 4000000 in
set_option maxRecDepth 100000 in
theorem c_take_no (hT : WT T) (hx : x.Go) (hL : L ≤ w.heap.size) (D : ByteArray) (hs : (str x.p ++ D).size ≤ maxLen) (hf : dataFits x.k.o x.k.l x.k.m (str x.p ++ D) = false) (h : WS L wb T xs pd fb sv x w) : Calls Tryz.prog 198 #[.pointer (some ⟨wb, 0, none⟩), .iface 179 (.string D)] w fun e w' => e = .returned (.tuple #[.string ByteArray.empty, .bool false]) ∧ Below L w w' ∧ WCalm pd w w' ∧ WS L wb T xs pd fb sv x w' := by
 have HDf := hid (fun (u : World) => c_DataFits x.k.o x.k.l x.k.m (str x.p ++ D) u hs)
 simp only [hf] at HDf
 obtain ⟨S, hS⟩ : ∃ S, S = str x.p ++ D := ⟨_, rfl⟩
 obtain ⟨P, hP⟩ : ∃ P, P = str x.p := ⟨_, rfl⟩
 rw [← hP] at hS hs hf
 have hadd : ∀ W, (Op.stringOp .add P D).run Tryz.prog W = .ok (.string S) W := fun W => by
  rw [run_string_add_sum W _ _ (by rw [ByteArray.size_append] at hs; unfold maxLen at hs; omega), hS]
 rw [← hP, ← hS] at HDf
 have H := hid h
 have HT := hid hT
 have hS1 : w.cell? ⟨wb, 1, none⟩ = some (.string P) ∧ True := ⟨by rw [hP]; exact h.c1, trivial⟩
 have HP := hid hP
 clear h hT hx hf hs hS hP
 have hta := ta_part D
 go_enter Tryz.func198, Tryz.ntmps198
 go_wp2_with fail
 have H2 := hid (H.out.on (bel_drew (Below.refl _ w)))
 have hbel : Below w.heap.size w w.drew := bel_drew (Below.refl _ w)
 refine wp_region_noPanic ?_
 refine wp_region_held_drew (S := (fun v => v.cell? ⟨wb, 1, none⟩ = some (.string P) ∧ True)) (by kernel_rfl) (t1_drew hS1) (fun hHeld => ?_)
 refine tk 0 ?_
 refine tk 2 ?_
 refine tk 3 ?_
 refine tk 4 ?_
 refine tk 5 ?_
 refine tk 6 ?_
 refine tk 7 ?_
 refine wpAnyH_ready (rs := [1]) (by kernel_rfl) (by simp) ?_
 refine AllReadyH.cons (o := ?or1_1) ?ir1_1 (fun K hK => ?sr1_1) AllReadyH.nil
 case ir1_1 => (simp only [List.getElem?_toArray, List.getElem?_cons_succ, List.getElem?_cons_zero]; rfl)
 (go_simp; (go_at_call 98; refine (c_wset L wb T xs pd fb sv x _ H2.out).mono ?_; rintro e wQ ⟨rfl, hbQ⟩; replace H2 := hid (H2.out.on hbQ); replace hbel := bel_trans hbel hbQ; clear hbQ; have t1 : wQ.cell? ⟨wb, 1, none⟩ = some (.string P) ∧ True := ⟨by rw [HP.out]; exact H2.out.c1, trivial⟩))
 refine hK.out _ _ ?kr1_1 (fun hHeld => ?_)
 case kr1_1 => (try dsimp only); (first | with_reducible assumption | with_reducible exact t2 | with_reducible exact t1 | exact t1_bel (by assumption) (by assumption) | assumption | exact t1_alloc (by assumption) _ | exact t2 | exact t1)
 clear hK K
 try simp only [Act.put, List.setIfInBounds_toArray, List.set_cons_zero, List.set_cons_succ]
 refine wpAnyH_ready (rs := [8]) (by kernel_rfl) (by simp) ?_
 refine AllReadyH.cons (o := ?or1_8) ?ir1_8 (fun K hK => ?sr1_8) AllReadyH.nil
 case ir1_8 => (simp only [List.getElem?_toArray, List.getElem?_cons_succ, List.getElem?_cons_zero]; rfl)
 (go_simp; (go_at_call 88; refine (HDf.out _).mono ?_; rintro e wR ⟨rfl, hbR⟩; replace H2 := hid (H2.out.on hbR); replace hbel := bel_trans hbel hbR; clear hbR; have t2 : wR.cell? ⟨wb, 1, none⟩ = some (.string P) ∧ True := ⟨by rw [HP.out]; exact H2.out.c1, trivial⟩))
 refine hK.out _ _ ?kr1_8 (fun hHeld => ?_)
 case kr1_8 => (try dsimp only); (first | with_reducible assumption | with_reducible exact t2 | with_reducible exact t1 | exact t1_bel (by assumption) (by assumption) | assumption | exact t1_alloc (by assumption) _ | exact t2 | exact t1)
 clear hK K
 try simp only [Act.put, List.setIfInBounds_toArray, List.set_cons_zero, List.set_cons_succ]
 refine tk 9 ?_
 refine wpAnyH_done (by kernel_rfl) ?_ _
 refine NoPanic.normal ?_
 all_goals
  go_wp2
  go_ret2
  exact ⟨rfl, hbel.mono hL, (WCalm.refl pd w).on hbel, H2.out⟩

set_option maxHeartbeats 4000000 in
set_option maxRecDepth 100000 in
theorem c_take_nil (hT : WT T) (hx : x.Go) (hL : L ≤ w.heap.size) (hbl : x.b.length ≤ 7) (hf : dataFits x.k.o x.k.l x.k.m (str x.p) = true) (hpl : x.p.length ≤ 2000) (n : Nat) (hnn : n = (x).b.length / 8 * 8) (h : WS L wb T xs pd fb sv x w) : Calls Tryz.prog 198 #[.pointer (some ⟨wb, 0, none⟩), .iface 179 (.string ByteArray.empty)] w fun e w' => e = .returned (.tuple #[.string (packS (x).k.o (str ((x).b.take n))), .bool true]) ∧ Below L w w' ∧ WCalm pd w w' ∧ ∃ v', WS L wb T xs pd fb v' ((x).cut n) w' := by
 have hs : (str x.p).size ≤ 2000 := by rw [str_size]; exact hpl
 have HDf := hid (fun (u : World) => c_DataFits x.k.o x.k.l x.k.m (str x.p) u (by unfold maxLen; omega))
 simp only [hf] at HDf
 obtain ⟨P, hP⟩ : ∃ P, P = str x.p := ⟨_, rfl⟩
 rw [← hP] at hs
 have hadd : ∀ W, (Op.stringOp .add P ByteArray.empty).run Tryz.prog W = .ok (.string P) W := fun W => by
  rw [run_string_add_sum W _ _ (by simp; omega)]; simp
 rw [← hP] at HDf
 obtain ⟨y, hy⟩ : ∃ y, y = x := ⟨_, rfl⟩
 have HGy := hid (show y.Go by rw [hy]; exact hx)
 have hyb : y.b.length ≤ 30100 := by rw [hy]; omega
 rw [← hy] at hnn
 have HNN := hid hnn
 clear hnn
 rw [← hy]
 have H := hid h
 have HT := hid hT
 have hS1 : w.cell? ⟨wb, 1, none⟩ = some (.string P) ∧ True := ⟨by rw [hP]; exact h.c1, trivial⟩
 have HP := hid hP
 have hta := ta_part ByteArray.empty
 have HYx := hid hy
 clear h hT hx hf hs hP hy
 go_enter Tryz.func198, Tryz.ntmps198
 go_wp2_with fail
 have H2 := hid (H.out.on (bel_drew (Below.refl _ w)))
 have hbel : Below w.heap.size w w.drew := bel_drew (Below.refl _ w)
 refine wp_region_noPanic ?_
 refine wp_region_held_drew (S := (fun v => v.cell? ⟨wb, 1, none⟩ = some (.string P) ∧ True)) (by kernel_rfl) (t1_drew hS1) (fun hHeld => ?_)
 refine tk 0 ?_
 refine tk 2 ?_
 refine tk 3 ?_
 refine tk 4 ?_
 refine tk 5 ?_
 refine tk 6 ?_
 refine tk 7 ?_
 refine wpAnyH_ready (rs := [1]) (by kernel_rfl) (by simp) ?_
 refine AllReadyH.cons (o := ?or2_1) ?ir2_1 (fun K hK => ?sr2_1) AllReadyH.nil
 case ir2_1 => (simp only [List.getElem?_toArray, List.getElem?_cons_succ, List.getElem?_cons_zero]; rfl)
 (go_simp; (go_at_call 98; refine (c_wset L wb T xs pd fb sv x _ H2.out).mono ?_; rintro e wQ ⟨rfl, hbQ⟩; replace H2 := hid (H2.out.on hbQ); replace hbel := bel_trans hbel hbQ; clear hbQ; have t1 : wQ.cell? ⟨wb, 1, none⟩ = some (.string P) ∧ True := ⟨by rw [HP.out]; exact H2.out.c1, trivial⟩))
 refine hK.out _ _ ?kr2_1 (fun hHeld => ?_)
 case kr2_1 => (try dsimp only); (first | with_reducible assumption | with_reducible exact t2 | with_reducible exact t1 | exact t1_bel (by assumption) (by assumption) | assumption | exact t1_alloc (by assumption) _ | exact t2 | exact t1)
 clear hK K
 try simp only [Act.put, List.setIfInBounds_toArray, List.set_cons_zero, List.set_cons_succ]
 refine wpAnyH_ready (rs := [8]) (by kernel_rfl) (by simp) ?_
 refine AllReadyH.cons (o := ?or2_8) ?ir2_8 (fun K hK => ?sr2_8) AllReadyH.nil
 case ir2_8 => (simp only [List.getElem?_toArray, List.getElem?_cons_succ, List.getElem?_cons_zero]; rfl)
 (go_simp; (go_at_call 88; refine (HDf.out _).mono ?_; rintro e wR ⟨rfl, hbR⟩; replace H2 := hid (H2.out.on hbR); replace hbel := bel_trans hbel hbR; clear hbR; have t2 : wR.cell? ⟨wb, 1, none⟩ = some (.string P) ∧ True := ⟨by rw [HP.out]; exact H2.out.c1, trivial⟩))
 refine hK.out _ _ ?kr2_8 (fun hHeld => ?_)
 case kr2_8 => (try dsimp only); (first | with_reducible assumption | with_reducible exact t2 | with_reducible exact t1 | exact t1_bel (by assumption) (by assumption) | assumption | exact t1_alloc (by assumption) _ | exact t2 | exact t1)
 clear hK K
 try simp only [Act.put, List.setIfInBounds_toArray, List.set_cons_zero, List.set_cons_succ]
 refine tk 9 ?_
 refine wpAnyH_done (by kernel_rfl) ?_ _
 refine NoPanic.normal ?_
 all_goals
  clear hHeld t2 t1
  go_wp2_with fail
  refine (c_wwrite_nil L wb T xs pd fb sv x _ H2.out).mono ?_
  rintro e w3 ⟨rfl, hb3, hc3, v3, h3⟩
  have HB3 := hid ((hbel.mono hL).trans hb3)
  have HC3 := hid (((WCalm.refl pd w).on hbel).trans hc3)
  rw [← HYx.out] at h3
  have H3 := hid h3
  obtain ⟨A3, c3, rfl⟩ := h3.row.sl
  obtain ⟨m, hm⟩ : ∃ m, m = y.b.length := ⟨_, rfl⟩
  rw [← hm] at hyb H3
  have HNm := hid (show n = m / 8 * 8 by rw [HNN.out, hm])
  have p2 : w3.cell? ⟨wb, 2, none⟩ = some (.slice A3 m c3) := H3.out.c2
  have HM := hid hm
  clear hb3 hc3 h3 hm H2 hbel HDf
  obtain ⟨q, hq⟩ : ∃ q, q = m / 8 := ⟨_, rfl⟩
  have hq1 : (m : Int).tdiv 8 = (q : Int) := by rw [Int.tdiv_eq_ediv_of_nonneg (by omega)]; omega
  have hq3 : (m : Int) / 8 = (q : Int) := by omega
  have hq2 : (q : Int) * 8 = (n : Int) := by have := HNm.out; omega
  clear hq
  go_wp2_with fail
  refine (c_pack L wb T xs pd fb _ y _ HT.out HGy.out (Nat.le_trans hL HB3.out.size) n (by have := HM.out; have := HNm.out; omega) (by have := HNm.out; omega) H3.out).mono ?_
  rintro e w4 ⟨rfl, hb4, hc4, h4⟩
  go_wp2
  go_ret2
  exact ⟨rfl, HB3.out.trans hb4, HC3.out.trans hc4, h4⟩

set_option maxHeartbeats 4000000 in
set_option maxRecDepth 100000 in
theorem c_take_yes (hT : WT T) (hx : x.Go) (hL : L ≤ w.heap.size) (D : ByteArray) (hD : 0 < D.size) (hbl : x.b.length ≤ 7) (hl : Lits x.k.c D.data.toList) (hn : x.p.length + D.size ≤ 2000) (hf : dataFits x.k.o x.k.l x.k.m (str x.p ++ D) = true) (n : Nat) (hnn : n = (x.write D.data.toList).b.length / 8 * 8) (h : WS L wb T xs pd fb sv x w) : Calls Tryz.prog 198 #[.pointer (some ⟨wb, 0, none⟩), .iface 179 (.string D)] w fun e w' => e = .returned (.tuple #[.string (packS (x.write D.data.toList).k.o (str ((x.write D.data.toList).b.take n))), .bool true]) ∧ Below L w w' ∧ WCalm pd w w' ∧ ∃ v', WS L wb T xs pd fb v' ((x.write D.data.toList).cut n) w' := by
 have hs : (str x.p ++ D).size ≤ 2000 := by rw [ByteArray.size_append, str_size]; exact hn
 have HDf := hid (fun (u : World) => c_DataFits x.k.o x.k.l x.k.m (str x.p ++ D) u (by unfold maxLen; omega))
 simp only [hf] at HDf
 obtain ⟨S, hS⟩ : ∃ S, S = str x.p ++ D := ⟨_, rfl⟩
 obtain ⟨P, hP⟩ : ∃ P, P = str x.p := ⟨_, rfl⟩
 rw [← hP] at hS hs
 have hadd : ∀ W, (Op.stringOp .add P D).run Tryz.prog W = .ok (.string S) W := fun W => by
  rw [run_string_add_sum W _ _ (by rw [ByteArray.size_append] at hs; omega), hS]
 rw [← hP, ← hS] at HDf
 have hw := hx.write_ hl hbl (by rw [len_toList]; exact hn)
 obtain ⟨y, hy⟩ : ∃ y, y = x.write D.data.toList := ⟨_, rfl⟩
 rw [← hy] at hw hnn
 have HNN := hid hnn
 clear hnn
 have HGy := hid hw.1
 have hyb : y.b.length ≤ 30100 := hw.2.2.2.2.2.2.1
 have HWr := hid (fun (u : World) (hu : L ≤ u.heap.size) (hW : WS L wb T xs pd fb sv x u) => c_wwrite L wb T xs pd fb sv x u hT hx hu D hD hl hbl hn hW)
 simp only [← hy] at HWr
 rw [← hy]
 have H := hid h
 have HT := hid hT
 have hS1 : w.cell? ⟨wb, 1, none⟩ = some (.string P) ∧ True := ⟨by rw [hP]; exact h.c1, trivial⟩
 have HP := hid hP
 have hta := ta_part D
 clear h hT hx hf hs hS hP hw hl hy
 go_enter Tryz.func198, Tryz.ntmps198
 go_wp2_with fail
 have H2 := hid (H.out.on (bel_drew (Below.refl _ w)))
 have hbel : Below w.heap.size w w.drew := bel_drew (Below.refl _ w)
 refine wp_region_noPanic ?_
 refine wp_region_held_drew (S := (fun v => v.cell? ⟨wb, 1, none⟩ = some (.string P) ∧ True)) (by kernel_rfl) (t1_drew hS1) (fun hHeld => ?_)
 refine tk 0 ?_
 refine tk 2 ?_
 refine tk 3 ?_
 refine tk 4 ?_
 refine tk 5 ?_
 refine tk 6 ?_
 refine tk 7 ?_
 refine wpAnyH_ready (rs := [1]) (by kernel_rfl) (by simp) ?_
 refine AllReadyH.cons (o := ?or3_1) ?ir3_1 (fun K hK => ?sr3_1) AllReadyH.nil
 case ir3_1 => (simp only [List.getElem?_toArray, List.getElem?_cons_succ, List.getElem?_cons_zero]; rfl)
 (go_simp; (go_at_call 98; refine (c_wset L wb T xs pd fb sv x _ H2.out).mono ?_; rintro e wQ ⟨rfl, hbQ⟩; replace H2 := hid (H2.out.on hbQ); replace hbel := bel_trans hbel hbQ; clear hbQ; have t1 : wQ.cell? ⟨wb, 1, none⟩ = some (.string P) ∧ True := ⟨by rw [HP.out]; exact H2.out.c1, trivial⟩))
 refine hK.out _ _ ?kr3_1 (fun hHeld => ?_)
 case kr3_1 => (try dsimp only); (first | with_reducible assumption | with_reducible exact t2 | with_reducible exact t1 | exact t1_bel (by assumption) (by assumption) | assumption | exact t1_alloc (by assumption) _ | exact t2 | exact t1)
 clear hK K
 try simp only [Act.put, List.setIfInBounds_toArray, List.set_cons_zero, List.set_cons_succ]
 refine wpAnyH_ready (rs := [8]) (by kernel_rfl) (by simp) ?_
 refine AllReadyH.cons (o := ?or3_8) ?ir3_8 (fun K hK => ?sr3_8) AllReadyH.nil
 case ir3_8 => (simp only [List.getElem?_toArray, List.getElem?_cons_succ, List.getElem?_cons_zero]; rfl)
 (go_simp; (go_at_call 88; refine (HDf.out _).mono ?_; rintro e wR ⟨rfl, hbR⟩; replace H2 := hid (H2.out.on hbR); replace hbel := bel_trans hbel hbR; clear hbR; have t2 : wR.cell? ⟨wb, 1, none⟩ = some (.string P) ∧ True := ⟨by rw [HP.out]; exact H2.out.c1, trivial⟩))
 refine hK.out _ _ ?kr3_8 (fun hHeld => ?_)
 case kr3_8 => (try dsimp only); (first | with_reducible assumption | with_reducible exact t2 | with_reducible exact t1 | exact t1_bel (by assumption) (by assumption) | assumption | exact t1_alloc (by assumption) _ | exact t2 | exact t1)
 clear hK K
 try simp only [Act.put, List.setIfInBounds_toArray, List.set_cons_zero, List.set_cons_succ]
 refine tk 9 ?_
 refine wpAnyH_done (by kernel_rfl) ?_ _
 refine NoPanic.normal ?_
 all_goals
  clear hHeld t2 t1
  go_wp2_with fail
  refine (HWr.out _ (Nat.le_trans hL hbel.size) H2.out).mono ?_
  rintro e w3 ⟨rfl, hb3, hc3, v3, h3⟩
  have HB3 := hid ((hbel.mono hL).trans hb3)
  have HC3 := hid (((WCalm.refl pd w).on hbel).trans hc3)
  have H3 := hid h3
  obtain ⟨A3, c3, rfl⟩ := h3.row.sl
  obtain ⟨m, hm⟩ : ∃ m, m = y.b.length := ⟨_, rfl⟩
  rw [← hm] at hyb H3
  have HNm := hid (show n = m / 8 * 8 by rw [HNN.out, hm])
  have p2 : w3.cell? ⟨wb, 2, none⟩ = some (.slice A3 m c3) := H3.out.c2
  have HM := hid hm
  clear hb3 hc3 h3 hm H2 hbel HWr HDf
  obtain ⟨q, hq⟩ : ∃ q, q = m / 8 := ⟨_, rfl⟩
  have hq1 : (m : Int).tdiv 8 = (q : Int) := by rw [Int.tdiv_eq_ediv_of_nonneg (by omega)]; omega
  have hq3 : (m : Int) / 8 = (q : Int) := by omega
  have hq2 : (q : Int) * 8 = (n : Int) := by have := HNm.out; omega
  clear hq
  go_wp2_with fail
  refine (c_pack L wb T xs pd fb _ y _ HT.out HGy.out (Nat.le_trans hL HB3.out.size) n (by have := HM.out; have := HNm.out; omega) (by have := HNm.out; omega) H3.out).mono ?_
  rintro e w4 ⟨rfl, hb4, hc4, h4⟩
  go_wp2
  go_ret2
  exact ⟨rfl, HB3.out.trans hb4, HC3.out.trans hc4, h4⟩

set_option maxHeartbeats 4000000 in
set_option maxRecDepth 100000 in
theorem c_take_close (hT : WT T) (hx : x.Go) (hL : L ≤ w.heap.size) (hbl : x.b.length ≤ 31000) (hpl : x.p.length ≤ 2500) (h : WS L wb T xs pd fb sv x w) : Calls Tryz.prog 198 #[.pointer (some ⟨wb, 0, none⟩), .iface 181 (.agg #[])] w fun e w' => e = .returned (.tuple #[.string (packS x.close.k.o (str x.close.b)), .bool true]) ∧ Below L w w' ∧ WCalm pd w w' ∧ ∃ v', WS L wb T xs pd fb v' (x.close.cut x.close.b.length) w' := by
 have hcl := hx.close_
 have HWr := hid (fun (u : World) (hu : L ≤ u.heap.size) (hW : WS L wb T xs pd fb sv x u) => c_wclose L wb T xs pd fb sv x u hT hx hu (by omega) hpl hW)
 obtain ⟨y, hy⟩ : ∃ y, y = x.close := ⟨_, rfl⟩
 rw [← hy] at hcl
 simp only [← hy] at HWr
 rw [← hy]
 have HGy := hid hcl.1
 have hyb : y.b.length ≤ 31030 := by have := hcl.2.2.2.2.2.2.2.2; omega
 have H := hid h
 have HT := hid hT
 have hta := ta_closing
 have hta2 := ta_closing2
 clear h hT hx hcl hy
 go_enter Tryz.func198, Tryz.ntmps198
 go_wp2_with fail
 have hal := bel_alloc (Below.refl _ w) (.cells #[] 181)
 refine (HWr.out _ (Nat.le_trans hL hal.size) (H.out.on hal)).mono ?_
 rintro e w3 ⟨rfl, hb3, hc3, v3, h3⟩
 have HB3 := hid ((hal.mono hL).trans hb3)
 have HC3 := hid (((WCalm.refl pd w).on hal).trans hc3)
 have H3 := hid h3
 obtain ⟨A3, c3, rfl⟩ := h3.row.sl
 obtain ⟨m, hm⟩ : ∃ m, m = y.b.length := ⟨_, rfl⟩
 rw [← hm] at hyb H3
 have p2 : w3.cell? ⟨wb, 2, none⟩ = some (.slice A3 m c3) := H3.out.c2
 have HM := hid hm
 clear hb3 hc3 h3 hm HWr hal
 go_wp2_with fail
 refine (c_pack L wb T xs pd fb _ y _ HT.out HGy.out (Nat.le_trans hL HB3.out.size) m (by have := HM.out; omega) (by omega) H3.out).mono ?_
 rintro e w4 ⟨rfl, hb4, hc4, h4⟩
 have HTk := hid (show y.b.take m = y.b by rw [HM.out, List.take_length])
 rw [HM.out] at h4
 have HTk2 := hid (show packS y.k.o (str (y.b.take m)) = packS y.k.o (str y.b) by rw [HTk.out])
 rw [HTk2.out]
 go_wp2
 go_ret2
 exact ⟨rfl, HB3.out.trans hb4, HC3.out.trans hc4, h4⟩
end
end

section
open Go.ChangeShapes Go.WideShapes Go.ChangeAt Go.RowKit Go.Joins
set_option linter.unusedVariables false
set_option linter.unusedSimpArgs false

theorem own_keepB {w w' : World} {B : Nat} {e : TypeId} {size n : Nat} {v : Value} {xs : List Value} (h : w.ownsRow B e size v n xs) (hk : ∀ g cs, v.ownBlock = some g → Blk w g e cs → Blk w' g e cs) : w'.ownsRow B e size v n xs := by
 obtain ⟨h1, h2⟩ := h
 refine ⟨h1, ?_⟩
 rcases h2 with h2 | ⟨g, cap, cur, rfl, hb, hg, r⟩
 ·exact Or.inl h2
 ·exact Or.inr ⟨g, cap, cur, rfl, hb, hk g cur rfl hg, r⟩
section
variable {L wb : Nat} {T : TypeId} {xs : List Value} {pd : Nat → Prop} {fb : Nat} {v : Value} {x : Wr} {w w' : World}

/-- more blocks that the bits never lie in -/
theorem WS.more (h : WS L wb T xs pd fb v x w) (q : Nat → Prop) (hq : ∀ g, q g → g < w.heap.size ∧ v.ownBlock ≠ some g) : WS L wb T xs (fun g => pd g ∨ q g) fb v x w :=
 ⟨h.bx, h.row, h.fa, fun g hg hp => hp.elim (h.ap g hg) (fun h1 => (hq g h1).2 hg), fun g hp => hp.elim (h.pl g) (fun h1 => (hq g h1).1), h.lb⟩
theorem WS.less {q : Nat → Prop} (h : WS L wb T xs (fun g => pd g ∨ q g) fb v x w) : WS L wb T xs pd fb v x w :=
 ⟨h.bx, h.row, h.fa, fun g hg hp => h.ap g hg (Or.inl hp), fun g hp => h.pl g (Or.inl hp), h.lb⟩
theorem WCalm.less {q : Nat → Prop} (h : WCalm (fun g => pd g ∨ q g) w w') : WCalm pd w w' := fun g t cs hb h1 h2 h3 h4 => h g t cs hb h1 h2 h3 (fun e => Or.inl (h4 e))
/-- another row of bytes is written -/
theorem WS.other (h : WS L wb T xs pd fb v x w) (hT : WT T) {row : Option Nat} (hg : w.grownBy w' row) (hr : ∀ g, row = some g → (∃ cs, Blk w g 5 cs) ∧ v.ownBlock ≠ some g ∧ ¬ pd g) : WS L wb T xs pd fb v x w' ∧ WCalm pd w w' := by
 have key : ∀ {g : Nat} {t : TypeId} {cs : Array Value}, Blk w g t cs → t ≠ 5 → some g ≠ row := fun {g t cs} hb ht e => by
  obtain ⟨⟨cs2, h5⟩, _⟩ := hr g e.symm
  have := hb.symm.trans h5
  simp at this
  exact ht this.2
 refine ⟨⟨h.bx.grown hg (key h.bx hT.u8), h.row.keep fun g cs hv hh => hh.grown hg (fun e => (hr g e.symm).2.1 hv), h.fa.away hg (fun g e => (hr g e).1) (by decide), h.ap, fun g hp => Nat.lt_of_lt_of_le (h.pl g hp) hg.size, h.lb⟩, ?_⟩
 intro g t cs hb h1 h2 h3 h4
 by_cases e : some g = row
 ·obtain ⟨⟨cs2, h5⟩, _, h6⟩ := hr g e.symm
  have := hb.symm.trans h5
  simp at this
  exact absurd (h4 this.2) h6
 ·exact hb.grown hg e
end
def takeName : String := String.ofList (([108, 111, 111, 112, 46, 101, 120, 97, 109, 112, 108, 101, 47, 115, 111, 117, 103, 104, 116, 115, 116, 114, 101, 97, 109, 115, 47, 105, 109, 112, 108, 46, 116, 97, 107, 101] : List Nat).map Char.ofNat)
theorem meth_take (pb : Nat) (w : World) (nm : String) (h : nm = takeName) : (method 333 50 (.pointer (some ⟨pb, 0, none⟩)) nm).run Tryz.prog w = .ok (198, .pointer (some ⟨pb, 0, none⟩)) w := by
 subst h
 kernel_rfl

section
variable (L pb : Nat) (xs : List Value) (pd : Nat → Prop) (fb : Nat) (sv : Value) (x : Wr) (w : World)

theorem c_take_part (hx : x.Go) (hL : L ≤ w.heap.size) (D : ByteArray) (hbl : x.b.length ≤ 7) (hl : Lits x.k.c D.data.toList) (hn : x.p.length + D.size ≤ 2000) (hf : dataFits x.k.o x.k.l x.k.m (str x.p ++ D) = true) (n : Nat) (hnn : n = (x.write D.data.toList).b.length / 8 * 8) (h : WS L pb 102 xs pd fb sv x w) : Calls Tryz.prog 198 #[.pointer (some ⟨pb, 0, none⟩), .iface 179 (.string D)] w fun e w' => e = .returned (.tuple #[.string (packS (x.write D.data.toList).k.o (str ((x.write D.data.toList).b.take n))), .bool true]) ∧ Below L w w' ∧ WCalm pd w w' ∧ ∃ v', WS L pb 102 xs pd fb v' ((x.write D.data.toList).cut n) w' := by
 by_cases h0 : D.size = 0
 ·have e := empty_of h0
  subst e
  have e2 : x.write ByteArray.empty.data.toList = x := by unfold Wr.write; rw [if_pos (show ByteArray.empty.data.toList = [] from rfl)]
  rw [e2] at hnn ⊢
  exact c_take_nil L pb _ xs pd fb sv x w (Or.inr rfl) hx hL hbl (by simpa using hf) (by omega) n hnn h
 ·exact c_take_yes L pb _ xs pd fb sv x w (Or.inr rfl) hx hL D (by omega) hbl hl hn hf n hnn h

set_option maxHeartbeats 4000000 in
set_option maxRecDepth 100000 in
theorem c_takeAll_no (hx : x.Go) (hL : L ≤ w.heap.size) (s0 : Nat) (D : ByteArray) (hs : (str x.p ++ D).size ≤ maxLen) (hf : dataFits x.k.o x.k.l x.k.m (str x.p ++ D) = false) (h : WS L pb 102 xs pd fb sv x w) (hs0 : Blk w s0 9 #[.string D]) : Calls Tryz.prog 97 #[.iface 50 (.pointer (some ⟨pb, 0, none⟩)), .slice (some ⟨s0, 0, none⟩) 1 1] w fun e w' => e = .returned (.tuple #[.string ByteArray.empty, .bool false]) ∧ Below L w w' ∧ WCalm pd w w' ∧ WS L pb 102 xs pd fb sv x w' := by
 have HTk := hid (c_take_no L pb 102 xs pd fb sv x w (Or.inr rfl) hx hL D hs hf h)
 have p0 : w.cell? ⟨s0, 0, none⟩ = some (.string D) := hs0.cell 0
 have H := hid h
 clear h hx hs0 hs hf
 go_enter Tryz.func97, Tryz.ntmps97
 go_wp2_with fail
 go_loopw [6, 15] (fun o i wr => i = .int .i64 0 ∧ wr = w ∧ o = .slice none 0 0) (fun _ i _ => (2 - intOf i).toNat)
 case atStart => exact ⟨rfl, rfl, rfl⟩
 case round =>
  obtain ⟨rfl, rfl, rfl⟩ := hrel
  go_wp2_with fail
  rw [meth_take]
  rotate_left
  ·kernel_rfl
  simp only [Result.andThen_ok]
  refine HTk.out.mono ?_
  rintro e w1 ⟨rfl, hb1, hc1, h1⟩
  go_wp2
  go_ret2
  exact ⟨rfl, hb1, hc1, h1⟩

set_option maxHeartbeats 4000000 in
set_option maxRecDepth 100000 in
theorem c_takeAll_yes (hx : x.Go) (hL : L ≤ w.heap.size) (s0 : Nat) (D : ByteArray) (hbl : x.b.length ≤ 7) (hl : Lits x.k.c D.data.toList) (hn : x.p.length + D.size ≤ 2000) (hf : dataFits x.k.o x.k.l x.k.m (str x.p ++ D) = true) (n : Nat) (hnn : n = (x.write D.data.toList).b.length / 8 * 8) (y z : Wr) (hy : y = x.write D.data.toList) (hz : z = y.cut n) (h : WS L pb 102 xs pd fb sv x w) (hs0 : Blk w s0 9 #[.string D]) : Calls Tryz.prog 97 #[.iface 50 (.pointer (some ⟨pb, 0, none⟩)), .slice (some ⟨s0, 0, none⟩) 1 1] w fun e w' => e = .returned (.tuple #[.string (packS x.k.o (str (y.b.take n)) ++ packS x.k.o (str z.close.b)), .bool true]) ∧ Below L w w' ∧ WCalm pd w w' ∧ ∃ v', WS L pb 102 xs pd fb v' (z.close.cut z.close.b.length) w' := by
 have HTk := hid (c_take_part L pb xs pd fb sv x w hx hL D hbl hl hn hf n hnn h)
 have hw := hx.write_ hl hbl (by rw [len_toList]; exact hn)
 rw [← hy] at hw
 simp only [← hy] at HTk
 simp only [← hz] at HTk
 rw [← hy] at hnn
 have hzg : z.Go := by rw [hz]; exact ⟨hw.1.ok, hw.1.lit, by
  show (y.b.drop n).all isBit = true
  have h1 := hw.1.bit
  rw [List.all_eq_true] at h1 ⊢
  exact fun b hb => h1 b (List.mem_of_mem_drop hb)⟩
 have hzb : z.b.length ≤ 7 := by rw [hz]; show (y.b.drop n).length ≤ 7; rw [List.length_drop]; omega
 have hzp : z.p.length ≤ 2500 := by rw [hz]; exact hw.2.2.2.2.2.2.2
 have hzo : z.close.k.o = x.k.o := by rw [hzg.close_.2.2.2.2.2.1, hz]; exact hw.2.2.2.1
 have hyo : y.k.o = x.k.o := hw.2.2.2.1
 have HCl := hid (fun (q : Nat → Prop) (v2 : Value) (u : World) (hu : L ≤ u.heap.size) (h2 : WS L pb 102 xs q fb v2 z u) => c_take_close L pb 102 xs q fb v2 z u (Or.inr rfl) hzg hu (by omega) hzp h2)
 obtain ⟨c, hc⟩ : ∃ c, c = z.close := ⟨_, rfl⟩
 simp only [← hc] at HCl
 rw [← hc] at hzo ⊢
 have hcb : c.b.length ≤ 40 := by have := hzg.close_.2.2.2.2.2.2.2.2; rw [hc]; omega
 obtain ⟨S1, hS1⟩ : ∃ S1, S1 = packS x.k.o (str (y.b.take n)) := ⟨_, rfl⟩
 obtain ⟨S2, hS2⟩ : ∃ S2, S2 = packS x.k.o (str c.b) := ⟨_, rfl⟩
 simp only [hyo, ← hS1] at HTk
 simp only [hzo, ← hS2] at HCl
 rw [← hS1, ← hS2]
 have hz1 : S1.size ≤ 5000 := by rw [hS1, packS, str_size, M.pack_length, bitsL_len, str_size, List.length_take]; have := hw.2.2.2.2.2.2.1; omega
 have hz2 : S2.size ≤ 10 := by rw [hS2, packS, str_size, M.pack_length, bitsL_len, str_size]; omega
 have p0 : w.cell? ⟨s0, 0, none⟩ = some (.string D) := hs0.cell 0
 have H := hid h
 clear h hx hs0 hf hw hzg hzb hzp hzo hyo hc hS1 hS2 hy hz hnn hl hn hbl hcb
 go_enter Tryz.func97, Tryz.ntmps97
 go_wp2_with fail
 go_loopw [6, 15] (fun o i wr => (i = .int .i64 0 ∧ wr = w ∧ o = .slice none 0 0) ∨ (i = .int .i64 1 ∧ ∃ (A0 : Option Addr) (c0 : Nat) (v3 : Value), o = .slice A0 S1.size c0 ∧ Hid (wr.ownsRow w.heap.size 5 1 (.slice A0 S1.size c0) S1.size (S1.data.toList.map vb)) ∧ Hid (∀ g, (Value.slice A0 S1.size c0).ownBlock = some g → v3.ownBlock ≠ some g) ∧ Hid (WS L pb 102 xs pd fb v3 z wr) ∧ Hid (Below L w wr) ∧ Hid (WCalm pd w wr))) (fun _ i _ => (2 - intOf i).toNat)
 case atStart => exact Or.inl ⟨rfl, rfl, rfl⟩
 case round =>
  rcases hrel with ⟨rfl, hww, rfl⟩ | ⟨rfl, A0, c0, v3, rfl, HO, HNe, H3, HB3, HC3⟩
  ·have hww2 := hww.symm
   subst hww2
   clear hww
   go_wp2_with fail
   rw [meth_take]
   rotate_left
   ·kernel_rfl
   simp only [Result.andThen_ok]
   refine HTk.out.mono ?_
   rintro e w1 ⟨rfl, hb1, hc1, v1, h1⟩
   have H1 := hid h1
   have HB1 := hid hb1
   have HC1 := hid hc1
   clear hb1 hc1 h1 HTk
   have hsz1 : w.heap.size ≤ w1.heap.size := HB1.out.size
   go_wp2_with (at_builtin; refine app_str rfl _ _ 98 9 rfl w1.heap.size 5 Tryz.underlying98 Tryz.underlying9 Tryz.info_u8o _ 0 [] rfl (own_nil _ _ _) S1 rfl (by omega) (Nat.le_refl _) ?_; intro v5 w5 hown5 hb5 hg5)
   obtain ⟨A5, c5, rfl⟩ := own_sl hown5
   simp only [Nat.zero_add, List.nil_append] at hown5 ⊢
   have HO5 := hid (own_mono (B' := w.heap.size) hown5 hsz1)
   have HNe := hid (fun (g : Nat) (hg : (Value.slice A5 S1.size c5).ownBlock = some g) => show v1.ownBlock ≠ some g from fun e => by
    have e1 := (hown5.lt g hg).1
    have e2 := (H1.out.row.elem g e).2.1
    omega)
   have H5 := hid (H1.out.on hb5)
   have HB5 := hid (HB1.out.trans (hb5.mono (Nat.le_trans hL hsz1)))
   have HC5 := hid (HC1.out.on hb5)
   clear hown5 hb5 hg5 H1 HB1 HC1
   go_roundw
   case rel => exact Or.inr ⟨by first | exact trivial | rfl, A5, c5, v1, rfl, HO5, HNe, H5, HB5, HC5⟩
   case measure => simp [intOf]
  ·have H4' := hid (H3.out.more (fun g => (Value.slice A0 S1.size c0).ownBlock = some g) (fun g hg => ⟨(HO.out.lt g hg).2, HNe.out g hg⟩))
   go_wp2_with fail
   rw [meth_take]
   rotate_left
   ·kernel_rfl
   simp only [Result.andThen_ok]
   refine (HCl.out _ v3 wr (Nat.le_trans hL HB3.out.size) H4'.out).mono ?_
   rintro e w4 ⟨rfl, hb4, hc4, v4, h4⟩
   have HO4 := hid (own_keepB HO.out (fun g cs hv hh => hc4 g _ cs hh (by decide) (by decide) (by decide) (fun _ => Or.inr hv)))
   have H4 := hid h4
   have HB4 := hid (HB3.out.trans hb4)
   have HC4 := hid (HC3.out.trans hc4.less)
   have hsz4 : w.heap.size ≤ w4.heap.size := HB4.out.size
   clear hb4 hc4 h4 H4' H3 HB3 HC3 HCl HTk HNe
   go_wp2_with (at_builtin; refine app_str rfl _ _ 98 9 rfl w.heap.size 5 Tryz.underlying98 Tryz.underlying9 Tryz.info_u8o _ S1.size S1.data.toList rfl HO4.out S2 rfl (by omega) hsz4 ?_; intro v6 w6 hown6 hb6 hg6; have hcv := run_own_str (P := Tryz.prog) Tryz.underlying98 Tryz.underlying5 Tryz.underlying9 hown6)
   obtain ⟨hW6, hC6⟩ := H4.out.less.other (Or.inr rfl) hg6 (fun g hg => ⟨own_elem HO4.out g hg, fun e => H4.out.ap g e (Or.inr hg), fun hp => by
    have e1 := (HO4.out.lt g hg).1
    have e2 := H.out.pl g hp
    omega⟩)
   have HW6 := hid hW6
   have HS12 := hid (show str (S1.data.toList ++ S2.data.toList) = S1 ++ S2 by rw [← str_append, str_self, str_self])
   have HB6 := hid (HB4.out.trans (below_of_grown hg6 (Nat.le_trans hL hsz4) (fun g hg => by
    have e1 := (HO4.out.lt g hg).1
    omega)))
   have HC6 := hid (HC4.out.trans hC6)
   rw [HS12.out] at hcv
   clear hW6 hC6 hown6 hb6 hg6
   go_wp2
   go_ret2
   exact ⟨rfl, HB6.out, HC6.out, _, HW6.out⟩
end
end

section
open Go.ChangeShapes Go.WideShapes Go.ChangeAt Go.RowKit Go.Joins
set_option linter.unusedVariables false
set_option linter.unusedSimpArgs false

theorem str_nil_add (D : ByteArray) : str ([] : List UInt8) ++ D = D := by
 rw [str_add, List.nil_append, str_self]

section
variable (L pb : Nat) (xs : List Value) (pd : Nat → Prop) (fb : Nat) (sv : Value) (K : Kn) (w : World)

set_option maxHeartbeats 4000000 in
set_option maxRecDepth 100000 in
theorem c_compress_no (hK : K.Ok) (hKc : K.cleared = K) (hL : L ≤ w.heap.size) (D : ByteArray) (hs : D.size ≤ maxLen) (hf : dataFits K.o K.l K.m D = false) (h : WS L pb 102 xs pd fb sv (Wr.fresh K) w) : Calls Tryz.prog 65 #[.pointer (some ⟨pb, 0, none⟩), .string D] w fun e w' => e = .returned (.tuple #[.string ByteArray.empty, .bool false]) ∧ Below L w w' ∧ WCalm pd w w' ∧ ∃ v', WS L pb 102 xs pd fb v' (Wr.fresh K) w' := by
 have HTa := hid (fun (W : World) (hW : L ≤ W.heap.size) (h2 : WS L pb 102 xs pd fb sv (Wr.fresh K) W) (s0 : Nat) (hs0 : Blk W s0 9 #[.string D]) => c_takeAll_no L pb xs pd fb sv (Wr.fresh K) W (Wr.fresh_go hK) hW s0 D (by show (str [] ++ D).size ≤ maxLen; rw [str_nil_add]; exact hs) (by show dataFits K.o K.l K.m (str [] ++ D) = false; rw [str_nil_add]; exact hf) h2 hs0)
 obtain ⟨u, hu0⟩ : ∃ u, u = Wr.fresh K := ⟨_, rfl⟩
 have hu : u.Go ∧ u.k.cleared = K ∧ u.p = [] ∧ u.b = [] := by rw [hu0]; exact ⟨Wr.fresh_go hK, hKc, rfl, rfl⟩
 rw [← hu0] at h
 simp only [← hu0] at HTa
 have H := hid h
 clear h hK hKc hs hf
 have HU0 := hid hu0
 clear hu0
 go_enter Tryz.func65, Tryz.ntmps65
 go_wp2_with fail
 have hal := bel_alloc (Below.refl _ w) (.cells #[.string D] 9)
 refine (HTa.out _ (Nat.le_trans hL hal.size) (H.out.on hal) w.heap.size (Blk.new w _ _)).mono ?_
 rintro e w1 ⟨rfl, hb1, hc1, h1⟩
 have HB1 := hid ((hal.mono hL).trans hb1)
 have HC1 := hid (((WCalm.refl pd w).on hal).trans hc1)
 have H1 := hid h1
 have hset := hu.1.ok.set
 have hce : u.k.c = pow2 u.k.l := rfl
 have HCl := hid (fun (q : World) => c_ClearCode_yes u.k.o u.k.l u.k.m q hset)
 obtain ⟨C, hC⟩ : ∃ C, C = pow2 u.k.l := ⟨_, rfl⟩
 have HCq := hid (show u.k.c = C from hC.symm)
 simp only [← hC] at HCl
 have HU := hid hu
 have hS : w1.cell? ⟨pb, 0, none⟩ = some (.pointer (some ⟨fb, 0, none⟩)) ∧ True := ⟨H1.out.c0, trivial⟩
 clear hb1 hc1 h1 hal hu hset hce hC HTa
 go_wp2_with fail
 have H2 := hid (H1.out.on (bel_drew (Below.refl _ w1)))
 have HB2 := hid (HB1.out.drew)
 have HC2 := hid (HC1.out.on (bel_drew (Below.refl _ w1)))
 clear H1 HB1 HC1
 refine wp_region_noPanic ?_
 refine wp_region_held_drew (S := (fun v => v.cell? ⟨pb, 0, none⟩ = some (.pointer (some ⟨fb, 0, none⟩)) ∧ True)) (by kernel_rfl) (t1_drew hS) (fun hHeld => ?_)
 refine tk 0 ?_
 refine tk 1 ?_
 refine tk 2 ?_
 refine tk 3 ?_
 refine tk 4 ?_
 refine tk 5 ?_
 refine tk 6 ?_
 refine tk 7 ?_
 refine wpAnyH_ready (rs := [8]) (by kernel_rfl) (by simp) ?_
 refine AllReadyH.cons (o := ?or1_8) ?ir1_8 (fun K hK => ?sr1_8) AllReadyH.nil
 case ir1_8 => (simp only [List.getElem?_toArray, List.getElem?_cons_succ, List.getElem?_cons_zero]; rfl)
 (go_simp; (go_at_call 98; refine (c_wset L pb 102 xs pd fb _ u _ H2.out).mono ?_; rintro e wQ ⟨rfl, hbQ⟩; replace H2 := hid (H2.out.on hbQ); replace HB2 := hid (HB2.out.trans (hbQ.mono (Nat.le_trans hL HB2.out.size))); replace HC2 := hid (HC2.out.on hbQ); clear hbQ; have t1 : wQ.cell? ⟨pb, 0, none⟩ = some (.pointer (some ⟨fb, 0, none⟩)) ∧ True := ⟨H2.out.c0, trivial⟩))
 refine hK.out _ _ ?kr1_8 (fun hHeld => ?_)
 case kr1_8 => (try dsimp only); (first | with_reducible assumption | with_reducible exact t3 | with_reducible exact t2 | with_reducible exact t1 | exact t1_bel (by assumption) (by assumption) | assumption | exact t1_alloc (by assumption) _ | exact t3 | exact t2 | exact t1)
 clear hK K
 try simp only [Act.put, List.setIfInBounds_toArray, List.set_cons_zero, List.set_cons_succ]
 refine wpAnyH_ready (rs := [9]) (by kernel_rfl) (by simp) ?_
 refine AllReadyH.cons (o := ?or1_9) ?ir1_9 (fun K hK => ?sr1_9) AllReadyH.nil
 case ir1_9 => (simp only [List.getElem?_toArray, List.getElem?_cons_succ, List.getElem?_cons_zero]; rfl)
 (go_simp; (go_at_call 90; refine (HCl.out _).mono ?_; rintro e wR ⟨rfl, hbR⟩; replace H2 := hid (H2.out.on hbR); replace HB2 := hid (HB2.out.trans (hbR.mono (Nat.le_trans hL HB2.out.size))); replace HC2 := hid (HC2.out.on hbR); clear hbR; have t2 : wR.cell? ⟨pb, 0, none⟩ = some (.pointer (some ⟨fb, 0, none⟩)) ∧ True := ⟨H2.out.c0, trivial⟩))
 refine hK.out _ _ ?kr1_9 (fun hHeld => ?_)
 case kr1_9 => (try dsimp only); (first | with_reducible assumption | with_reducible exact t3 | with_reducible exact t2 | with_reducible exact t1 | exact t1_bel (by assumption) (by assumption) | assumption | exact t1_alloc (by assumption) _ | exact t3 | exact t2 | exact t1)
 clear hK K
 try simp only [Act.put, List.setIfInBounds_toArray, List.set_cons_zero, List.set_cons_succ]
 refine wpAnyH_ready (rs := [10]) (by kernel_rfl) (by simp) ?_
 refine AllReadyH.cons (o := ?or1_10) ?ir1_10 (fun K hK => ?sr1_10) AllReadyH.nil
 case ir1_10 => (simp only [List.getElem?_toArray, List.getElem?_cons_succ, List.getElem?_cons_zero]; rfl)
 (go_simp; (go_at_call 89; refine (c_ffollow L fb u.k _ HU.out.1.ok (Nat.le_trans hL HB2.out.size) H2.out.fa C (Or.inl HCq.out.symm)).mono ?_; rintro e wF ⟨rfl, hbF, hcF, hF⟩; have HF := hid hF; have H3 := hid (H2.out.calm (Or.inr rfl) hcF hbF.size hF); have HB3 := hid (HB2.out.trans hbF); have HC3 := hid (HC2.out.calm hcF); clear hF hbF hcF; have t3 : wF.cell? ⟨pb, 0, none⟩ = some (.pointer (some ⟨fb, 0, none⟩)) ∧ True := ⟨H3.out.c0, trivial⟩))
 refine hK.out _ _ ?kr1_10 (fun hHeld => ?_)
 case kr1_10 => (try dsimp only); (first | with_reducible assumption | with_reducible exact t3 | with_reducible exact t2 | with_reducible exact t1 | exact t1_bel (by assumption) (by assumption) | assumption | exact t1_alloc (by assumption) _ | exact t3 | exact t2 | exact t1)
 clear hK K
 try simp only [Act.put, List.setIfInBounds_toArray, List.set_cons_zero, List.set_cons_succ]
 refine wpAnyH_done (by kernel_rfl) ?_ _
 refine NoPanic.normal ?_
 all_goals
  have p3 := H3.out.c3
  have f3 := H3.out.f 3
  have HE := hid (show ({ u with k := u.k.step C, g := false } : Wr) = Wr.fresh K by
   rw [← HCq.out, Kn.step_clear, HU.out.2.1]
   unfold Wr.fresh
   rw [HU.out.2.2.1, HU.out.2.2.2])
  go_wp2
  go_ret2
  exact ⟨rfl, HB3.out.setCell (p := ⟨pb, 3, none⟩) H3.out.lb _, HC3.out.trans (WCalm.store pd H3.out.bx (Or.inr rfl) 3 _), _, by rw [← HE.out]; exact H3.out.at_ (Or.inr rfl) 3 (.bool false) _ { u with k := u.k.step C, g := false } rfl H3.out.row H3.out.ap (by simp)⟩
set_option maxHeartbeats 4000000 in
set_option maxRecDepth 100000 in
theorem c_compress_yes (hKc : K.cleared = K) (hL : L ≤ w.heap.size) (D : ByteArray) (hf : FitsOk K D) (h : WS L pb 102 xs pd fb sv (Wr.fresh K) w) : Calls Tryz.prog 65 #[.pointer (some ⟨pb, 0, none⟩), .string D] w fun e w' => e = .returned (.tuple #[.string (K.packed (K.greedy D.data.toList)), .bool true]) ∧ Below L w w' ∧ WCalm pd w w' ∧ ∃ v', WS L pb 102 xs pd fb v' (Wr.fresh K) w' := by
 have hg := Wr.fresh_go hf.1
 have hw := hg.write_ (d := D.data.toList) hf.lits.1 (by show 0 ≤ 7; omega) (by rw [len_toList]; show 0 + D.size ≤ 2000; have := hf.lits.2; omega)
 obtain ⟨y, hy⟩ : ∃ y, y = (Wr.fresh K).write D.data.toList := ⟨_, rfl⟩
 obtain ⟨n, hn⟩ : ∃ n, n = y.b.length / 8 * 8 := ⟨_, rfl⟩
 have HTa := hid (fun (W : World) (hW : L ≤ W.heap.size) (h2 : WS L pb 102 xs pd fb sv (Wr.fresh K) W) (s0 : Nat) (hs0 : Blk W s0 9 #[.string D]) => c_takeAll_yes L pb xs pd fb sv (Wr.fresh K) W hg hW s0 D (by show 0 ≤ 7; omega) hf.lits.1 (by show 0 + D.size ≤ 2000; have := hf.lits.2; omega) (by show dataFits K.o K.l K.m (str [] ++ D) = true; rw [str_nil_add]; exact hf.2) n (by rw [hn, hy]) y (y.cut n) hy rfl h2 hs0)
 have htp := Wr.two_packs hf.1 hf.lits.1 n (by rw [hn, hy])
 rw [← hy] at htp hw
 obtain ⟨R, hR⟩ : ∃ R, R = K.packed (K.greedy D.data.toList) := ⟨_, rfl⟩
 rw [← hR] at htp ⊢
 have htp2 : packS (Wr.fresh K).k.o (str (y.b.take n)) ++ packS (Wr.fresh K).k.o (str (y.cut n).close.b) = R := htp
 simp only [htp2] at HTa
 have hcg : (y.cut n).Go := ⟨hw.1.ok, hw.1.lit, by
  show (y.b.drop n).all isBit = true
  have h1 := hw.1.bit
  rw [List.all_eq_true] at h1 ⊢
  exact fun b hb => h1 b (List.mem_of_mem_drop hb)⟩
 obtain ⟨u, hu0⟩ : ∃ u, u = (y.cut n).close.cut (y.cut n).close.b.length := ⟨_, rfl⟩
 have hu : u.Go ∧ u.k.cleared = K ∧ u.p = [] ∧ u.b = [] := by
  obtain ⟨q1, q2, q3, q4, q5⟩ := hcg.close_
  rw [hu0]
  refine ⟨⟨q1.ok, q1.lit, ?_⟩, ?_, q4, ?_⟩
  ·show ((y.cut n).close.b.drop (y.cut n).close.b.length).all isBit = true
   rw [List.drop_length]; rfl
  ·show (y.cut n).close.k.cleared = K
   rw [q2]
   show y.k.cleared = K
   rw [hw.2.1]
   exact hKc
  ·show (y.cut n).close.b.drop (y.cut n).close.b.length = []
   exact List.drop_length
 simp only [← hu0] at HTa
 have H := hid h
 clear h hKc hf hg hw hy hn htp htp2 hR hcg hu0
 go_enter Tryz.func65, Tryz.ntmps65
 go_wp2_with fail
 have hal := bel_alloc (Below.refl _ w) (.cells #[.string D] 9)
 refine (HTa.out _ (Nat.le_trans hL hal.size) (H.out.on hal) w.heap.size (Blk.new w _ _)).mono ?_
 rintro e w1 ⟨rfl, hb1, hc1, v1, h1⟩
 have HB1 := hid ((hal.mono hL).trans hb1)
 have HC1 := hid (((WCalm.refl pd w).on hal).trans hc1)
 have H1 := hid h1
 have hset := hu.1.ok.set
 have hce : u.k.c = pow2 u.k.l := rfl
 have HCl := hid (fun (q : World) => c_ClearCode_yes u.k.o u.k.l u.k.m q hset)
 obtain ⟨C, hC⟩ : ∃ C, C = pow2 u.k.l := ⟨_, rfl⟩
 have HCq := hid (show u.k.c = C from hC.symm)
 simp only [← hC] at HCl
 have HU := hid hu
 have hS : w1.cell? ⟨pb, 0, none⟩ = some (.pointer (some ⟨fb, 0, none⟩)) ∧ True := ⟨H1.out.c0, trivial⟩
 clear hb1 hc1 h1 hal hu hset hce hC HTa
 go_wp2_with fail
 have H2 := hid (H1.out.on (bel_drew (Below.refl _ w1)))
 have HB2 := hid (HB1.out.drew)
 have HC2 := hid (HC1.out.on (bel_drew (Below.refl _ w1)))
 clear H1 HB1 HC1
 refine wp_region_noPanic ?_
 refine wp_region_held_drew (S := (fun v => v.cell? ⟨pb, 0, none⟩ = some (.pointer (some ⟨fb, 0, none⟩)) ∧ True)) (by kernel_rfl) (t1_drew hS) (fun hHeld => ?_)
 refine tk 0 ?_
 refine tk 1 ?_
 refine tk 2 ?_
 refine tk 3 ?_
 refine tk 4 ?_
 refine tk 5 ?_
 refine tk 6 ?_
 refine tk 7 ?_
 refine wpAnyH_ready (rs := [8]) (by kernel_rfl) (by simp) ?_
 refine AllReadyH.cons (o := ?or2_8) ?ir2_8 (fun K hK => ?sr2_8) AllReadyH.nil
 case ir2_8 => (simp only [List.getElem?_toArray, List.getElem?_cons_succ, List.getElem?_cons_zero]; rfl)
 (go_simp; (go_at_call 98; refine (c_wset L pb 102 xs pd fb _ u _ H2.out).mono ?_; rintro e wQ ⟨rfl, hbQ⟩; replace H2 := hid (H2.out.on hbQ); replace HB2 := hid (HB2.out.trans (hbQ.mono (Nat.le_trans hL HB2.out.size))); replace HC2 := hid (HC2.out.on hbQ); clear hbQ; have t1 : wQ.cell? ⟨pb, 0, none⟩ = some (.pointer (some ⟨fb, 0, none⟩)) ∧ True := ⟨H2.out.c0, trivial⟩))
 refine hK.out _ _ ?kr2_8 (fun hHeld => ?_)
 case kr2_8 => (try dsimp only); (first | with_reducible assumption | with_reducible exact t3 | with_reducible exact t2 | with_reducible exact t1 | exact t1_bel (by assumption) (by assumption) | assumption | exact t1_alloc (by assumption) _ | exact t3 | exact t2 | exact t1)
 clear hK K
 try simp only [Act.put, List.setIfInBounds_toArray, List.set_cons_zero, List.set_cons_succ]
 refine wpAnyH_ready (rs := [9]) (by kernel_rfl) (by simp) ?_
 refine AllReadyH.cons (o := ?or2_9) ?ir2_9 (fun K hK => ?sr2_9) AllReadyH.nil
 case ir2_9 => (simp only [List.getElem?_toArray, List.getElem?_cons_succ, List.getElem?_cons_zero]; rfl)
 (go_simp; (go_at_call 90; refine (HCl.out _).mono ?_; rintro e wR ⟨rfl, hbR⟩; replace H2 := hid (H2.out.on hbR); replace HB2 := hid (HB2.out.trans (hbR.mono (Nat.le_trans hL HB2.out.size))); replace HC2 := hid (HC2.out.on hbR); clear hbR; have t2 : wR.cell? ⟨pb, 0, none⟩ = some (.pointer (some ⟨fb, 0, none⟩)) ∧ True := ⟨H2.out.c0, trivial⟩))
 refine hK.out _ _ ?kr2_9 (fun hHeld => ?_)
 case kr2_9 => (try dsimp only); (first | with_reducible assumption | with_reducible exact t3 | with_reducible exact t2 | with_reducible exact t1 | exact t1_bel (by assumption) (by assumption) | assumption | exact t1_alloc (by assumption) _ | exact t3 | exact t2 | exact t1)
 clear hK K
 try simp only [Act.put, List.setIfInBounds_toArray, List.set_cons_zero, List.set_cons_succ]
 refine wpAnyH_ready (rs := [10]) (by kernel_rfl) (by simp) ?_
 refine AllReadyH.cons (o := ?or2_10) ?ir2_10 (fun K hK => ?sr2_10) AllReadyH.nil
 case ir2_10 => (simp only [List.getElem?_toArray, List.getElem?_cons_succ, List.getElem?_cons_zero]; rfl)
 (go_simp; (go_at_call 89; refine (c_ffollow L fb u.k _ HU.out.1.ok (Nat.le_trans hL HB2.out.size) H2.out.fa C (Or.inl HCq.out.symm)).mono ?_; rintro e wF ⟨rfl, hbF, hcF, hF⟩; have HF := hid hF; have H3 := hid (H2.out.calm (Or.inr rfl) hcF hbF.size hF); have HB3 := hid (HB2.out.trans hbF); have HC3 := hid (HC2.out.calm hcF); clear hF hbF hcF; have t3 : wF.cell? ⟨pb, 0, none⟩ = some (.pointer (some ⟨fb, 0, none⟩)) ∧ True := ⟨H3.out.c0, trivial⟩))
 refine hK.out _ _ ?kr2_10 (fun hHeld => ?_)
 case kr2_10 => (try dsimp only); (first | with_reducible assumption | with_reducible exact t3 | with_reducible exact t2 | with_reducible exact t1 | exact t1_bel (by assumption) (by assumption) | assumption | exact t1_alloc (by assumption) _ | exact t3 | exact t2 | exact t1)
 clear hK K
 try simp only [Act.put, List.setIfInBounds_toArray, List.set_cons_zero, List.set_cons_succ]
 refine wpAnyH_done (by kernel_rfl) ?_ _
 refine NoPanic.normal ?_
 all_goals
  have p3 := H3.out.c3
  have f3 := H3.out.f 3
  have HE := hid (show ({ u with k := u.k.step C, g := false } : Wr) = Wr.fresh K by
   rw [← HCq.out, Kn.step_clear, HU.out.2.1]
   unfold Wr.fresh
   rw [HU.out.2.2.1, HU.out.2.2.2])
  go_wp2
  go_ret2
  exact ⟨rfl, HB3.out.setCell (p := ⟨pb, 3, none⟩) H3.out.lb _, HC3.out.trans (WCalm.store pd H3.out.bx (Or.inr rfl) 3 _), _, by rw [← HE.out]; exact H3.out.at_ (Or.inr rfl) 3 (.bool false) _ { u with k := u.k.step C, g := false } rfl H3.out.row H3.out.ap (by simp)⟩
end
end

section
open Go.ChangeShapes Go.WideShapes Go.ChangeAt Go.RowKit Go.Joins
set_option linter.unusedVariables false
set_option linter.unusedSimpArgs false

theorem zero_wf : (⟨0, 0, 0, [], 0, 0⟩ : Kn).Wf := ⟨(by intro i p hp; simp at hp), by show (-9223372036854775808 : Int) ≤ 0 ∧ (0 : Int) ≤ 9223372036854775807; omega, by show (-9223372036854775808 : Int) ≤ 0 ∧ (0 : Int) ≤ 9223372036854775807; omega, by simp⟩

set_option maxHeartbeats 4000000 in
set_option maxRecDepth 100000 in
theorem c_prime_no (o l m : Int) (w : World) (D : ByteArray) (hs : D.size ≤ maxLen) (hk : ¬ FitsOk (begun o l m) D) : Calls Tryz.prog 35 #[.agg #[.int .i64 o, .int .i64 l, .int .i64 m], .string D] w fun e w' => e = .returned (.tuple #[.pointer none, .bool false]) ∧ Below w.heap.size w w' := by
 obtain ⟨K, b, hps, hkf, hwf, HSt⟩ : ∃ (K : Kn) (b : Bool), K.ps = [] ∧ ¬ FitsOk K D ∧ K.Wf ∧ ∀ v : World, Calls Tryz.prog 62 #[.agg #[.int .i64 o, .int .i64 l, .int .i64 m]] v fun e w' => e = .returned (.tuple #[.agg #[.int .i64 K.o, .int .i64 K.l, .int .i64 K.m, .slice none 0 0, .int .i64 K.base, .int .i64 K.last], .bool b]) ∧ Below v.heap.size v w' := by
  cases h : setOk o l m with
  | true => exact ⟨begun o l m, true, rfl, hk, begun_wf o l m, fun v => c_Start_yes o l m v h⟩
  | false => exact ⟨⟨0, 0, 0, [], 0, 0⟩, false, rfl, fun e => by have := e.1.set; simp [setOk, orderOk, inB] at this, zero_wf, fun v => c_Start_no o l m v h⟩
 have HL := hid (fun (v : World) => c_learn_no K none 0 0 v (by rw [hps]; exact PsAt.nil _ _) (Nat.zero_le _) D hs hkf hwf)
 simp only [hps, List.length_nil] at HL
 have HSt := hid HSt
 have hB0 : Below w.heap.size w (w.alloc (.cells #[.int .i64 o, .int .i64 l, .int .i64 m] 28)) := by exact obB
 obtain ⟨y0, y1, y2⟩ := (Blk.new w 28 #[.int .i64 o, .int .i64 l, .int .i64 m]).cells3
 clear hk hps hkf hwf hs
 go_enter Tryz.func35, Tryz.ntmps35
 go_wp2_with fail
 refine (HSt.out _).mono ?_
 rintro e w1 ⟨rfl, hb1⟩
 obtain ⟨u0, u1, u2, u3, u4, u5⟩ := (Blk.new w1 88 #[.int .i64 K.o, .int .i64 K.l, .int .i64 K.m, .slice none 0 0, .int .i64 K.base, .int .i64 K.last]).cells6
 have hB1 := bel_trans hB0 hb1
 clear y0 y1 y2 hb1
 go_wp2_with fail
 refine (HL.out _).mono ?_
 rintro e w3 ⟨rfl, hb3⟩
 go_wp2
 go_ret2
 exact ⟨rfl, by exact obB⟩

set_option maxHeartbeats 4000000 in
set_option maxRecDepth 100000 in
theorem c_prime_yes (o l m : Int) (w : World) (D : ByteArray) (hk : FitsOk (begun o l m) D) (K : Kn) (hK : K = (begun o l m).learned D.data.toList) : Calls Tryz.prog 35 #[.agg #[.int .i64 o, .int .i64 l, .int .i64 m], .string D] w fun e w' => ∃ pb fb db te, e = .returned (.tuple #[.pointer (some ⟨pb, 0, none⟩), .bool true]) ∧ WS w.heap.size pb 102 [.slice (some ⟨db, 0, none⟩) D.size D.size, .int .i64 te] (fun g => False ∨ g = db) fb (.slice none 0 0) (Wr.fresh K) w' ∧ w'.ownsRow w.heap.size 5 1 (.slice (some ⟨db, 0, none⟩) D.size D.size) D.size (D.data.toList.map vb) ∧ Below w.heap.size w w' := by
 have hset := hk.1.set
 have hKo : K.Ok := by rw [hK]; exact hk.1.learned hk.lits.1
 have hDs := hk.lits.2
 have HL := hid (fun (v : World) => c_learn_yes (begun o l m) none 0 0 v (PsAt.nil _ _) (Nat.zero_le _) D hk (begun_wf o l m))
 simp only [← hK] at HL
 have HSt := hid (fun (v : World) => c_Start_yes o l m v hset)
 have HNF := hid (fun (A2 : Option Addr) (c2 L0 : Nat) (v : World) (hp : PsAt v L0 A2 c2 K.ps) (hL0 : L0 ≤ v.heap.size) => c_newFinder K A2 c2 L0 v hKo hp hL0)
 have hB0 : Below w.heap.size w (w.alloc (.cells #[.int .i64 o, .int .i64 l, .int .i64 m] 28)) := by exact obB
 obtain ⟨y0, y1, y2⟩ := (Blk.new w 28 #[.int .i64 o, .int .i64 l, .int .i64 m]).cells3
 obtain ⟨N, hN⟩ : ∃ N, N = D.size := ⟨_, rfl⟩
 rw [← hN] at hDs ⊢
 have HN := hid hN
 have hln : (D.size : Int) = (N : Int) := by omega
 have hmk : ∀ W : World, (Instr.makeSlice 98 (.int .i64 (N : Int)) (.int .i64 (N : Int))).run Tryz.prog W = .ok (.slice (some ⟨W.heap.size, 0, none⟩) N N) (W.alloc (.cells (madeCells (Value.int .u8 0).cells (N * 1)) 5)) := fun W => by
  obtain ⟨i0, hi, hz0, hz1, hz2⟩ := info_parts Tryz.info_u8o
  have hr := run_make (P := Tryz.prog) W 98 5 i0 (.int .u8 0) Tryz.underlying98 hi hz0 .i64 .i64 N N (by omega) (Int.le_refl _) (by rw [hz2]; omega) (by omega)
  rw [hz1] at hr
  simpa only [Int.toNat_natCast] using hr
 obtain ⟨ZC, hZC⟩ : ∃ ZC, ZC = madeCells (Value.int .u8 0).cells (N * 1) := ⟨_, rfl⟩
 rw [← hZC] at hmk
 have hcs : ZC.size = N := by rw [hZC, size_madeCells, Nat.mul_one]
 have HCs := hid hcs
 clear hk hK hset hKo hN hZC hcs
 go_enter Tryz.func35, Tryz.ntmps35
 go_wp2_with fail
 refine (HSt.out _).mono ?_
 rintro e w1 ⟨rfl, hb1⟩
 obtain ⟨u0, u1, u2, u3, u4, u5⟩ := (Blk.new w1 88 #[.int .i64 o, .int .i64 l, .int .i64 m, .slice none 0 0, .int .i64 0, .int .i64 (-1)]).cells6
 have hB1 := bel_trans hB0 hb1
 have hB2 := bel_alloc hB1 (.cells #[.int .i64 o, .int .i64 l, .int .i64 m, .slice none 0 0, .int .i64 0, .int .i64 (-1)] 88)
 clear y0 y1 y2 hb1
 go_wp2_with fail
 refine (HL.out _).mono ?_
 rintro e w3 ⟨A3, c3, te, rfl, hown3, hb3⟩
 have hB3 := bel_trans hB2 hb3
 clear u0 u1 u2 u3 u4 u5 hb3 hB2 hB1 hB0
 have hB4 := bel_alloc hB3 (.cells #[.int .i64 K.o, .int .i64 K.l, .int .i64 K.m, .slice A3 K.ps.length c3, .int .i64 K.base, .int .i64 K.last] 88)
 have HP := hid ((own_ps_at hown3).alloc (Nat.le_refl _) (.cells #[.int .i64 K.o, .int .i64 K.l, .int .i64 K.m, .slice A3 K.ps.length c3, .int .i64 K.base, .int .i64 K.last] 88))
 have HKB := hid (Blk.new w3 88 #[.int .i64 K.o, .int .i64 K.l, .int .i64 K.m, .slice A3 K.ps.length c3, .int .i64 K.base, .int .i64 K.last])
 obtain ⟨kb, hkb⟩ : ∃ kb, kb = w3.heap.size := ⟨_, rfl⟩
 rw [← hkb] at HKB
 clear hown3 hB3
 go_wp2_with fail
 obtain ⟨W4, hW4⟩ : ∃ W4, W4 = w3.alloc (.cells #[.int .i64 K.o, .int .i64 K.l, .int .i64 K.m, .slice A3 K.ps.length c3, .int .i64 K.base, .int .i64 K.last] 88) := ⟨_, rfl⟩
 rw [← hW4] at hB4 HP HKB ⊢
 rw [← hkb]
 have hsz : w3.heap.size ≤ W4.heap.size := by rw [hW4, World.size_alloc]; omega
 have HP4 := hid (fun (v : World) (hb : Below W4.heap.size W4 v) => show PsAt v w3.heap.size A3 c3 K.ps ∧ w3.heap.size ≤ v.heap.size from ⟨HP.out.below hb hsz, Nat.le_trans hsz hb.size⟩)
 clear hW4 hkb HP
 have hS := HKB.out.cells6t
 refine wp_region_noPanic ?_
 refine wp_region_held_drew (S := (fun v => v.cell? ⟨kb, 0, none⟩ = some (.int .i64 K.o) ∧ v.cell? ⟨kb, 1, none⟩ = some (.int .i64 K.l) ∧ v.cell? ⟨kb, 2, none⟩ = some (.int .i64 K.m) ∧ v.cell? ⟨kb, 3, none⟩ = some (.slice A3 K.ps.length c3) ∧ v.cell? ⟨kb, 4, none⟩ = some (.int .i64 K.base) ∧ v.cell? ⟨kb, 5, none⟩ = some (.int .i64 K.last) ∧ True)) (by kernel_rfl) (t6_drew hS) (fun hHeld => ?_)
 refine tk 0 ?_
 refine tk 3 ?_
 refine tk 4 ?_
 refine tk 6 ?_
 refine wpAnyH_ready (rs := [1, 5]) (by kernel_rfl) (by simp) ?_
 refine AllReadyH.cons (o := ?or1_1) ?ir1_1 (fun K hK => ?sr1_1) (AllReadyH.cons (o := ?or1_5) ?ir1_5 (fun K hK => ?sr1_5) AllReadyH.nil)
 case ir1_1 => (simp only [List.getElem?_toArray, List.getElem?_cons_succ, List.getElem?_cons_zero]; rfl)
 case ir1_5 => (simp only [List.getElem?_toArray, List.getElem?_cons_succ, List.getElem?_cons_zero]; rfl)
 case' sr1_1 =>
  (go_simp; (go_at_call 64; refine (HNF.out A3 c3 _ _ (HP4.out _ (by exact obB)).1 (HP4.out _ (by exact obB)).2).mono ?_; rintro e wQ ⟨hbQ, fb, A9, c9, nb, c10, Nd, Lo, bm, n9, rfl, hn9, hF⟩))
  refine hK.out _ _ ?kr1_1 (fun hHeld => ?_)
  case kr1_1 => (try dsimp only); (first | with_reducible assumption | exact t6_bel (by assumption) (by assumption) | assumption | exact t6_alloc (by assumption) _)
  clear hK K
  try simp only [Act.put, List.setIfInBounds_toArray, List.set_cons_zero, List.set_cons_succ]
  refine tk 2 ?_
  refine wpAnyH_ready (rs := [5]) (by kernel_rfl) (by simp) ?_
  refine AllReadyH.cons (o := ?or1b1_5) ?ir1b1_5 (fun K hK => ?sr1b1_5) AllReadyH.nil
  case ir1b1_5 => (simp only [List.getElem?_toArray, List.getElem?_cons_succ, List.getElem?_cons_zero]; rfl)
  ((go_simp))
  refine hK.out _ _ ?kr1b1_5 (fun hHeld => ?_)
  case kr1b1_5 => (try dsimp only); (first | with_reducible assumption | exact t6_bel (by assumption) (by assumption) | assumption | exact t6_alloc (by assumption) _)
  clear hK K
  try simp only [Act.put, List.setIfInBounds_toArray, List.set_cons_zero, List.set_cons_succ]
  refine tk 7 ?_
  refine wpAnyH_ready (rs := [8]) (by kernel_rfl) (by simp) ?_
  refine AllReadyH.cons (o := ?or1b1_8) ?ir1b1_8 (fun K hK => ?sr1b1_8) AllReadyH.nil
  case ir1b1_8 => (simp only [List.getElem?_toArray, List.getElem?_cons_succ, List.getElem?_cons_zero]; rfl)
  ((go_simp))
  refine hK.out _ _ ?kr1b1_8 (fun hHeld => ?_)
  case kr1b1_8 => (try dsimp only); (first | with_reducible assumption | exact t6_bel (by assumption) (by assumption) | assumption | exact t6_alloc (by assumption) _)
  clear hK K
  try simp only [Act.put, List.setIfInBounds_toArray, List.set_cons_zero, List.set_cons_succ]
  refine tk 9 ?_
  refine wpAnyH_done (by kernel_rfl) ?_ _
  refine NoPanic.normal ?_
 case' sr1_5 =>
  ((go_simp))
  refine hK.out _ _ ?kr1_5 (fun hHeld => ?_)
  case kr1_5 => (try dsimp only); (first | with_reducible assumption | exact t6_bel (by assumption) (by assumption) | assumption | exact t6_alloc (by assumption) _)
  clear hK K
  try simp only [Act.put, List.setIfInBounds_toArray, List.set_cons_zero, List.set_cons_succ]
  refine wpAnyH_ready (rs := [1]) (by kernel_rfl) (by simp) ?_
  refine AllReadyH.cons (o := ?or1b2_1) ?ir1b2_1 (fun K hK => ?sr1b2_1) AllReadyH.nil
  case ir1b2_1 => (simp only [List.getElem?_toArray, List.getElem?_cons_succ, List.getElem?_cons_zero]; rfl)
  (go_simp; (go_at_call 64; refine (HNF.out A3 c3 _ _ (HP4.out _ (by exact obB)).1 (HP4.out _ (by exact obB)).2).mono ?_; rintro e wQ ⟨hbQ, fb, A9, c9, nb, c10, Nd, Lo, bm, n9, rfl, hn9, hF⟩))
  refine hK.out _ _ ?kr1b2_1 (fun hHeld => ?_)
  case kr1b2_1 => (try dsimp only); (first | with_reducible assumption | exact t6_bel (by assumption) (by assumption) | assumption | exact t6_alloc (by assumption) _)
  clear hK K
  try simp only [Act.put, List.setIfInBounds_toArray, List.set_cons_zero, List.set_cons_succ]
  refine tk 2 ?_
  refine tk 7 ?_
  refine wpAnyH_ready (rs := [8]) (by kernel_rfl) (by simp) ?_
  refine AllReadyH.cons (o := ?or1b2_8) ?ir1b2_8 (fun K hK => ?sr1b2_8) AllReadyH.nil
  case ir1b2_8 => (simp only [List.getElem?_toArray, List.getElem?_cons_succ, List.getElem?_cons_zero]; rfl)
  ((go_simp))
  refine hK.out _ _ ?kr1b2_8 (fun hHeld => ?_)
  case kr1b2_8 => (try dsimp only); (first | with_reducible assumption | exact t6_bel (by assumption) (by assumption) | assumption | exact t6_alloc (by assumption) _)
  clear hK K
  try simp only [Act.put, List.setIfInBounds_toArray, List.set_cons_zero, List.set_cons_succ]
  refine tk 9 ?_
  refine wpAnyH_done (by kernel_rfl) ?_ _
  refine NoPanic.normal ?_
 ·obtain ⟨pb, hpbe⟩ : ∃ pb, pb = wQ.heap.size := ⟨_, rfl⟩
  obtain ⟨db, hdbe⟩ : ∃ db, db = W4.heap.size := ⟨_, rfl⟩
  have hPr : Blk (wQ.alloc (.cells #[.pointer (some ⟨fb, 0, none⟩), .string (ByteArray.mk #[]), .slice none 0 0, .bool false, .slice (some ⟨db, 0, none⟩) N N, .int .i64 te] 102)) pb 102 #[.pointer (some ⟨fb, 0, none⟩), .string (ByteArray.mk #[]), .slice none 0 0, .bool false, .slice (some ⟨db, 0, none⟩) N N, .int .i64 te] := by rw [hpbe]; exact Blk.new wQ _ _
  have hDr : Blk (wQ.alloc (.cells #[.pointer (some ⟨fb, 0, none⟩), .string (ByteArray.mk #[]), .slice none 0 0, .bool false, .slice (some ⟨db, 0, none⟩) N N, .int .i64 te] 102)) db 5 ZC := by rw [hdbe]; exact (((Blk.new W4 5 ZC).drew).on hbQ).alloc _
  have hbelQ : Below w.heap.size w wQ := bel_trans (bel_drew (bel_alloc hB4 (.cells ZC 5))) hbQ
  have hbel9 : Below w.heap.size w (wQ.alloc (.cells #[.pointer (some ⟨fb, 0, none⟩), .string (ByteArray.mk #[]), .slice none 0 0, .bool false, .slice (some ⟨db, 0, none⟩) N N, .int .i64 te] 102)) := bel_alloc hbelQ _
  have hFA : FAt w.heap.size fb K (wQ.alloc (.cells #[.pointer (some ⟨fb, 0, none⟩), .string (ByteArray.mk #[]), .slice none 0 0, .bool false, .slice (some ⟨db, 0, none⟩) N N, .int .i64 te] 102)) := (show FAt w.heap.size fb K wQ from ⟨A9, c9, nb, c10, Nd, Lo, bm, n9, hn9, hF.low (bel_drew (bel_alloc hB4 (.cells ZC 5))).size⟩).on (bel_alloc (Below.refl _ wQ) _)
  have hpb : w.heap.size ≤ pb := by rw [hpbe]; exact hbelQ.size
  have hdb : w.heap.size ≤ db := by rw [hdbe]; exact hB4.size
  rw [← hpbe, ← hdbe]
  obtain ⟨W9, hW9⟩ : ∃ W9, W9 = wQ.alloc (.cells #[.pointer (some ⟨fb, 0, none⟩), .string (ByteArray.mk #[]), .slice none 0 0, .bool false, .slice (some ⟨db, 0, none⟩) N N, .int .i64 te] 102) := ⟨_, rfl⟩
  rw [← hW9] at hPr hDr hbel9 hFA ⊢
  clear hW9 hpbe hdbe hbelQ hF hn9 hbQ
  have HDr := hid hDr
  have HPr := hid hPr
  have hcs := HCs.out
  have hcp : ∀ ty, (Builtin.copy_ #[ 98, 9 ] ty #[.slice (some ⟨db, 0, none⟩) N N, .string D]).run Tryz.prog W9 = .ok (goInt D.size) (W9.setRow db (Lib.byteCells D.data.toList).toArray) := fun ty => by
   have h := Lib.run_copy_row_string (P := Tryz.prog) W9 98 9 ty 5 db 0 N N D ZC 5 Tryz.underlying98 (by obtain ⟨i0, hi, hz0, hz1, hz2⟩ := info_parts Tryz.info_u8o; rw [hi]; simp [hz1]) HDr.out (by have := HN.out; omega) (by have := HN.out; omega)
   rw [h]
   have e1 : (ZC.toList.take 0 ++ Lib.byteCells D.data.toList ++ ZC.toList.drop (0 + D.size)) = Lib.byteCells D.data.toList := by
    rw [List.drop_of_length_le (by have := HN.out; simp; omega)]; simp
   rw [e1]
  have hgr : W9.grownBy (W9.setRow db (Lib.byteCells D.data.toList).toArray) (some db) := ⟨rfl, rfl, rfl, by simp [World.setRow], fun k _ hk => setRow_other W9 db k _ (fun e => hk (by simp [e]))⟩
  have hws0 : WS w.heap.size pb 102 [.slice (some ⟨db, 0, none⟩) N N, .int .i64 te] (fun _ => False) fb (.slice none 0 0) (Wr.fresh K) W9 := ⟨hPr, ownO_nil _ _ _, hFA, fun g hg => by simp [Value.ownBlock] at hg, fun g hg => hg.elim, hpb⟩
  obtain ⟨hws1, _⟩ := hws0.other (Or.inr rfl) hgr (fun g hg => by
   obtain rfl := Option.some.inj hg
   exact ⟨⟨_, HDr.out⟩, by simp [Value.ownBlock], fun e => e⟩)
  have hlt10 : db < (W9.setRow db (Lib.byteCells D.data.toList).toArray).heap.size := by have := hgr.size; have := HDr.out.lt; omega
  have HWS := hid (hws1.more (fun g => g = db) (fun g hg => ⟨by rw [hg]; exact hlt10, by simp [Value.ownBlock]⟩))
  have HOw := hid (show (W9.setRow db (Lib.byteCells D.data.toList).toArray).ownsRow w.heap.size 5 1 (.slice (some ⟨db, 0, none⟩) N N) N (D.data.toList.map vb) by
   have hh := setRow_heap W9 db ZC (Lib.byteCells D.data.toList).toArray 5 (0, 0) HDr.out
   refine ⟨by rw [List.length_map, len_toList, HN.out]; omega, Or.inr ⟨db, N, _, rfl, hdb, hh, Nat.le_refl _, by unfold maxLen; omega, by simp [Lib.byteCells_length]; have := HN.out; omega, ?_⟩⟩
   rw [List.take_of_length_le (by simp [Lib.byteCells_length]; have := HN.out; omega)]
   rfl)
  have HBe := hid (hbel9.trans (below_of_grown hgr hbel9.size (fun g hg => by obtain rfl := Option.some.inj hg; exact hdb)))
  have p4 : W9.cell? ⟨pb, 4, none⟩ = some (.slice (some ⟨db, 0, none⟩) N N) := HPr.out.cell 4
  clear hDr hPr hws0 hws1 hgr hlt10 hFA hcs hbel9
  go_wp2
  go_ret2
  exact ⟨pb, fb, db, te, rfl, HWS.out, HOw.out, HBe.out⟩
 ·obtain ⟨pb, hpbe⟩ : ∃ pb, pb = wQ.heap.size + 1 := ⟨_, rfl⟩
  obtain ⟨db, hdbe⟩ : ∃ db, db = wQ.heap.size := ⟨_, rfl⟩
  have hPr : Blk ((wQ.alloc (.cells ZC 5)).alloc (.cells #[.pointer (some ⟨fb, 0, none⟩), .string (ByteArray.mk #[]), .slice none 0 0, .bool false, .slice (some ⟨db, 0, none⟩) N N, .int .i64 te] 102)) pb 102 #[.pointer (some ⟨fb, 0, none⟩), .string (ByteArray.mk #[]), .slice none 0 0, .bool false, .slice (some ⟨db, 0, none⟩) N N, .int .i64 te] := by rw [hpbe]; have := Blk.new (wQ.alloc (.cells ZC 5)) 102 #[.pointer (some ⟨fb, 0, none⟩), .string (ByteArray.mk #[]), .slice none 0 0, .bool false, .slice (some ⟨db, 0, none⟩) N N, .int .i64 te]; rw [World.size_alloc] at this; exact this
  have hDr : Blk ((wQ.alloc (.cells ZC 5)).alloc (.cells #[.pointer (some ⟨fb, 0, none⟩), .string (ByteArray.mk #[]), .slice none 0 0, .bool false, .slice (some ⟨db, 0, none⟩) N N, .int .i64 te] 102)) db 5 ZC := by rw [hdbe]; exact (Blk.new wQ 5 ZC).alloc _
  have hbelQ : Below w.heap.size w wQ := bel_trans (bel_drew hB4) hbQ
  have hbel9 : Below w.heap.size w ((wQ.alloc (.cells ZC 5)).alloc (.cells #[.pointer (some ⟨fb, 0, none⟩), .string (ByteArray.mk #[]), .slice none 0 0, .bool false, .slice (some ⟨db, 0, none⟩) N N, .int .i64 te] 102)) := bel_alloc (bel_alloc hbelQ _) _
  have hFA : FAt w.heap.size fb K ((wQ.alloc (.cells ZC 5)).alloc (.cells #[.pointer (some ⟨fb, 0, none⟩), .string (ByteArray.mk #[]), .slice none 0 0, .bool false, .slice (some ⟨db, 0, none⟩) N N, .int .i64 te] 102)) := (show FAt w.heap.size fb K wQ from ⟨A9, c9, nb, c10, Nd, Lo, bm, n9, hn9, hF.low hB4.size⟩).on (bel_alloc (bel_alloc (Below.refl _ wQ) _) _)
  have hpb : w.heap.size ≤ pb := by rw [hpbe]; have := hbelQ.size; omega
  have hdb : w.heap.size ≤ db := by rw [hdbe]; exact hbelQ.size
  rw [← hpbe, ← hdbe]
  obtain ⟨W9, hW9⟩ : ∃ W9, W9 = (wQ.alloc (.cells ZC 5)).alloc (.cells #[.pointer (some ⟨fb, 0, none⟩), .string (ByteArray.mk #[]), .slice none 0 0, .bool false, .slice (some ⟨db, 0, none⟩) N N, .int .i64 te] 102) := ⟨_, rfl⟩
  rw [← hW9] at hPr hDr hbel9 hFA ⊢
  clear hW9 hpbe hdbe hbelQ hF hn9 hbQ
  have HDr := hid hDr
  have HPr := hid hPr
  have hcs := HCs.out
  have hcp : ∀ ty, (Builtin.copy_ #[ 98, 9 ] ty #[.slice (some ⟨db, 0, none⟩) N N, .string D]).run Tryz.prog W9 = .ok (goInt D.size) (W9.setRow db (Lib.byteCells D.data.toList).toArray) := fun ty => by
   have h := Lib.run_copy_row_string (P := Tryz.prog) W9 98 9 ty 5 db 0 N N D ZC 5 Tryz.underlying98 (by obtain ⟨i0, hi, hz0, hz1, hz2⟩ := info_parts Tryz.info_u8o; rw [hi]; simp [hz1]) HDr.out (by have := HN.out; omega) (by have := HN.out; omega)
   rw [h]
   have e1 : (ZC.toList.take 0 ++ Lib.byteCells D.data.toList ++ ZC.toList.drop (0 + D.size)) = Lib.byteCells D.data.toList := by
    rw [List.drop_of_length_le (by have := HN.out; simp; omega)]; simp
   rw [e1]
  have hgr : W9.grownBy (W9.setRow db (Lib.byteCells D.data.toList).toArray) (some db) := ⟨rfl, rfl, rfl, by simp [World.setRow], fun k _ hk => setRow_other W9 db k _ (fun e => hk (by simp [e]))⟩
  have hws0 : WS w.heap.size pb 102 [.slice (some ⟨db, 0, none⟩) N N, .int .i64 te] (fun _ => False) fb (.slice none 0 0) (Wr.fresh K) W9 := ⟨hPr, ownO_nil _ _ _, hFA, fun g hg => by simp [Value.ownBlock] at hg, fun g hg => hg.elim, hpb⟩
  obtain ⟨hws1, _⟩ := hws0.other (Or.inr rfl) hgr (fun g hg => by
   obtain rfl := Option.some.inj hg
   exact ⟨⟨_, HDr.out⟩, by simp [Value.ownBlock], fun e => e⟩)
  have hlt10 : db < (W9.setRow db (Lib.byteCells D.data.toList).toArray).heap.size := by have := hgr.size; have := HDr.out.lt; omega
  have HWS := hid (hws1.more (fun g => g = db) (fun g hg => ⟨by rw [hg]; exact hlt10, by simp [Value.ownBlock]⟩))
  have HOw := hid (show (W9.setRow db (Lib.byteCells D.data.toList).toArray).ownsRow w.heap.size 5 1 (.slice (some ⟨db, 0, none⟩) N N) N (D.data.toList.map vb) by
   have hh := setRow_heap W9 db ZC (Lib.byteCells D.data.toList).toArray 5 (0, 0) HDr.out
   refine ⟨by rw [List.length_map, len_toList, HN.out]; omega, Or.inr ⟨db, N, _, rfl, hdb, hh, Nat.le_refl _, by unfold maxLen; omega, by simp [Lib.byteCells_length]; have := HN.out; omega, ?_⟩⟩
   rw [List.take_of_length_le (by simp [Lib.byteCells_length]; have := HN.out; omega)]
   rfl)
  have HBe := hid (hbel9.trans (below_of_grown hgr hbel9.size (fun g hg => by obtain rfl := Option.some.inj hg; exact hdb)))
  have p4 : W9.cell? ⟨pb, 4, none⟩ = some (.slice (some ⟨db, 0, none⟩) N N) := HPr.out.cell 4
  clear hDr hPr hws0 hws1 hgr hlt10 hFA hcs hbel9
  go_wp2
  go_ret2
  exact ⟨pb, fb, db, te, rfl, HWS.out, HOw.out, HBe.out⟩
end

section
open Go.ChangeShapes Go.WideShapes Go.ChangeAt Go.RowKit Go.Joins
set_option linter.unusedVariables false

theorem c_sCompressWith_bad (o l m : Int) (w : World) (D T : ByteArray) (hk : FitsOk (begun o l m) D) (K : Kn) (hK : K = ((begun o l m).learned D.data.toList)) (hT : T.size ≤ maxLen) (hu : ¬ FitsOk K T) : Calls Tryz.prog 61 #[.agg #[.int .i64 o, .int .i64 l, .int .i64 m], .string D, .string T] w fun e w' => e = .returned (.tuple #[.string ByteArray.empty, .bool false]) ∧ Below w.heap.size w w' := by
 have hB0 : Below w.heap.size w (w.alloc (.cells #[.int .i64 o, .int .i64 l, .int .i64 m] 28)) := by exact obB
 obtain ⟨y0, y1, y2⟩ := (Blk.new w 28 #[.int .i64 o, .int .i64 l, .int .i64 m]).cells3
 have hw : K.Wf := by rw [hK]; exact (hk.1.learned hk.lits.1).wf
 have HSt := hid (fun (v : World) => c_sStartWith_yes o l m v D hk)
 simp only [← hK] at HSt
 have HDc := hid (fun (A2 : Option Addr) (c2 : Nat) (v : World) (hp : PsAt v v.heap.size A2 c2 K.ps) => c_sCompress_no K A2 c2 v.heap.size v hp (Nat.le_refl _) T hT hu hw)
 clear hk hK hw hu
 go_enter Tryz.func61, Tryz.ntmps61
 go_wp2_with fail
 refine (HSt.out _).mono ?_
 rintro e w1 ⟨A', cap', rfl, hown, hb1⟩
 have hB1 := bel_trans hB0 hb1
 have HP := hid ((own_ps_at hown).alloc (Nat.le_refl _) (.cells #[.int .i64 K.o, .int .i64 K.l, .int .i64 K.m, .slice A' K.ps.length cap', .int .i64 K.base, .int .i64 K.last] 88))
 obtain ⟨u0, u1, u2, u3, u4, u5⟩ := (Blk.new w1 88 #[.int .i64 K.o, .int .i64 K.l, .int .i64 K.m, .slice A' K.ps.length cap', .int .i64 K.base, .int .i64 K.last]).cells6
 clear hown y0 y1 y2 hb1
 go_wp2_with fail
 refine (HDc.out _ _ _ (HP.out.mono (by simp))).mono ?_
 rintro e w2 ⟨rfl, hb2⟩
 go_wp2
 exact bodyPost_ret (v := .tuple #[.string ByteArray.empty, .bool false]) (by simp [results, Tryz.results61, go_sem]) rfl ⟨rfl, by exact obB⟩

theorem c_sCompressWith_yes (o l m : Int) (w : World) (D T : ByteArray) (hk : FitsOk (begun o l m) D) (K : Kn) (hK : K = ((begun o l m).learned D.data.toList)) (hu : FitsOk K T) : Calls Tryz.prog 61 #[.agg #[.int .i64 o, .int .i64 l, .int .i64 m], .string D, .string T] w fun e w' => e = .returned (.tuple #[.string (K.packed (K.greedy T.data.toList)), .bool true]) ∧ Below w.heap.size w w' := by
 have hB0 : Below w.heap.size w (w.alloc (.cells #[.int .i64 o, .int .i64 l, .int .i64 m] 28)) := by exact obB
 obtain ⟨y0, y1, y2⟩ := (Blk.new w 28 #[.int .i64 o, .int .i64 l, .int .i64 m]).cells3
 have hw : K.Wf := by rw [hK]; exact (hk.1.learned hk.lits.1).wf
 have HSt := hid (fun (v : World) => c_sStartWith_yes o l m v D hk)
 simp only [← hK] at HSt
 have HDc := hid (fun (A2 : Option Addr) (c2 : Nat) (v : World) (hp : PsAt v v.heap.size A2 c2 K.ps) => c_sCompress_yes K A2 c2 v.heap.size v hp (Nat.le_refl _) T hu hw)
 obtain ⟨X, hX⟩ : ∃ X, X = K.packed (K.greedy T.data.toList) := ⟨_, rfl⟩
 simp only [← hX] at HDc ⊢
 clear hX
 clear hk hK hw hu
 go_enter Tryz.func61, Tryz.ntmps61
 go_wp2_with fail
 refine (HSt.out _).mono ?_
 rintro e w1 ⟨A', cap', rfl, hown, hb1⟩
 have hB1 := bel_trans hB0 hb1
 have HP := hid ((own_ps_at hown).alloc (Nat.le_refl _) (.cells #[.int .i64 K.o, .int .i64 K.l, .int .i64 K.m, .slice A' K.ps.length cap', .int .i64 K.base, .int .i64 K.last] 88))
 obtain ⟨u0, u1, u2, u3, u4, u5⟩ := (Blk.new w1 88 #[.int .i64 K.o, .int .i64 K.l, .int .i64 K.m, .slice A' K.ps.length cap', .int .i64 K.base, .int .i64 K.last]).cells6
 clear hown y0 y1 y2 hb1
 go_wp2_with fail
 refine (HDc.out _ _ _ (HP.out.mono (by simp))).mono ?_
 rintro e w2 ⟨rfl, hb2⟩
 go_wp2
 exact bodyPost_ret (v := .tuple #[.string X, .bool true]) (by simp [results, Tryz.results61, go_sem]) rfl ⟨rfl, by exact obB⟩
end
end Go.Proofs.YtmlaaammfnboiaaGreatDoor
