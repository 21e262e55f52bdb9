/- Plain mathematics: a writer, from the data that comes in to the bits that go out. No condition. -/
import Derived.Test.YtfklkepodpcdgaaGm
import Derived.Test.YtfklkepodpcdgaaBs
import Derived.Test.YtfklkepodpcdgaaBj
namespace Go.Proofs.Ytfklkepodpcdgaa
set_option linter.unusedVariables false
set_option linter.unusedSimpArgs false

theorem Kn.bl_app (k : Kn) (cs rest : List Int) : k.bl (cs ++ rest) = k.bl cs ++ (k.run cs).bl rest := by
  induction cs generalizing k with
  | nil => rfl
  | cons a t ih => simp [Kn.bl, Kn.run, ih, List.append_assoc]
theorem Kn.run_app (k : Kn) (cs rest : List Int) : k.run (cs ++ rest) = (k.run cs).run rest := by
  induction cs generalizing k with
  | nil => rfl
  | cons a t ih => simp [Kn.run, ih]
theorem Kn.bl_snoc (k : Kn) (cs : List Int) (code : Int) : k.bl (cs ++ [code]) = k.bl cs ++ (k.run cs).cb code := by
  rw [Kn.bl_app]; simp [Kn.bl]
theorem M.asc_app (a b : List Bool) : M.asc (a ++ b) = M.asc a ++ M.asc b := by simp [M.asc]
theorem M.asc_len (a : List Bool) : (M.asc a).length = a.length := by simp [M.asc]
theorem M.asc_all (a : List Bool) : (M.asc a).all isBit = true := by
  induction a with
  | nil => rfl
  | cons x t ih => simp only [M.asc, List.map_cons, List.all_cons, chr_bit, Bool.true_and] at *; exact ih
theorem M.pack_app (h : Bool) (a b : List Bool) (ha : a.length % 8 = 0) : M.pack h (a ++ b) = M.pack h a ++ M.pack h b := by
  obtain ⟨n, hn⟩ : ∃ n, a.length = 8 * n := ⟨a.length / 8, by omega⟩
  have e1 : (a ++ b).length = 8 * n + b.length := by rw [List.length_append, hn]
  rw [M.pack, M.pack, M.pack, e1, hn, show (8 * n + b.length + 7) / 8 = n + (b.length + 7) / 8 from by omega, show (8 * n + 7) / 8 = n from by omega, M.packN_append h n _ a b hn]
theorem packS_app (o : Int) (a b : List UInt8) (ha : a.length % 8 = 0) : packS o (str a) ++ packS o (str b) = packS o (str (a ++ b)) := by
  have e : ∀ l : List UInt8, bitsL (str l) = l.map M.bit := fun l => by rw [bitsL, str_list]
  rw [packS, packS, packS, e, e, e, List.map_append, M.pack_app _ _ _ (by rw [List.length_map]; exact ha), str_append]

/-- a writer: what is known, data that has no code yet, bits, whether it has begun -/
structure Wr where
  k : Kn
  p : List UInt8
  b : List UInt8
  g : Bool
namespace Wr
def put (x : Wr) (code : Int) : Wr := { x with b := x.b ++ M.asc (x.k.cb code), k := if code = x.k.c + 1 then x.k else x.k.step code }
def start (x : Wr) : Wr := if x.g = true then x else { x.put x.k.c with g := true }
def one (x : Wr) : Wr := { x.put (x.k.code1 x.p) with p := x.p.drop (x.k.lng x.p) }
def room (x : Wr) : Wr := if x.k.need then x.put x.k.c else x
def loop : Nat → Wr → Wr
  | 0, x => x
  | f + 1, x => if x.k.lng x.p = x.p.length then x else loop f x.one.room
def write (x : Wr) (d : List UInt8) : Wr := if d = [] then x else loop (x.p.length + d.length) { x.start with p := x.p ++ d }
def last (x : Wr) : Wr := if x.p = [] then x else { x.put (x.k.code1 x.p) with p := [] }
def close (x : Wr) : Wr := x.start.last.put (x.start.last.k.c + 1)
def cut (x : Wr) (n : Nat) : Wr := { x with b := x.b.drop n }
def phi (x : Wr) : Nat := 2 * x.b.length + 30 * x.p.length + 10 * x.k.phi
structure Go (x : Wr) : Prop where
  ok : x.k.Ok
  lit : Lits x.k.c x.p
  bit : x.b.all isBit = true
theorem put_clear (x : Wr) : x.put x.k.c = { x with b := x.b ++ M.asc (x.k.cb x.k.c), k := x.k.cleared } := by
  unfold put
  rw [if_neg (by omega), Kn.step_clear]
theorem put_code (x : Wr) (h : x.k.Ok) {code : Int} (hc : x.k.Fol code) : x.put code = { x with b := x.b ++ M.asc (x.k.cb code), k := x.k.after code } := by
  unfold put
  rw [if_neg (h.code1_ne hc).2, Kn.step_fol h hc]
theorem put_end (x : Wr) : x.put (x.k.c + 1) = { x with b := x.b ++ M.asc (x.k.cb (x.k.c + 1)) } := by
  unfold put
  rw [if_pos rfl]
theorem cb_le {k : Kn} (h : k.Ok) (code : Int) : (M.asc (k.cb code)).length ≤ 10 := by
  rw [M.asc_len, Kn.cb_len]
  have := h.width_bd
  omega
theorem Go.put {x : Wr} (h : x.Go) {code : Int} (hc : code = x.k.c ∨ code = x.k.c + 1 ∨ x.k.Fol code) : (x.put code).Go ∧ (x.put code).p = x.p ∧ (x.put code).g = x.g ∧ (x.put code).k.c = x.k.c ∧ (x.put code).k.o = x.k.o ∧ (x.put code).k.l = x.k.l ∧ (x.put code).k.m = x.k.m ∧ (x.put code).k.base = x.k.base ∧ (x.put code).b.length ≤ x.b.length + 10 := by
  have hb : (x.b ++ M.asc (x.k.cb code)).all isBit = true := by rw [List.all_append, h.bit, M.asc_all]; rfl
  have hl : (x.b ++ M.asc (x.k.cb code)).length ≤ x.b.length + 10 := by rw [List.length_append]; have := cb_le h.ok code; omega
  by_cases he : code = x.k.c + 1
  · subst he
    rw [put_end]
    exact ⟨⟨h.ok, h.lit, hb⟩, rfl, rfl, rfl, rfl, rfl, rfl, rfl, hl⟩
  · have hc2 : code = x.k.c ∨ x.k.Fol code := by
      rcases hc with h1 | h1 | h1
      · exact Or.inl h1
      · exact absurd h1 he
      · exact Or.inr h1
    unfold Wr.put
    rw [if_neg he]
    exact ⟨⟨h.ok.step hc2, by show Lits (x.k.step code).c x.p; rw [Kn.step_c]; exact h.lit, hb⟩, rfl, rfl, Kn.step_c _ _, Kn.step_o _ _, Kn.step_l _ _, Kn.step_m _ _, Kn.step_base _ _, hl⟩
theorem Go.start {x : Wr} (h : x.Go) : x.start.Go ∧ x.start.p = x.p ∧ x.start.g = true ∧ x.start.k.c = x.k.c ∧ x.start.k.o = x.k.o ∧ x.start.k.l = x.k.l ∧ x.start.k.m = x.k.m ∧ x.start.b.length ≤ x.b.length + 10 := by
  unfold Wr.start
  by_cases hg : x.g = true
  · rw [if_pos hg]
    exact ⟨h, rfl, hg, rfl, rfl, rfl, rfl, by omega⟩
  · rw [if_neg hg]
    obtain ⟨h1, h2, h3, h4, h5, h6, h7, h8, h9⟩ := h.put (Or.inl rfl)
    exact ⟨⟨h1.ok, h1.lit, h1.bit⟩, h2, rfl, h4, h5, h6, h7, h9⟩
theorem phi_le (k : Kn) : k.phi ≤ 2 := by
  unfold Kn.phi
  split
  · split <;> omega
  · omega
theorem Go.one {x : Wr} (h : x.Go) (hp : x.p ≠ []) : x.one.Go ∧ x.one.phi ≤ x.phi ∧ x.one.p.length < x.p.length ∧ x.one.g = x.g ∧ x.one.k.c = x.k.c ∧ x.one.k.o = x.k.o ∧ x.one.k.l = x.k.l ∧ x.one.k.m = x.k.m ∧ x.one.k.base = x.k.base ∧ x.one.b.length ≤ x.b.length + 10 := by
  obtain ⟨h1, h2, h3, h4⟩ := h.ok.code1 hp h.lit
  obtain ⟨g1, g2, g3, g4, g5, g6, g7, g8, g9⟩ := h.put (Or.inr (Or.inr h1))
  have e : (x.put (x.k.code1 x.p)).k = x.k.after (x.k.code1 x.p) := by rw [put_code x h.ok h1]
  have hph := h.ok.phi_after h1
  have hd : (x.p.drop (x.k.lng x.p)).length = x.p.length - x.k.lng x.p := List.length_drop ..
  refine ⟨⟨g1.ok, ?_, g1.bit⟩, ?_, ?_, g3, g4, g5, g6, g7, g8, g9⟩
  · show Lits (x.put (x.k.code1 x.p)).k.c (x.p.drop (x.k.lng x.p))
    rw [g4]
    exact h.lit.drop _
  · show 2 * (x.put (x.k.code1 x.p)).b.length + 30 * (x.p.drop (x.k.lng x.p)).length + 10 * (x.put (x.k.code1 x.p)).k.phi ≤ 2 * x.b.length + 30 * x.p.length + 10 * x.k.phi
    rw [e, hd]
    omega
  · show (x.p.drop (x.k.lng x.p)).length < x.p.length
    omega
theorem Go.room {x : Wr} (h : x.Go) : x.room.Go ∧ x.room.phi ≤ x.phi ∧ x.room.p = x.p ∧ x.room.g = x.g ∧ x.room.k.c = x.k.c ∧ x.room.k.o = x.k.o ∧ x.room.k.l = x.k.l ∧ x.room.k.m = x.k.m ∧ x.room.k.base = x.k.base ∧ ¬ x.room.k.need := by
  unfold Wr.room
  by_cases hn : x.k.need
  · rw [if_pos hn]
    obtain ⟨g1, g2, g3, g4, g5, g6, g7, g8, g9⟩ := h.put (Or.inl rfl)
    have e : (x.put x.k.c).k = x.k.cleared := by rw [put_clear]
    have h0 : x.k.cleared.phi = 0 := by
      have h1 := h.ok.base0
      have h2 := h.ok.base1
      have : ((x.k.ps.take x.k.base.toNat).length : Int) = x.k.base := by rw [List.length_take]; omega
      unfold Kn.phi Kn.cleared
      simp only [this, if_true]
    have h2 : x.k.phi = 2 := by
      unfold Kn.phi
      rw [if_neg (by have := hn.2; omega)]
    refine ⟨g1, ?_, g2, g3, g4, g5, g6, g7, g8, by rw [e]; exact h.ok.cleared_need⟩
    unfold Wr.phi
    rw [e, h0, h2, g2]
    omega
  · rw [if_neg hn]
    exact ⟨h, Nat.le_refl _, rfl, rfl, rfl, rfl, rfl, rfl, rfl, hn⟩
/-- what holds all along while words are written -/
structure Sv (x y : Wr) : Prop where
  go : y.Go
  ph : y.phi ≤ x.phi
  g : y.g = x.g
  c : y.k.c = x.k.c
  o : y.k.o = x.k.o
  l : y.k.l = x.k.l
  m : y.k.m = x.k.m
  ne : y.p ≠ []
theorem Sv.refl {x : Wr} (h : x.Go) (hp : x.p ≠ []) : Sv x x := ⟨h, Nat.le_refl _, rfl, rfl, rfl, rfl, rfl, hp⟩
theorem drop_ne {l : List UInt8} {n : Nat} (h : n < l.length) : l.drop n ≠ [] := by
  intro e
  have := congrArg List.length e
  simp at this
  omega
theorem Go.more {x : Wr} (h : x.Go) (hp : x.p ≠ []) (hl : x.k.lng x.p ≠ x.p.length) : x.one.p ≠ [] := by
  obtain ⟨h1, h2, h3, h4⟩ := h.ok.code1 hp h.lit
  exact drop_ne (by omega)
theorem Sv.next {x y : Wr} (h : Sv x y) (hl : y.k.lng y.p ≠ y.p.length) : Sv x y.one.room ∧ y.one.room.p.length < y.p.length := by
  obtain ⟨a1, a2, a3, a4, a5, a6, a7, a8, a9, a10⟩ := h.go.one h.ne
  obtain ⟨b1, b2, b3, b4, b5, b6, b7, b8, b9, b10⟩ := a1.room
  refine ⟨⟨b1, Nat.le_trans b2 (Nat.le_trans a2 h.ph), ?_, ?_, ?_, ?_, ?_, ?_⟩, ?_⟩
  · rw [b4, a4, h.g]
  · rw [b5, a5, h.c]
  · rw [b6, a6, h.o]
  · rw [b7, a7, h.l]
  · rw [b8, a8, h.m]
  · rw [b3]; exact h.go.more h.ne hl
  · rw [b3]; exact a3
theorem Sv.loop : ∀ (f : Nat) {x y : Wr}, Sv x y → y.p.length ≤ f → Sv x (Wr.loop f y) ∧ (Wr.loop f y).k.lng (Wr.loop f y).p = (Wr.loop f y).p.length
  | 0, x, y, h, hf => by
    have := h.ne
    cases hy : y.p with
    | nil => exact absurd hy this
    | cons a t => rw [hy] at hf; simp at hf
  | f + 1, x, y, h, hf => by
    unfold Wr.loop
    by_cases hl : y.k.lng y.p = y.p.length
    · rw [if_pos hl]
      exact ⟨h, hl⟩
    · rw [if_neg hl]
      obtain ⟨h1, h2⟩ := h.next hl
      exact Sv.loop f h1 (by omega)
theorem loop_more : ∀ (f : Nat) {x y : Wr}, Sv x y → y.p.length ≤ f → ∀ f', y.p.length ≤ f' → Wr.loop f y = Wr.loop f' y
  | 0, x, y, h, hf, f', hf' => by
    have := h.ne
    cases hy : y.p with
    | nil => exact absurd hy this
    | cons a t => rw [hy] at hf; simp at hf
  | f + 1, x, y, h, hf, 0, hf' => by
    have := h.ne
    cases hy : y.p with
    | nil => exact absurd hy this
    | cons a t => rw [hy] at hf'; simp at hf'
  | f + 1, x, y, h, hf, f' + 1, hf' => by
    unfold Wr.loop
    by_cases hl : y.k.lng y.p = y.p.length
    · rw [if_pos hl, if_pos hl]
    · rw [if_neg hl, if_neg hl]
      obtain ⟨h1, h2⟩ := h.next hl
      exact loop_more f h1 (by omega) f' (by omega)
theorem Go.last {x : Wr} (h : x.Go) : x.last.Go ∧ x.last.p = [] ∧ x.last.g = x.g ∧ x.last.k.c = x.k.c ∧ x.last.k.o = x.k.o ∧ x.last.k.l = x.k.l ∧ x.last.k.m = x.k.m ∧ x.last.b.length ≤ x.b.length + 10 := by
  unfold Wr.last
  by_cases hp : x.p = []
  · rw [if_pos hp]
    exact ⟨h, hp, rfl, rfl, rfl, rfl, rfl, by omega⟩
  · rw [if_neg hp]
    obtain ⟨h1, h2, h3, h4⟩ := h.ok.code1 hp h.lit
    obtain ⟨g1, g2, g3, g4, g5, g6, g7, g8, g9⟩ := h.put (Or.inr (Or.inr h1))
    exact ⟨⟨g1.ok, fun b hb => by simp at hb, g1.bit⟩, rfl, g3, g4, g5, g6, g7, g9⟩
/-- what a cut of the bits turns -/
theorem put_cut (x : Wr) (n : Nat) (hn : n ≤ x.b.length) (code : Int) : (x.cut n).put code = (x.put code).cut n := by
  unfold Wr.put Wr.cut
  simp only [List.drop_append_of_le_length hn]
theorem put_b (x : Wr) (code : Int) : x.b.length ≤ (x.put code).b.length := by unfold Wr.put; simp
theorem start_cut (x : Wr) (n : Nat) (hn : n ≤ x.b.length) : (x.cut n).start = x.start.cut n := by
  unfold Wr.start
  by_cases hg : x.g = true
  · rw [if_pos hg, if_pos (show (x.cut n).g = true from hg)]
  · rw [if_neg hg, if_neg (show ¬ (x.cut n).g = true from hg)]
    show ({ (x.cut n).put x.k.c with g := true } : Wr) = _
    rw [put_cut x n hn]
    rfl
theorem start_b (x : Wr) : x.b.length ≤ x.start.b.length := by
  unfold Wr.start
  by_cases hg : x.g = true
  · rw [if_pos hg]; exact Nat.le_refl _
  · rw [if_neg hg]; exact put_b x _
theorem last_cut (x : Wr) (n : Nat) (hn : n ≤ x.b.length) : (x.cut n).last = x.last.cut n := by
  unfold Wr.last
  by_cases hp : x.p = []
  · rw [if_pos hp, if_pos (show (x.cut n).p = [] from hp)]
  · rw [if_neg hp, if_neg (show ¬ (x.cut n).p = [] from hp)]
    show ({ (x.cut n).put (x.k.code1 x.p) with p := [] } : Wr) = _
    rw [put_cut x n hn]
    rfl
theorem last_b (x : Wr) : x.b.length ≤ x.last.b.length := by
  unfold Wr.last
  by_cases hp : x.p = []
  · rw [if_pos hp]; exact Nat.le_refl _
  · rw [if_neg hp]; exact put_b x _
theorem close_cut (x : Wr) (n : Nat) (hn : n ≤ x.b.length) : (x.cut n).close = x.close.cut n := by
  have h1 := start_b x
  have h2 := last_b x.start
  unfold Wr.close
  rw [start_cut x n hn, last_cut x.start n (by omega)]
  show (x.start.last.cut n).put (x.start.last.k.c + 1) = _
  rw [put_cut _ n (by omega)]
theorem close_grow (x : Wr) : ∃ t, x.close.b = x.b ++ t := by
  have h1 : ∀ (y : Wr) (code : Int), ∃ t, (y.put code).b = y.b ++ t := fun y code => ⟨_, rfl⟩
  have h2 : ∃ t, x.start.b = x.b ++ t := by
    unfold Wr.start
    by_cases hg : x.g = true
    · rw [if_pos hg]; exact ⟨[], by simp⟩
    · rw [if_neg hg]; exact h1 x _
  have h3 : ∃ t, x.start.last.b = x.start.b ++ t := by
    unfold Wr.last
    by_cases hp : x.start.p = []
    · rw [if_pos hp]; exact ⟨[], by simp⟩
    · rw [if_neg hp]; exact h1 x.start _
  obtain ⟨t2, h2⟩ := h2
  obtain ⟨t3, h3⟩ := h3
  obtain ⟨t1, h1⟩ := h1 x.start.last (x.start.last.k.c + 1)
  exact ⟨t2 ++ (t3 ++ t1), by unfold Wr.close; rw [h1, h3, h2, List.append_assoc, List.append_assoc]⟩
end Wr

/-! ### all data from the beginning: the codes of the longest words -/
structure WI (k0 : Kn) (D : List UInt8) (x : Wr) (cs : List Int) (s f : Nat) : Prop where
  gi : GI k0 D cs x.k s f
  run : x.k = k0.run cs
  b : x.b = M.asc (k0.bl cs)
  p : x.p = D.drop s
section
variable {k0 : Kn} {D : List UInt8} {x : Wr} {cs : List Int} {s f : Nat}

theorem WI.snoc (h : WI k0 D x cs s f) (code : Int) (hne : code ≠ x.k.c + 1) : (x.put code).k = k0.run (cs ++ [code]) ∧ (x.put code).b = M.asc (k0.bl (cs ++ [code])) := by
  unfold Wr.put
  rw [if_neg hne]
  refine ⟨?_, ?_⟩
  · show x.k.step code = _
    rw [Kn.run_app, ← h.run]
    rfl
  · show x.b ++ M.asc (x.k.cb code) = _
    rw [Kn.bl_snoc, ← h.run, M.asc_app, h.b]
theorem WI.clear (h : WI k0 D x cs s f) (hs : s < D.length) (hn : x.k.need) : WI k0 D (x.put x.k.c) (cs ++ [x.k.c]) s f := by
  obtain ⟨h1, h2⟩ := h.snoc x.k.c (by omega)
  refine ⟨?_, h1, h2, h.p⟩
  have := h.gi.clear hs hn
  have e : (x.put x.k.c).k = x.k.step x.k.c := by rw [Wr.put_clear, Kn.step_clear]
  rw [e]
  exact this
theorem WI.word (h : WI k0 D x cs s f) (hl : Lits k0.c D) (hs : s < D.length) (hn : ¬ x.k.need) : ∃ f', WI k0 D x.one (cs ++ [x.k.code1 x.p]) (s + x.k.lng x.p) f' ∧ 1 ≤ x.k.lng x.p ∧ x.k.lng x.p ≤ D.length - s := by
  obtain ⟨h1, h2, h3, f', h4⟩ := h.gi.word hl hs hn
  rw [← h.p] at h1 h2 h3 h4
  obtain ⟨h5, h6⟩ := h.snoc (x.k.code1 x.p) (h.gi.ok.code1_ne h1).2
  refine ⟨f', ⟨?_, h5, h6, ?_⟩, h2, h3⟩
  · have e : x.one.k = x.k.step (x.k.code1 x.p) := by
      show (x.put (x.k.code1 x.p)).k = _
      rw [Wr.put_code x h.gi.ok h1, Kn.step_fol h.gi.ok h1]
    rw [e]
    exact h4
  · show x.p.drop (x.k.lng x.p) = _
    rw [h.p, List.drop_drop]
theorem WI.room (h : WI k0 D x cs s f) (hs : s < D.length) : ∃ cs', WI k0 D x.room cs' s f ∧ ¬ x.room.k.need := by
  unfold Wr.room
  by_cases hn : x.k.need
  · rw [if_pos hn]
    refine ⟨_, h.clear hs hn, ?_⟩
    rw [Wr.put_clear]
    exact h.gi.ok.cleared_need
  · rw [if_neg hn]
    exact ⟨_, h, hn⟩
theorem WI.loop (hl : Lits k0.c D) : ∀ (n : Nat) {x : Wr} {cs : List Int} {s f : Nat}, WI k0 D x cs s f → ¬ x.k.need → s < D.length → D.length - s ≤ n → ∃ cs' s' f', WI k0 D (Wr.loop n x) cs' s' f' ∧ ¬ (Wr.loop n x).k.need ∧ s' < D.length ∧ (Wr.loop n x).k.lng (Wr.loop n x).p = D.length - s'
  | 0, x, cs, s, f, h, hn, hs, hf => by omega
  | n + 1, x, cs, s, f, h, hn, hs, hf => by
    have hpl : x.p.length = D.length - s := by rw [h.p, List.length_drop]
    unfold Wr.loop
    by_cases he : x.k.lng x.p = x.p.length
    · rw [if_pos he]
      exact ⟨cs, s, f, h, hn, hs, by rw [he, hpl]⟩
    · rw [if_neg he]
      obtain ⟨f', h1, h2, h3⟩ := h.word hl hs hn
      obtain ⟨cs', h4, h5⟩ := h1.room (by omega)
      exact WI.loop hl n h4 h5 (by omega) (by omega)
end
/-- a new writer -/
def Wr.fresh (k : Kn) : Wr := ⟨k, [], [], false⟩
theorem Wr.fresh_go {k : Kn} (h : k.Ok) : (Wr.fresh k).Go := ⟨h, fun b hb => by simp [Wr.fresh] at hb, rfl⟩
theorem WI.begun {k0 : Kn} (h : k0.Ok) (D : List UInt8) (hD : D ≠ []) : WI k0 D { (Wr.fresh k0).start with p := D } ([] ++ [k0.c]) 0 D.length := by
  refine ⟨?_, ?_, ?_, rfl⟩
  · have := GI.start h D
    show GI k0 D ([] ++ [k0.c]) (Wr.fresh k0).start.k 0 D.length
    have e : (Wr.fresh k0).start.k = k0.step k0.c := by
      show ((Wr.fresh k0).put k0.c).k = _
      unfold Wr.put
      rw [if_neg (show ¬ k0.c = (Wr.fresh k0).k.c + 1 from by show ¬ k0.c = k0.c + 1; omega)]
      rfl
    rw [e]
    exact this
  · show ((Wr.fresh k0).put k0.c).k = _
    unfold Wr.put
    rw [if_neg (show ¬ k0.c = (Wr.fresh k0).k.c + 1 from by show ¬ k0.c = k0.c + 1; omega)]
    rfl
  · show [] ++ M.asc (k0.cb k0.c) = _
    simp [Kn.bl]
/-- all data at once, and the end -/
theorem Wr.all_bits {k0 : Kn} (h : k0.Ok) {D : List UInt8} (hl : Lits k0.c D) : ((Wr.fresh k0).write D).close.b = M.asc (k0.bl (k0.greedy D)) := by
  by_cases hD : D = []
  · subst hD
    have e : (Wr.fresh k0).write [] = Wr.fresh k0 := by unfold Wr.write; rw [if_pos rfl]
    have e2 : (Wr.fresh k0).start.last = (Wr.fresh k0).start := by
      unfold Wr.last
      rw [if_pos]
      rfl
    have e3 : (Wr.fresh k0).start.k = k0.cleared := by
      show ((Wr.fresh k0).put (Wr.fresh k0).k.c).k = _
      rw [Wr.put_clear]
      rfl
    have e4 : (Wr.fresh k0).start.b = M.asc (k0.cb k0.c) := by
      show ((Wr.fresh k0).put (Wr.fresh k0).k.c).b = _
      rw [Wr.put_clear]
      show [] ++ M.asc (k0.cb k0.c) = _
      simp
    rw [e]
    unfold Wr.close
    rw [e2, Wr.put_end]
    show (Wr.fresh k0).start.b ++ M.asc ((Wr.fresh k0).start.k.cb ((Wr.fresh k0).start.k.c + 1)) = _
    rw [e4, e3, ← M.asc_app]
    simp [Kn.greedy, Kn.words1, Kn.bl, Kn.step_clear]
    rfl
  · have hDl : 0 < D.length := List.length_pos_iff.2 hD
    have hst := WI.begun h D hD
    have hn0 : ¬ ({ (Wr.fresh k0).start with p := D } : Wr).k.need := by
      show ¬ ((Wr.fresh k0).put (Wr.fresh k0).k.c).k.need
      rw [Wr.put_clear]
      exact h.cleared_need
    obtain ⟨cs, s, f, h1, h2, h3, h4⟩ := WI.loop hl D.length hst hn0 hDl (by omega)
    have e : (Wr.fresh k0).write D = Wr.loop D.length { (Wr.fresh k0).start with p := D } := by
      unfold Wr.write
      rw [if_neg hD]
      show Wr.loop ([].length + D.length) { (Wr.fresh k0).start with p := [] ++ D } = _
      simp
    have hg : ∀ (n : Nat) (y : Wr), y.g = true → (Wr.loop n y).g = true := by
      intro n
      induction n with
      | zero => intro y hy; exact hy
      | succ n ih =>
        intro y hy
        unfold Wr.loop
        split
        · exact hy
        · refine ih _ ?_
          unfold Wr.room
          split <;> exact hy
    rw [e]
    obtain ⟨y, hy⟩ : ∃ y, y = Wr.loop D.length { (Wr.fresh k0).start with p := D } := ⟨_, rfl⟩
    have hyg : y.g = true := by rw [hy]; exact hg _ _ rfl
    rw [← hy] at h1 h2 h4 ⊢
    obtain ⟨f', h5, h6, h7⟩ := h1.word hl h3 h2
    have hpne : y.p ≠ [] := by rw [h1.p]; exact Wr.drop_ne h3
    have e1 : y.start = y := by unfold Wr.start; rw [if_pos hyg]
    have e2 : y.last = { y.put (y.k.code1 y.p) with p := [] } := by unfold Wr.last; rw [if_neg hpne]
    have hd := h5.gi.done (by omega)
    unfold Wr.close
    rw [e1, e2, Wr.put_end]
    show (y.put (y.k.code1 y.p)).b ++ M.asc ((y.put (y.k.code1 y.p)).k.cb ((y.put (y.k.code1 y.p)).k.c + 1)) = _
    have e5 : (y.put (y.k.code1 y.p)).k = y.one.k := rfl
    have e6 : (y.put (y.k.code1 y.p)).b = y.one.b := rfl
    rw [e5, e6, h5.b, h5.gi.c, hd, Kn.bl_snoc k0 (cs ++ [y.k.code1 y.p]), ← h5.run, M.asc_app]
end Go.Proofs.Ytfklkepodpcdgaa
