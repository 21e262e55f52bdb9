/- Pairs in memory: a slice that holds them, and one that owns them. No condition. -/
import Derived.Test.YtoiifopjipfjhaaOwn
import Derived.Test.YtoiifopjipfjhaaKn
namespace Go.Proofs.Ytoiifopjipfjhaa
open Go.ChangeShapes Go.WideShapes Go.ChangeAt Go.RowKit Go.Joins
set_option linter.unusedVariables false

def pv (p : Pr) : List Value := [.int .i64 p.1, .int .i64 p.2]
def prs (ps : List Pr) : List Value := ps.flatMap pv
theorem prs_nil : prs [] = [] := rfl
theorem prs_cons (p : Pr) (ps : List Pr) : prs (p :: ps) = pv p ++ prs ps := by simp [prs]
theorem prs_append (ps qs : List Pr) : prs (ps ++ qs) = prs ps ++ prs qs := by simp [prs]
theorem prs_len (ps : List Pr) : (prs ps).length = ps.length * 2 := by
  induction ps with
  | nil => rfl
  | cons p t ih => rw [prs_cons, List.length_append, ih]; simp [pv]; omega
theorem prs_get (ps : List Pr) (i : Nat) (p : Pr) (h : ps[i]? = some p) : (prs ps)[i * 2]? = some (.int .i64 p.1) ∧ (prs ps)[i * 2 + 1]? = some (.int .i64 p.2) := by
  induction ps generalizing i with
  | nil => simp at h
  | cons q t ih =>
    cases i with
    | zero => simp at h; subst h; exact ⟨rfl, rfl⟩
    | succ i =>
      rw [List.getElem?_cons_succ] at h
      have := ih i h
      rw [prs_cons, show (i + 1) * 2 = i * 2 + 1 + 1 from by omega]
      simp only [pv, List.cons_append, List.nil_append, List.getElem?_cons_succ]
      exact this
theorem prs_one (ps : List Pr) : ∀ u ∈ prs ps, u.oneCell' = true := by
  intro u hu
  simp only [prs, List.mem_flatMap] at hu
  obtain ⟨p, _, hp⟩ := hu
  simp [pv] at hp
  rcases hp with rfl | rfl <;> rfl
theorem prs_take (ps : List Pr) (n : Nat) : prs (ps.take n) = (prs ps).take (n * 2) := by
  induction n generalizing ps with
  | zero => simp [prs]
  | succ n ih =>
    cases ps with
    | nil => simp [prs]
    | cons p t =>
      rw [List.take_succ_cons, prs_cons, ih, prs_cons, show (n + 1) * 2 = n * 2 + 1 + 1 from by omega]
      simp [pv]

/-- A slice of pairs, in a block below L. -/
def PsAt (w : World) (L : Nat) (A : Option Addr) (cap : Nat) (ps : List Pr) : Prop :=
  ps.length ≤ cap ∧ cap ≤ maxLen ∧ (A = none → cap = 0) ∧ (0 < ps.length → ∃ b off, A = some ⟨b, off, none⟩ ∧ b < L ∧ ∀ i p, ps[i]? = some p → w.cell? ⟨b, off + i * 2, none⟩ = some (.int .i64 p.1) ∧ w.cell? ⟨b, off + i * 2 + 1, none⟩ = some (.int .i64 p.2))
theorem PsAt.keep {w w' : World} {L cap : Nat} {A : Option Addr} {ps : List Pr} (h : PsAt w L A cap ps) (hk : ∀ k, k < L → w'.heap[k]? = w.heap[k]?) : PsAt w' L A cap ps :=
  ⟨h.1, h.2.1, h.2.2.1, fun hn => by
    obtain ⟨b, off, e, hb, hc⟩ := h.2.2.2 hn
    refine ⟨b, off, e, hb, fun i p hi => ?_⟩
    have h1 := hc i p hi
    exact ⟨(World.cell?_of_block (a := ⟨b, off + i * 2, none⟩) (hk b hb)).trans h1.1, (World.cell?_of_block (a := ⟨b, off + i * 2 + 1, none⟩) (hk b hb)).trans h1.2⟩⟩
theorem PsAt.mono {w : World} {L L' cap : Nat} {A : Option Addr} {ps : List Pr} (h : PsAt w L A cap ps) (hL : L ≤ L') : PsAt w L' A cap ps :=
  ⟨h.1, h.2.1, h.2.2.1, fun hn => by obtain ⟨b, off, e, hb, hc⟩ := h.2.2.2 hn; exact ⟨b, off, e, by omega, hc⟩⟩
theorem PsAt.below {w w' : World} {L B cap : Nat} {A : Option Addr} {ps : List Pr} (h : PsAt w L A cap ps) (hb : Below B w w') (hL : L ≤ B) : PsAt w' L A cap ps :=
  h.keep fun k hk => hb.block k (by omega)
theorem PsAt.on {w w' : World} {L cap : Nat} {A : Option Addr} {ps : List Pr} (h : PsAt w L A cap ps) (hb : Below w.heap.size w w') (hL : L ≤ w.heap.size) : PsAt w' L A cap ps := h.below hb hL
theorem PsAt.alloc {w : World} {L cap : Nat} {A : Option Addr} {ps : List Pr} (h : PsAt w L A cap ps) (hL : L ≤ w.heap.size) (o : Obj) : PsAt (w.alloc o) L A cap ps :=
  h.keep fun k hk => Below.heap_alloc w o k (by omega)
theorem PsAt.take {w : World} {L cap : Nat} {A : Option Addr} {ps : List Pr} (h : PsAt w L A cap ps) (n : Nat) : PsAt w L A cap (ps.take n) :=
  ⟨by have := h.1; simp; omega, h.2.1, h.2.2.1, fun hn => by
    have hn2 : 0 < ps.length := by simp at hn; omega
    obtain ⟨b, off, e, hb, hc⟩ := h.2.2.2 hn2
    refine ⟨b, off, e, hb, fun i p hi => hc i p ?_⟩
    rw [List.getElem?_take] at hi
    split at hi
    · exact hi
    · cases hi⟩
theorem PsAt.nil (w : World) (L : Nat) : PsAt w L none 0 [] := ⟨Nat.zero_le _, by simp [maxLen], fun _ => rfl, fun hn => absurd hn (by simp)⟩

/-- What owns pairs holds them. -/
theorem own_ps {w : World} {B : Nat} {e : TypeId} {v : Value} {n : Nat} {ps : List Pr} (h : w.ownsRow B e 2 v n (prs ps)) : ∃ A cap, v = .slice A ps.length cap ∧ PsAt w w.heap.size A cap ps ∧ n = ps.length ∧ (A = none ∨ ∃ g, A = some ⟨g, 0, none⟩ ∧ B ≤ g ∧ g < w.heap.size) := by
  have hl := h.1
  rw [prs_len] at hl
  have hn : n = ps.length := by omega
  subst hn
  have hlt := h.lt
  rcases h.2 with ⟨rfl, h0⟩ | ⟨g, cap, cur, rfl, hb, hh, hnc, hcm, hsz, htk⟩
  · have : ps = [] := List.length_eq_zero_iff.1 h0
    subst this
    exact ⟨none, 0, rfl, PsAt.nil _ _, rfl, .inl rfl⟩
  · have hg := hlt g rfl
    refine ⟨some ⟨g, 0, none⟩, cap, rfl, ⟨hnc, hcm, by simp, fun hn => ⟨g, 0, rfl, hg.2, fun i p hi => ?_⟩⟩, rfl, .inr ⟨g, rfl, hb, hg.2⟩⟩
    have hi2 := get_lt hi
    have hp := prs_get ps i p hi
    have c0 := h.cellAt (i * 2) (by omega)
    have c1 := h.cellAt (i * 2 + 1) (by omega)
    rw [Nat.zero_add]
    exact ⟨c0.trans hp.1, c1.trans hp.2⟩
theorem own_ps_nil (w : World) (B : Nat) (e : TypeId) : w.ownsRow B e 2 (.slice none 0 0) 0 (prs []) := World.ownsRow_nil w B e 2
/-- the same memory, cut to its first pairs -/
theorem own_ps_cut {w : World} {B : Nat} {e : TypeId} {A : Option Addr} {n cap : Nat} {ps : List Pr} (h : w.ownsRow B e 2 (.slice A n cap) n (prs ps)) (m : Nat) (hm : m ≤ n) : w.ownsRow B e 2 (.slice A m cap) m (prs (ps.take m)) := by
  have hl := h.1
  rw [prs_len] at hl
  refine ⟨by rw [prs_len, List.length_take]; omega, ?_⟩
  rcases h.2 with ⟨e1, h0⟩ | ⟨g, cap', cur, e1, hb, hh, hnc, hcm, hsz, htk⟩
  · left
    simp at e1
    obtain ⟨rfl, _, rfl⟩ := e1
    have : m = 0 := by omega
    subst this
    exact ⟨rfl, rfl⟩
  · right
    simp at e1
    obtain ⟨rfl, rfl⟩ := e1
    refine ⟨g, cap, cur, rfl, hb, hh, by omega, hcm, hsz, ?_⟩
    rw [prs_take, ← htk, List.take_take]
    congr 1; omega
theorem own_mono {w : World} {B B' : Nat} {e : TypeId} {size : Nat} {v : Value} {n : Nat} {xs : List Value} (h : w.ownsRow B e size v n xs) (hB : B' ≤ B) : w.ownsRow B' e size v n xs := by
  refine ⟨h.1, ?_⟩
  rcases h.2 with h1 | ⟨g, cap', cur, e1, hb, h2⟩
  · exact .inl h1
  · exact .inr ⟨g, cap', cur, e1, by omega, h2⟩
/-! ### A box of six cells -/
theorem Blk.far {w : World} {g R : Nat} {t : TypeId} {cs : Array Value} (h : Blk w g t cs) (i : Nat) (a : Value) (hn : g ≠ R) : Blk (w.setCell ⟨R, i, none⟩ a) g t cs := (Below.heap_setCell w ⟨R, i, none⟩ a g hn).trans h
theorem Blk.cells6 {w : World} {g : Nat} {t : TypeId} {a b c d e f : Value} (h : Blk w g t #[a, b, c, d, e, f]) : w.cell? ⟨g, 0, none⟩ = some a ∧ w.cell? ⟨g, 1, none⟩ = some b ∧ w.cell? ⟨g, 2, none⟩ = some c ∧ w.cell? ⟨g, 3, none⟩ = some d ∧ w.cell? ⟨g, 4, none⟩ = some e ∧ w.cell? ⟨g, 5, none⟩ = some f := ⟨h.cell 0, h.cell 1, h.cell 2, h.cell 3, h.cell 4, h.cell 5⟩
theorem Blk.free6 {w : World} {g : Nat} {t : TypeId} {cs : Array Value} (h : Blk w g t cs) : w.frozen? ⟨g, 0, none⟩ = false ∧ w.frozen? ⟨g, 1, none⟩ = false ∧ w.frozen? ⟨g, 2, none⟩ = false ∧ w.frozen? ⟨g, 3, none⟩ = false ∧ w.frozen? ⟨g, 4, none⟩ = false ∧ w.frozen? ⟨g, 5, none⟩ = false := ⟨h.frozen 0, h.frozen 1, h.frozen 2, h.frozen 3, h.frozen 4, h.frozen 5⟩
theorem Blk.put6 {w : World} {g : Nat} {t : TypeId} {a b c d e f : Value} (h : Blk w g t #[a, b, c, d, e, f]) (a' b' c' d' e' f' : Value) : Blk ((((((w.setCell ⟨g, 0, none⟩ a').setCell ⟨g, 1, none⟩ b').setCell ⟨g, 2, none⟩ c').setCell ⟨g, 3, none⟩ d').setCell ⟨g, 4, none⟩ e').setCell ⟨g, 5, none⟩ f') g t #[a', b', c', d', e', f'] :=
  (((((h.set_ 0 a').set_ 1 b').set_ 2 c').set_ 3 d').set_ 4 e').set_ 5 f'
theorem Blk.mid (w : World) (o o' : Obj) (t : TypeId) (cs : Array Value) : Blk (((w.alloc o).alloc (.cells cs t)).alloc o') (w.heap.size + 1) t cs := by
  have h := (Blk.new (w.alloc o) t cs).alloc o'
  rw [World.size_alloc] at h; exact h
theorem Blk.top (w : World) (o : Obj) (t : TypeId) (cs : Array Value) : Blk ((w.alloc o).alloc (.cells cs t)) (w.heap.size + 1) t cs := by
  have h := Blk.new (w.alloc o) t cs
  rw [World.size_alloc] at h; exact h
theorem Blk.third (w : World) (o o' : Obj) (t : TypeId) (cs : Array Value) : Blk (((w.alloc o).alloc o').alloc (.cells cs t)) (w.heap.size + 1 + 1) t cs := by
  have h := Blk.new ((w.alloc o).alloc o') t cs
  rw [World.size_alloc, World.size_alloc] at h; exact h
theorem Blk.at_ {w : World} {g g' : Nat} {t : TypeId} {cs : Array Value} (h : Blk w g t cs) (e : g' = g) : Blk w g' t cs := e ▸ h
theorem cell_on {v v' : World} {B : Nat} {a : Addr} {x : Value} (h : v.cell? a = some x) (hb : Below B v v') (ha : a.block < B) : v'.cell? a = some x := (hb.cell ha).trans h
end Go.Proofs.Ytoiifopjipfjhaa
