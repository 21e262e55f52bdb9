/- A trail in memory. No condition. -/
import Derived.Test.YtoiifopjipfjhaaAf
import Derived.Test.YtoiifopjipfjhaaTm
import Derived.Test.YtoiifopjipfjhaaFx
import Derived.Test.YtoiifopjipfjhaaFb
namespace Go.Proofs.Ytoiifopjipfjhaa
open Go.ChangeShapes Go.WideShapes Go.ChangeAt Go.RowKit Go.Joins
set_option linter.unusedVariables false

/-- block g of world w is the trail T; its rows lie behind B -/
structure TrW (w : World) (B g : Nat) (T : Tr) (A : Option Addr) (cap : Nat) (vc vw vd : Value) : Prop where
  blk : Blk w g 111 #[.int .i64 T.k.o, .int .i64 T.k.l, .int .i64 T.k.m, .slice A T.k.ps.length cap, .int .i64 T.k.base, .int .i64 T.k.last, .int .i64 T.n, .int .i64 T.sz, vc, vw, vd]
  ps : w.ownsRow B 41 2 (.slice A T.k.ps.length cap) T.k.ps.length (prs T.k.ps)
  cs : w.ownsRow B 3 1 vc T.cs.length (T.cs.map iv)
  ws : w.ownsRow B 3 1 vw T.ws.length (T.ws.map iv)
  ds : w.ownsRow B 5 1 vd T.ds.length (T.ds.map vb)
  sep : vc.ownBlock = none ∨ vc.ownBlock ≠ vw.ownBlock
  le : B ≤ g
def TrailAt (w : World) (B g : Nat) (T : Tr) : Prop := ∃ A cap vc vw vd, TrW w B g T A cap vc vw vd

section
variable {w w' : World} {B g : Nat} {T : Tr} {A : Option Addr} {cap : Nat} {vc vw vd : Value}
theorem TrW.lt (h : TrW w B g T A cap vc vw vd) : g < w.heap.size := h.blk.lt
theorem TrW.on (h : TrW w B g T A cap vc vw vd) (hb : Below w.heap.size w w') : TrW w' B g T A cap vc vw vd :=
  ⟨h.blk.on hb, own_on h.ps hb, own_on h.cs hb, own_on h.ws hb, own_on h.ds hb, h.sep, h.le⟩
theorem TrW.kat (h : TrW w B g T A cap vc vw vd) : KAt w g T.k (.slice A T.k.ps.length cap) :=
  ⟨h.lt, h.blk.cell 0, h.blk.cell 1, h.blk.cell 2, h.blk.cell 3, h.blk.cell 4, h.blk.cell 5⟩
theorem own_ps_at {w : World} {B : Nat} {e : TypeId} {A : Option Addr} {n cap : Nat} {l : List Pr} (h : w.ownsRow B e 2 (.slice A n cap) n (prs l)) : PsAt w w.heap.size A cap l := by
  obtain ⟨A', c', e1, h1, h2, _⟩ := own_ps h
  simp at e1
  obtain ⟨rfl, _, rfl⟩ := e1
  exact h1
theorem TrW.psAt (h : TrW w B g T A cap vc vw vd) : PsAt w w.heap.size A cap T.k.ps := own_ps_at h.ps
end

theorem own_elem {w : World} {B : Nat} {e : TypeId} {size n : Nat} {v : Value} {xs : List Value} (h : w.ownsRow B e size v n xs) (b : Nat) (hb : v.ownBlock = some b) : ∃ cs, w.heap[b]? = some (.cells cs e (0, 0)) := by
  rcases h.2 with ⟨rfl, _⟩ | ⟨g, cap', cur, rfl, _, hh, _⟩
  · simp [Value.ownBlock] at hb
  · have e3 : g = b := by simpa [Value.ownBlock] using hb
    subst e3
    exact ⟨cur, hh⟩
/-- rows of different elements are apart -/
theorem own_apart {w : World} {B B2 : Nat} {e e2 : TypeId} {size size2 n n2 : Nat} {v v2 : Value} {xs xs2 : List Value} (h : w.ownsRow B e size v n xs) (h2 : w.ownsRow B2 e2 size2 v2 n2 xs2) (ht : e ≠ e2) : v.ownBlock = none ∨ v.ownBlock ≠ v2.ownBlock := by
  cases hv : v.ownBlock with
  | none => exact .inl rfl
  | some b =>
    refine .inr (fun e3 => ht ?_)
    obtain ⟨c1, h3⟩ := own_elem h b hv
    obtain ⟨c2, h4⟩ := own_elem h2 b e3.symm
    have h5 := h3.symm.trans h4
    simp at h5
    exact h5.2
theorem own_apart_blk {w : World} {B : Nat} {e t : TypeId} {size n b : Nat} {v : Value} {xs : List Value} {cs : Array Value} (h : w.ownsRow B e size v n xs) (hk : Blk w b t cs) (ht : t ≠ e) : v.ownBlock = none ∨ v.ownBlock ≠ some b := by
  cases hv : v.ownBlock with
  | none => exact .inl rfl
  | some g =>
    refine .inr (fun e3 => ht ?_)
    simp at e3
    subst e3
    obtain ⟨c1, h3⟩ := own_elem h _ hv
    have h5 := hk.symm.trans h3
    simp at h5
    exact h5.2
theorem apart_ne {v : Value} {r : Option Nat} {b : Nat} (h : v.ownBlock = none ∨ v.ownBlock ≠ r) (hb : r = some b) : some b ≠ v.ownBlock := by
  subst hb
  rcases h with h | h
  · rw [h]; simp
  · exact fun e => h e.symm

theorem tyne_tp : 111 ≠ 41 := by decide
theorem tyne_ti : 111 ≠ 3 := by decide
theorem tyne_tu : 111 ≠ 5 := by decide
theorem tyne_pi : 41 ≠ 3 := by decide
theorem tyne_pu : 41 ≠ 5 := by decide
theorem tyne_iu : 3 ≠ 5 := by decide
/-- a store into the trail's own cells leaves the rows alone -/
theorem own_store_blk {w : World} {B : Nat} {e t : TypeId} {size n b : Nat} {v : Value} {xs : List Value} {cs : Array Value} (h : w.ownsRow B e size v n xs) (hk : Blk w b t cs) (ht : t ≠ e) (i : Nat) (u : Value) : (w.setCell ⟨b, i, none⟩ u).ownsRow B e size v n xs :=
  h.kept (grown_set (grown_refl w (some b)) i u) (own_apart_blk h hk ht)
end Go.Proofs.Ytoiifopjipfjhaa
