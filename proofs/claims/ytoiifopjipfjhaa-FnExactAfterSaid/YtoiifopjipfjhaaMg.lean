/- The laws' marks on whatever slice is owned; rows that are apart for they were made one after the other. No condition. -/
import Derived.Test.YtoiifopjipfjhaaWkv
import Derived.Test.YtoiifopjipfjhaaSt
import Derived.Test.YtoiifopjipfjhaaIl
import Derived.Test.YtoiifopjipfjhaaTw
namespace Go.Proofs.Ytoiifopjipfjhaa
open Go.ChangeShapes Go.WideShapes Go.ChangeAt Go.RowKit Go.Joins
set_option linter.unusedVariables false

theorem own_none {w : World} {B : Nat} {e : TypeId} {size n m cap : Nat} {xs : List Value} (h : w.ownsRow B e size (.slice none n cap) m xs) : n = 0 ∧ cap = 0 ∧ m = 0 := by
  rcases h.2 with ⟨e1, h0⟩ | ⟨g, cap', cur, e1, _⟩
  · simp at e1; exact ⟨e1.1, e1.2, h0⟩
  · simp at e1
theorem own_some {w : World} {B : Nat} {e : TypeId} {size n m cap : Nat} {a : Addr} {xs : List Value} (h : w.ownsRow B e size (.slice (some a) n cap) m xs) : ∃ g, a = ⟨g, 0, none⟩ := by
  rcases h.2 with ⟨e1, h0⟩ | ⟨g, cap', cur, e1, _⟩
  · simp at e1
  · simp at e1; exact ⟨g, e1.1⟩
theorem c_markKnown_any (k : Kn) (B cap : Nat) (A : Option Addr) (w : World) (h : w.ownsRow B 41 2 (.slice A k.ps.length cap) k.ps.length (prs k.ps)) (hB : B ≤ w.heap.size) (hn : k.ps.length ≤ 1048576) : Calls Try.prog 89 #[.agg #[.int .i64 k.o, .int .i64 k.l, .int .i64 k.m, .slice A k.ps.length cap, .int .i64 k.base, .int .i64 k.last], .int .i64 1] w fun e w' => e = .returned (.int .i64 (1 + 2 * k.ps.length)) ∧ w'.ownsRow B 41 2 (.slice A k.ps.length cap) k.ps.length (prs (mk k.ps.length 1)) ∧ w.grownBy w' (Value.slice A k.ps.length cap).ownBlock := by
  cases A with
  | none =>
    obtain ⟨h1, h2, _⟩ := own_none h
    rw [h1, h2]
    refine (c_markKnown_nil _ _ _ _ _ _).mono ?_
    rintro e w' ⟨rfl, hb⟩
    exact ⟨rfl, own_ps_nil _ _ _, grown_below _ hb⟩
  | some a =>
    obtain ⟨g, rfl⟩ := own_some h
    exact (c_markKnown k B g cap w h hB hn).mono fun e w' h2 => ⟨h2.1, h2.2.1, h2.2.2⟩
theorem c_markIntS_nil (s : Int) (w : World) : Calls Try.prog 95 #[.slice none 0 0, .int .i64 s] w (Same (.int .i64 s) w) := by
  go_enter Try.func95, Try.ntmps95
  go_wp2_with fail
  go_loop [1, 5] (fun m i => m = .int .i64 s ∧ i = .int .i64 0) (fun _ i => 0)
  case atStart => exact ⟨rfl, rfl⟩
  case round =>
    obtain ⟨rfl, rfl⟩ := hrel
    go_wp2
    go_ret
    exact ⟨rfl, rfl⟩

theorem c_markIntS_any (l : List Int) (s : Int) (B cap : Nat) (A : Option Addr) (w : World) (h : w.ownsRow B 3 1 (.slice A l.length cap) l.length (l.map iv)) (hn : l.length ≤ 1048576) (hs : 0 ≤ s) (hs2 : s ≤ 1000000000) : Calls Try.prog 95 #[.slice A l.length cap, .int .i64 s] w fun e w' => e = .returned (.int .i64 (s + l.length)) ∧ w'.ownsRow B 3 1 (.slice A l.length cap) l.length ((mki l.length s).map iv) ∧ w.grownBy w' (Value.slice A l.length cap).ownBlock := by
  cases A with
  | none =>
    obtain ⟨h1, h2, _⟩ := own_none h
    rw [h1, h2]
    refine (c_markIntS_nil _ _).mono ?_
    rintro e w' ⟨rfl, rfl⟩
    exact ⟨ret_int (by simp), own_ints_nil _ _ _, grown_refl _ _⟩
  | some a =>
    obtain ⟨g, rfl⟩ := own_some h
    exact (c_markIntS B g cap l s w h hn hs hs2).mono fun e w' h2 => ⟨h2.1, h2.2.1, h2.2.2⟩

/-- where a row lies, at most -/
def Upto (v : Value) (S : Nat) : Prop := ∀ g, v.ownBlock = some g → g < S
theorem own_upto {w : World} {B : Nat} {e : TypeId} {size n : Nat} {v : Value} {xs : List Value} (h : w.ownsRow B e size v n xs) : Upto v w.heap.size := fun g hg => (h.lt g hg).2
/-- an older row and a younger one -/
theorem sep_old {w : World} {B S : Nat} {e : TypeId} {size n : Nat} {v v2 : Value} {xs : List Value} (hu : Upto v S) (h : w.ownsRow B e size v2 n xs) (hS : S ≤ B) : v.ownBlock = none ∨ v.ownBlock ≠ v2.ownBlock := by
  cases hv : v.ownBlock with
  | none => exact .inl rfl
  | some g =>
    refine .inr (fun e => ?_)
    have h1 := hu g hv
    have h2 := (h.lt g e.symm).1
    omega
theorem bel_grow {w W w' : World} {B : Nat} {e : TypeId} {size n : Nat} {v : Value} {xs : List Value} (hB : Below w.heap.size w W) (ho : W.ownsRow B e size v n xs) (hw : w.heap.size ≤ B) (hg : W.grownBy w' v.ownBlock) : Below w.heap.size w w' :=
  hB.trans (below_of_grown hg hB.size (fun g e => by have := (ho.lt g e).1; omega))
theorem box_apart {w w' : World} {B b : Nat} {e t : TypeId} {size n : Nat} {v : Value} {xs : List Value} {cs : Array Value} (hk : Blk w b t cs) (ho : w.ownsRow B e size v n xs) (ht : t ≠ e) (hg : w.grownBy w' v.ownBlock) : Blk w' b t cs := hk.grown hg (apart_ne (own_apart_blk ho hk ht) rfl)
theorem c_heldIntS_below (L : Nat) (A : Option Addr) (cap n : Nat) (s : Int) (w : World) (h : NumsAt w L A cap (mki n s)) (hn : n ≤ 1048576) (hs : 0 ≤ s) (hs2 : s ≤ 1000000000) : Calls Try.prog 96 #[.slice A n cap, .int .i64 s] w fun e w' => e = .returned (.int .i64 (s + n)) ∧ Below w.heap.size w w' :=
  (c_heldIntS L A cap n s w h hn hs hs2).mono fun e w' ⟨h1, h2⟩ => ⟨h1, h2 ▸ Below.refl _ _⟩
/-- the numbers are int's -/
def NumsB (l : List Int) : Prop := ∀ x ∈ l, -9223372036854775808 ≤ x ∧ x ≤ 9223372036854775807
theorem sep_turn {v v2 : Value} (h : v.ownBlock = none ∨ v.ownBlock ≠ v2.ownBlock) : v2.ownBlock = none ∨ v2.ownBlock ≠ v.ownBlock := by
  rcases h with h | h
  · cases hv : v2.ownBlock with
    | none => exact .inl rfl
    | some b => exact .inr (by rw [h]; simp)
  · exact .inr (fun e => h e.symm)
end Go.Proofs.Ytoiifopjipfjhaa
