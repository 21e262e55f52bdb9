/- Marks on what is known. -/
import Derived.Test.YtmfnfheahehpcaaGreatDoorFh
import Derived.Test.YtmfnfheahehpcaaGreatDoorBc
import Derived.Test.YtmfnfheahehpcaaGreatDoorYn
namespace Go.Proofs.YtmfnfheahehpcaaGreatDoor
open Go.ChangeShapes Go.WideShapes Go.ChangeAt Go.RowKit Go.Joins
set_option linter.unusedVariables false
set_option linter.unusedSimpArgs false

theorem own_elem {w : World} {B : Nat} {e : TypeId} {size n : Nat} {v : Value} {xs : List Value} (h : w.ownsRow B e size v n xs) (b : Nat) (hb : v.ownBlock = some b) : ∃ cs, w.heap[b]? = some (.cells cs e (0, 0)) := by
  rcases h.2 with ⟨rfl, _⟩ | ⟨g, cap', cur, rfl, _, hh, _⟩
  · simp [Value.ownBlock] at hb
  · have e3 : g = b := by simpa [Value.ownBlock] using hb
    subst e3
    exact ⟨cur, hh⟩

/-- rows of different elements are apart -/
theorem own_apart {w : World} {B B2 : Nat} {e e2 : TypeId} {size size2 n n2 : Nat} {v v2 : Value} {xs xs2 : List Value} (h : w.ownsRow B e size v n xs) (h2 : w.ownsRow B2 e2 size2 v2 n2 xs2) (ht : e ≠ e2) : v.ownBlock = none ∨ v.ownBlock ≠ v2.ownBlock := by
  cases hv : v.ownBlock with
  | none => exact .inl rfl
  | some b =>
    refine .inr (fun e3 => ht ?_)
    obtain ⟨c1, h3⟩ := own_elem h b hv
    obtain ⟨c2, h4⟩ := own_elem h2 b e3.symm
    have h5 := h3.symm.trans h4
    simp at h5
    exact h5.2

theorem apart_ne {v : Value} {r : Option Nat} {b : Nat} (h : v.ownBlock = none ∨ v.ownBlock ≠ r) (hb : r = some b) : some b ≠ v.ownBlock := by
  subst hb
  rcases h with h | h
  · rw [h]; simp
  · exact fun e => h e.symm

theorem own_none {w : World} {B : Nat} {e : TypeId} {size n m cap : Nat} {xs : List Value} (h : w.ownsRow B e size (.slice none n cap) m xs) : n = 0 ∧ cap = 0 ∧ m = 0 := by
  rcases h.2 with ⟨e1, h0⟩ | ⟨g, cap', cur, e1, _⟩
  · simp at e1; exact ⟨e1.1, e1.2, h0⟩
  · simp at e1

theorem own_some {w : World} {B : Nat} {e : TypeId} {size n m cap : Nat} {a : Addr} {xs : List Value} (h : w.ownsRow B e size (.slice (some a) n cap) m xs) : ∃ g, a = ⟨g, 0, none⟩ := by
  rcases h.2 with ⟨e1, h0⟩ | ⟨g, cap', cur, e1, _⟩
  · simp at e1
  · simp at e1; exact ⟨g, e1.1⟩

theorem c_mkKnown_nil (o l m b t : Int) (w : World) : Calls Tryz.prog 15 #[.agg #[.int .i64 o, .int .i64 l, .int .i64 m, .slice none 0 0, .int .i64 b, .int .i64 t], .int .i64 1] w fun e w' => e = .returned (.int .i64 1) ∧ Below w.heap.size w w' := by
  go_enter Tryz.func15, Tryz.ntmps15
  go_wp2_with (go_at_call 49; refine (c_markPairS_nil _).mono ?_; rintro e w' ⟨rfl, rfl⟩)
  go_ret
  exact ⟨rfl, by exact obB⟩

theorem c_mkKnown_some (k : Kn) (B G cap : Nat) (w : World) (h : w.ownsRow B 53 2 (.slice (some ⟨G, 0, none⟩) k.ps.length cap) k.ps.length (prs k.ps)) (hB : B ≤ w.heap.size) (hn : k.ps.length ≤ 1048576) : Calls Tryz.prog 15 #[.agg #[.int .i64 k.o, .int .i64 k.l, .int .i64 k.m, .slice (some ⟨G, 0, none⟩) k.ps.length cap, .int .i64 k.base, .int .i64 k.last], .int .i64 1] w fun e w' => e = .returned (.int .i64 (1 + 2 * k.ps.length)) ∧ w'.ownsRow B 53 2 (.slice (some ⟨G, 0, none⟩) k.ps.length cap) k.ps.length (prs (mk k.ps.length 1)) ∧ w.grownBy w' (some G) := by
  have HH := hid h
  clear h
  go_enter Tryz.func15, Tryz.ntmps15
  go_wp2_with fail
  refine (c_markPairS B G cap k.ps _ (HH.out.alloc _) hn).mono ?_
  rintro e w1 ⟨rfl, hown, hg⟩
  have hg2 := grown_trans (World.grownBy_alloc w (.cells #[.int .i64 k.o, .int .i64 k.l, .int .i64 k.m, .slice (some ⟨G, 0, none⟩) k.ps.length cap, .int .i64 k.base, .int .i64 k.last] 27) (some G)) hg
  clear hg
  go_wp2
  go_ret
  exact ⟨rfl, hown, hg2⟩

theorem c_markKnown_any (k : Kn) (B cap : Nat) (A : Option Addr) (w : World) (h : w.ownsRow B 53 2 (.slice A k.ps.length cap) k.ps.length (prs k.ps)) (hB : B ≤ w.heap.size) (hn : k.ps.length ≤ 1048576) : Calls Tryz.prog 15 #[.agg #[.int .i64 k.o, .int .i64 k.l, .int .i64 k.m, .slice A k.ps.length cap, .int .i64 k.base, .int .i64 k.last], .int .i64 1] w fun e w' => e = .returned (.int .i64 (1 + 2 * k.ps.length)) ∧ w'.ownsRow B 53 2 (.slice A k.ps.length cap) k.ps.length (prs (mk k.ps.length 1)) ∧ w.grownBy w' (Value.slice A k.ps.length cap).ownBlock := by
  cases A with
  | none =>
    obtain ⟨h1, h2, _⟩ := own_none h
    rw [h1, h2]
    refine (c_mkKnown_nil _ _ _ _ _ _).mono ?_
    rintro e w' ⟨rfl, hb⟩
    exact ⟨rfl, own_ps_nil _ _ _, grown_below _ hb⟩
  | some a =>
    obtain ⟨g, rfl⟩ := own_some h
    exact (c_mkKnown_some k B g cap w h hB hn).mono fun e w' h2 => ⟨h2.1, h2.2.1, h2.2.2⟩

/-- where a row lies, at most -/
def Upto (v : Value) (S : Nat) : Prop := ∀ g, v.ownBlock = some g → g < S

theorem own_upto {w : World} {B : Nat} {e : TypeId} {size n : Nat} {v : Value} {xs : List Value} (h : w.ownsRow B e size v n xs) : Upto v w.heap.size := fun g hg => (h.lt g hg).2

/-- an older row and a younger one -/
theorem sep_old {w : World} {B S : Nat} {e : TypeId} {size n : Nat} {v v2 : Value} {xs : List Value} (hu : Upto v S) (h : w.ownsRow B e size v2 n xs) (hS : S ≤ B) : v.ownBlock = none ∨ v.ownBlock ≠ v2.ownBlock := by
  cases hv : v.ownBlock with
  | none => exact .inl rfl
  | some g =>
    refine .inr (fun e => ?_)
    have h1 := hu g hv
    have h2 := (h.lt g e.symm).1
    omega

theorem bel_grow {w W w' : World} {B : Nat} {e : TypeId} {size n : Nat} {v : Value} {xs : List Value} (hB : Below w.heap.size w W) (ho : W.ownsRow B e size v n xs) (hw : w.heap.size ≤ B) (hg : W.grownBy w' v.ownBlock) : Below w.heap.size w w' :=
  hB.trans (below_of_grown hg hB.size (fun g e => by have := (ho.lt g e).1; omega))

theorem box_apart {w w' : World} {B b : Nat} {e t : TypeId} {size n : Nat} {v : Value} {xs : List Value} {cs : Array Value} (hk : Blk w b t cs) (ho : w.ownsRow B e size v n xs) (ht : t ≠ e) (hg : w.grownBy w' v.ownBlock) : Blk w' b t cs := hk.grown hg (apart_ne (own_apart_blk ho hk ht) rfl)

theorem sep_turn {v v2 : Value} (h : v.ownBlock = none ∨ v.ownBlock ≠ v2.ownBlock) : v2.ownBlock = none ∨ v2.ownBlock ≠ v.ownBlock := by
  rcases h with h | h
  · cases hv : v2.ownBlock with
    | none => exact .inl rfl
    | some b => exact .inr (by rw [h]; simp)
  · exact .inr (fun e => h e.symm)

theorem c_markReader_any (k : Kn) {B : ByteArray} {s c e : Int} (B0 cap : Nat) (A : Option Addr) (w : World) (h : w.ownsRow B0 53 2 (.slice A k.ps.length cap) k.ps.length (prs k.ps)) (hB : B0 ≤ w.heap.size) (hn : k.ps.length ≤ 1048576) : Calls Tryz.prog 20 #[.agg #[.int .i64 k.o, .int .i64 k.l, .int .i64 k.m, .slice A k.ps.length cap, .int .i64 k.base, .int .i64 k.last, .string B, .int .i64 s, .int .i64 c, .int .i64 e], .int .i64 1] w fun e w' => e = .returned (.int .i64 (1 + 2 * k.ps.length)) ∧ w'.ownsRow B0 53 2 (.slice A k.ps.length cap) k.ps.length (prs (mk k.ps.length 1)) ∧ w.grownBy w' (Value.slice A k.ps.length cap).ownBlock := by
  have HM := hid (c_markKnown_any k B0 cap A _ (h.alloc (.cells #[.int .i64 k.o, .int .i64 k.l, .int .i64 k.m, .slice A k.ps.length cap, .int .i64 k.base, .int .i64 k.last, .string B, .int .i64 s, .int .i64 c, .int .i64 e] 39)) (by simp; omega) hn)
  obtain ⟨p0, p1, p2, p3, p4, p5, p6, p7, p8, p9⟩ := (Blk.new w 39 #[.int .i64 k.o, .int .i64 k.l, .int .i64 k.m, .slice A k.ps.length cap, .int .i64 k.base, .int .i64 k.last, .string B, .int .i64 s, .int .i64 c, .int .i64 e]).cells10
  have hg0 := World.grownBy_alloc w (.cells #[.int .i64 k.o, .int .i64 k.l, .int .i64 k.m, .slice A k.ps.length cap, .int .i64 k.base, .int .i64 k.last, .string B, .int .i64 s, .int .i64 c, .int .i64 e] 39) (Value.slice A k.ps.length cap).ownBlock
  clear h
  go_enter Tryz.func20, Tryz.ntmps20
  go_wp2_with fail
  refine HM.out.mono ?_
  rintro e w1 ⟨rfl, hown, hg⟩
  have hg2 := grown_trans hg0 hg
  clear hg hg0
  go_wp2
  go_ret
  exact ⟨rfl, hown, hg2⟩

theorem c_heldReader {B : ByteArray} {s c e : Int} (o l m bb t : Int) (A : Option Addr) (cap n L : Nat) (w : World) (h : PsAt w L A cap (mk n 1)) (hL : L ≤ w.heap.size) (hn : n ≤ 1048576) : Calls Tryz.prog 21 #[.agg #[.int .i64 o, .int .i64 l, .int .i64 m, .slice A n cap, .int .i64 bb, .int .i64 t, .string B, .int .i64 s, .int .i64 c, .int .i64 e], .int .i64 1] w fun e w' => e = .returned (.int .i64 (1 + 2 * n)) ∧ Below w.heap.size w w' := by
  have HH := hid (c_heldKnown o l m bb t A cap n L _ (h.alloc hL (.cells #[.int .i64 o, .int .i64 l, .int .i64 m, .slice A n cap, .int .i64 bb, .int .i64 t, .string B, .int .i64 s, .int .i64 c, .int .i64 e] 39)) (by simp; omega) hn)
  obtain ⟨p0, p1, p2, p3, p4, p5, p6, p7, p8, p9⟩ := (Blk.new w 39 #[.int .i64 o, .int .i64 l, .int .i64 m, .slice A n cap, .int .i64 bb, .int .i64 t, .string B, .int .i64 s, .int .i64 c, .int .i64 e]).cells10
  clear h
  go_enter Tryz.func21, Tryz.ntmps21
  go_wp2_with fail
  refine HH.out.mono ?_
  rintro e w1 ⟨rfl, hb1⟩
  go_wp2
  go_ret
  exact ⟨rfl, by exact obB⟩

end Go.Proofs.YtmfnfheahehpcaaGreatDoor
