/- Contracts of the model's own drawing of arguments: settings. -/
import Derived.Test.YtaiemogcboidhaaGreatDoorDraw5
import Derived.Test.YtaiemogcboidhaaGreatDoorBa
namespace Go.Proofs.YtaiemogcboidhaaGreatDoor
open Go.ChangeShapes Go.WideShapes Go.ChangeAt Go.RowKit Go.Joins
set_option linter.unusedVariables false

theorem intsAt_at (w : World) (t : TypeId) (l : List Int) (g : Nat) (hg : g = w.heap.size) : IntsAt (w.alloc (.cells (l.map (Value.int .i64)).toArray t)) g l := by subst hg; exact intsAt_new w t l
theorem alloc_size (w : World) (o : Obj) : (w.alloc o).heap.size = w.heap.size + 1 := by simp

def GoodSet (T : TypeId) (w : World) (L B q k : Nat) (e : Ending) (w' : World) : Prop := ∃ o l m : Int, e = .returned (.agg #[.int .i64 o, .int .i64 l, .int .i64 m]) ∧ setOk o l m = true ∧ Rd T w' L B (q + k) ∧ w.grownBy w' (some B)

set_option maxRecDepth 100000 in
theorem c_l1Some (L B q : Nat) (w : World) (hr : Rd 87 w L B q) (hq : q ≤ 100000000000) :
    Calls Tryz.prog 34 #[.pointer (some ⟨B, 0, none⟩)] w (GoodSet 87 w L B q 5) := by
  have hB := hr.lt
  go_enter Tryz.func34, Tryz.ntmps34
  go_wp2_with fail
  obtain ⟨W1, hW1⟩ : ∃ W1, W1 = (w.alloc (.cells #[.int .i64 0, .int .i64 0, .int .i64 0] 65)).alloc (.cells #[.int .i64 2, .int .i64 3, .int .i64 2, .int .i64 1, .int .i64 8, .int .i64 5] 3) := ⟨_, rfl⟩
  rw [← hW1]
  have hr0 : Rd 87 W1 L B q := by rw [hW1]; exact (hr.alloc _).alloc _
  have hi0 : IntsAt W1 (w.heap.size + 1) [2, 3, 2, 1, 8, 5] := by rw [hW1]; exact intsAt_at _ _ [2, 3, 2, 1, 8, 5] _ (alloc_size _ _).symm
  have hblk0 : Blk W1 w.heap.size 65 #[.int .i64 0, .int .i64 0, .int .i64 0] := by rw [hW1]; exact (Blk.new w _ _).alloc _
  have g0 : w.grownBy W1 (some B) := by rw [hW1]; exact grown_alloc (grown_alloc (grown_refl w _) _) _
  clear hW1 hr
  refine (c_num L B q (w.heap.size + 1) 6 [2, 3, 2, 1, 8, 5] W1 hr0 (by omega) hi0 rfl (by decide) (by decide) (by omega)).mono ?_
  rintro e w1 ⟨l, rfl, hl, hr1, hg1⟩
  have hl1 : 1 ≤ l ∧ l ≤ 8 := by simp at hl; omega
  have hblk := hblk0.grown hg1 (by simp; omega)
  have g1 : w.grownBy w1 (some B) := grown_trans g0 hg1
  clear hblk0 g0 hi0 hr0
  clear hl hg1
  go_wp2_with fail
  refine (c_pick L B (q + 1) (10 - l - 1) w1 hr1 (by omega) (by omega)).mono ?_
  rintro e w2 ⟨x2, rfl, h20, h21, _, hr2, hg2⟩
  have h22 := h21 (by omega)
  have hblk2 := hblk.grown hg2 (by simp; omega)
  have g2 := grown_trans g1 hg2
  clear h21 hblk g1 hg2 hr1
  go_wp2_with fail
  refine (c_pick L B (q + 1 + 1) 2 w2 hr2 (by omega) (by decide)).mono ?_
  rintro e w3 ⟨x3, rfl, h30, h31, _, hr3, hg3⟩
  have hblk3 := hblk2.grown hg3 (by simp; omega)
  have g3 := grown_trans g2 hg3
  clear h31 hblk2 g2 hg3 hr2
  by_cases hx : x3 = 0
  · have hb : (x3 == 0) = true := eq_yes hx
    clear hx
    go_wp2_with fail
    refine (c_pick L B (q + 1 + 1 + 1) 2 w3 hr3 (by omega) (by decide)).mono ?_
    rintro e w4 ⟨x4, rfl, h40, h41, _, hr4, hg4⟩
    have h42 := h41 (by decide)
    have hblk4 := hblk3.grown hg4 (by simp; omega)
    have g4 := grown_trans g3 hg4
    clear h41 hblk3 g3 hg4 hr3
    go_wp2_with fail
    refine (c_pick L B (q + 1 + 1 + 1 + 1) 2 w4 hr4 (by omega) (by decide)).mono ?_
    rintro e w5 ⟨x5, rfl, h50, h51, _, hr5, hg5⟩
    have h52 := h51 (by decide)
    have hblk5 := hblk4.grown hg5 (by simp; omega)
    have g5 := grown_trans g4 hg5
    clear h51 hblk4 g4 hg5 hr4
    have hm : setOk x5 l (min (l + 2 + x4) 10) = true := setOk_iff.2 ⟨by omega, hl1, by omega⟩
    obtain ⟨M, hM⟩ : ∃ M, M = min (l + 2 + x4) 10 := ⟨_, rfl⟩
    rw [← hM] at hm ⊢
    clear hM
    obtain ⟨k0, k1, k2⟩ := hblk5.cells3
    have f0 := hblk5.frozen 0
    have f1 := hblk5.frozen 1
    have f2 := hblk5.frozen 2
    go_wp2
    have gs : w5.grownBy (((w5.setCell ⟨w.heap.size, 0, none⟩ (.int .i64 x5)).setCell ⟨w.heap.size, 1, none⟩ (.int .i64 l)).setCell ⟨w.heap.size, 2, none⟩ (.int .i64 M)) (some w.heap.size) := grown_set (grown_set (grown_set (grown_refl _ _) _ _) _ _) _ _
    have hbs : Blk (((w5.setCell ⟨w.heap.size, 0, none⟩ (.int .i64 x5)).setCell ⟨w.heap.size, 1, none⟩ (.int .i64 l)).setCell ⟨w.heap.size, 2, none⟩ (.int .i64 M)) w.heap.size 65 #[.int .i64 x5, .int .i64 l, .int .i64 M] := ((hblk5.set_ 0 _).set_ 1 _).set_ 2 _
    obtain ⟨j0, j1, j2⟩ := hbs.cells3
    exact bodyPost_ret (v := .agg #[.int .i64 x5, .int .i64 l, .int .i64 M]) (by simp [results, Tryz.results34, go_sem, j0, j1, j2]) rfl ⟨x5, l, M, rfl, hm, (hr5.grown gs (fun g hg => by simp at hg; omega)).more (by omega), grown_own g5 gs (fun g hg => by simp at hg; omega)⟩
  · have hb : (x3 == 0) = false := by simpa using hx
    go_wp2_with fail
    refine (c_pick L B (q + 1 + 1 + 1) 2 w3 hr3 (by omega) (by decide)).mono ?_
    rintro e w5 ⟨x5, rfl, h50, h51, _, hr5, hg5⟩
    have h52 := h51 (by decide)
    have hblk5 := hblk3.grown hg5 (by simp; omega)
    have g5 := grown_trans g3 hg5
    clear h51 hblk3 g3 hg5 hr3
    have hm : setOk x5 l (l + 2 + x2) = true := setOk_iff.2 ⟨by omega, hl1, by omega⟩
    obtain ⟨k0, k1, k2⟩ := hblk5.cells3
    have f0 := hblk5.frozen 0
    have f1 := hblk5.frozen 1
    have f2 := hblk5.frozen 2
    go_wp2
    have gs : w5.grownBy (((w5.setCell ⟨w.heap.size, 0, none⟩ (.int .i64 x5)).setCell ⟨w.heap.size, 1, none⟩ (.int .i64 l)).setCell ⟨w.heap.size, 2, none⟩ (.int .i64 (l + 2 + x2))) (some w.heap.size) := grown_set (grown_set (grown_set (grown_refl _ _) _ _) _ _) _ _
    have hbs : Blk (((w5.setCell ⟨w.heap.size, 0, none⟩ (.int .i64 x5)).setCell ⟨w.heap.size, 1, none⟩ (.int .i64 l)).setCell ⟨w.heap.size, 2, none⟩ (.int .i64 (l + 2 + x2))) w.heap.size 65 #[.int .i64 x5, .int .i64 l, .int .i64 (l + 2 + x2)] := ((hblk5.set_ 0 _).set_ 1 _).set_ 2 _
    obtain ⟨j0, j1, j2⟩ := hbs.cells3
    exact bodyPost_ret (v := .agg #[.int .i64 x5, .int .i64 l, .int .i64 (l + 2 + x2)]) (by simp [results, Tryz.results34, go_sem, j0, j1, j2]) rfl ⟨x5, l, (l + 2 + x2), rfl, hm, (hr5.grown gs (fun g hg => by simp at hg; omega)).more (by omega), grown_own g5 gs (fun g hg => by simp at hg; omega)⟩

def BadSet (T : TypeId) (w : World) (L B q k : Nat) (e : Ending) (w' : World) : Prop := ∃ o l m : Int, e = .returned (.agg #[.int .i64 o, .int .i64 l, .int .i64 m]) ∧ (-9223372036854775808 ≤ o ∧ o ≤ 9223372036854775807) ∧ (-9223372036854775808 ≤ l ∧ l ≤ 9223372036854775807) ∧ (-9223372036854775808 ≤ m ∧ m ≤ 9223372036854775807) ∧ Rd T w' L B (q + k) ∧ w.grownBy w' (some B)

theorem fld_set {T : TypeId} {w w2 : World} {L B q : Nat} (hB : B < w.heap.size) (hr : Rd T w2 L B q) (g : w.grownBy w2 (some B)) (R : Nat) (hR : w.heap.size ≤ R) (i : Nat) (a : Value) :
    Rd T (w2.setCell ⟨R, i, none⟩ a) L B q ∧ w.grownBy (w2.setCell ⟨R, i, none⟩ a) (some B) :=
  have gs := grown_set (grown_refl w2 (some R)) i a
  ⟨hr.grown gs (fun g hg => by simp at hg; omega), grown_own g gs (fun g hg => by simp at hg; omega)⟩
theorem set_end {T S : TypeId} {w w2 : World} {L B q : Nat} (hB : B < w.heap.size) (hr : Rd T w2 L B q) (g : w.grownBy w2 (some B)) (R : Nat) (hR : w.heap.size ≤ R) {x y z : Value} (hc : Blk w2 R S #[x, y, z]) (a b c : Value) :
    Rd T (((w2.setCell ⟨R, 0, none⟩ a).setCell ⟨R, 1, none⟩ b).setCell ⟨R, 2, none⟩ c) L B q ∧ w.grownBy (((w2.setCell ⟨R, 0, none⟩ a).setCell ⟨R, 1, none⟩ b).setCell ⟨R, 2, none⟩ c) (some B) ∧ Blk (((w2.setCell ⟨R, 0, none⟩ a).setCell ⟨R, 1, none⟩ b).setCell ⟨R, 2, none⟩ c) R S #[a, b, c] := by
  have h1 := fld_set hB hr g R hR 0 a
  have h2 := fld_set hB h1.1 h1.2 R hR 1 b
  have h3 := fld_set hB h2.1 h2.2 R hR 2 c
  exact ⟨h3.1, h3.2, ((hc.set_ 0 _).set_ 1 _).set_ 2 _⟩
theorem Blk.set_other {w : World} {g R : Nat} {t : TypeId} {cs : Array Value} (h : Blk w g t cs) (i : Nat) (a : Value) (hn : g ≠ R) : Blk (w.setCell ⟨R, i, none⟩ a) g t cs :=
  h.grown (grown_set (grown_refl w (some R)) i a) (by simp; omega)

def ASetting (w : World) (e : Ending) (w' : World) : Prop := ∃ o l m : Int, e = .returned (.agg #[.int .i64 o, .int .i64 l, .int .i64 m]) ∧ (-9223372036854775808 ≤ o ∧ o ≤ 9223372036854775807) ∧ (-9223372036854775808 ≤ l ∧ l ≤ 9223372036854775807) ∧ (-9223372036854775808 ≤ m ∧ m ≤ 9223372036854775807) ∧ Below w.heap.size w w'

theorem below_size {w w' : World} {R : Nat} (h : Below R w w') : w.heap.size ≤ w'.heap.size := h.size
end Go.Proofs.YtaiemogcboidhaaGreatDoor
