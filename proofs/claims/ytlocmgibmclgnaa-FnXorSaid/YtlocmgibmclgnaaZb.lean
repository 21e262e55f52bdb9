/- Contracts of the model's own drawing of arguments: strings of bits, with an order. -/
import Derived.Test.YtlocmgibmclgnaaDraw3
namespace Go.Proofs.Ytlocmgibmclgnaa
open Go.ChangeShapes Go.WideShapes Go.ChangeAt Go.RowKit Go.Joins
set_option linter.unusedVariables false

/-- the strings of a list, in block g -/
def SsAt (w : World) (g : Nat) (l : List ByteArray) : Prop := ∀ i x, l[i]? = some x → w.cell? ⟨g, i, none⟩ = some (.string x)
def SomeS (T : TypeId) (w : World) (L B q : Nat) (l : List ByteArray) (e : Ending) (w' : World) : Prop := ∃ r : ByteArray, e = .returned (.string r) ∧ r ∈ l ∧ Rd T w' L B (q + 1) ∧ w.grownBy w' (some B)
theorem ssAt_new (w : World) (t : TypeId) (l : List ByteArray) : SsAt (w.alloc (.cells (l.map Value.string).toArray t)) w.heap.size l := by
  intro i x hx
  rw [(Blk.new w t (l.map Value.string).toArray).cell i]
  simp [hx]

theorem c_ofS (L B q g n : Nat) (l : List ByteArray) (w : World) (hr : Rd 111 w L B q) (hq : q ≤ 1000000000000) (hl : SsAt w g l) (hn : l.length = n) (h0 : 0 < n) (h1 : n ≤ 1000) (hg : g ≠ B) :
    Calls Try.prog 123 #[.pointer (some ⟨B, 0, none⟩), .slice (some ⟨g, 0, none⟩) n n] w (SomeS 111 w L B q l) := by
  have HN := hid hn
  clear hn
  go_enter Try.func123, Try.ntmps123
  go_wp2_with fail
  refine (c_pick L B q n w hr hq (by omega)).mono ?_
  rintro e w1 ⟨r, rfl, hr0, hr1, _, hrd, hgr⟩
  have hr2 := hr1 (by omega)
  obtain ⟨R, rfl⟩ := Int.eq_ofNat_of_zero_le hr0
  have hRl : R < l.length := by rw [HN.out]; omega
  obtain ⟨x, hx⟩ : ∃ x, l[R]? = some x := ⟨l[R], List.getElem?_eq_getElem hRl⟩
  have hc : w1.cell? ⟨g, R, none⟩ = some (.string x) := hgr.cell (hl R x hx) (by simp; omega)
  have HM := hid (List.mem_of_getElem? hx)
  clear hx hr1 hRl
  go_wp2
  go_ret
  exact ⟨x, rfl, HM.out, hrd, hgr⟩

/-- what DrawBitsValid answers -/
def OneS (w : World) (m : Nat) (e : Ending) (w' : World) : Prop := ∃ s : ByteArray, e = .returned (.string s) ∧ s.size ≤ m ∧ Below w.heap.size w w'
theorem one_of3 {r : ByteArray} (h : r ∈ ([⟨#[50]⟩, ⟨#[32]⟩, ⟨#[97]⟩] : List ByteArray)) : r.size ≤ 1 := by
  simp at h; rcases h with rfl | rfl | rfl <;> decide

theorem c_DrawBitsValid (A' : Option Addr) (n cap L : Nat) (w : World) (hc : CodeAt w L A' n cap) (hL : L ≤ w.heap.size) : Calls Try.prog 97 #[.slice A' n cap] w (OneS w 33000) := by
  go_enter Try.func97, Try.ntmps97
  go_wp2_with fail
  refine (c_l9Open _ _ _ _ _ hc hL).mono ?_
  rintro e w1 ⟨rfl, hr1, hb1, hz1⟩
  go_wp2_with fail
  refine (c_l1Bits _ _ 0 40 _ hr1 (by omega) (by decide)).mono ?_
  rintro e w2 ⟨l, rfl, hl, hr2, hg2⟩
  obtain ⟨S, hS⟩ : ∃ S, S = str l := ⟨_, rfl⟩
  have hSz : S.size ≤ 40 := by rw [hS, str_size]; exact hl
  rw [← hS]
  clear hS hl
  go_wp2_with fail
  refine (c_pick _ _ _ 30 _ hr2 (by omega) (by decide)).mono ?_
  rintro e w3 ⟨x3, rfl, h30, h31, _, hr3, hg3⟩
  have b3 := bel_grown (bel_grown hb1 hg2 (Nat.le_refl _)) hg3 (Nat.le_refl _)
  by_cases hx : x3 = 0
  · have hb : (x3 == 0) = true := eq_yes hx
    clear hx
    go_wp2_with fail
    refine (c_ofS _ _ _ w3.heap.size 3 [⟨#[50]⟩, ⟨#[32]⟩, ⟨#[97]⟩] _ (hr3.alloc _) (by omega) (by exact ssAt_new w3 _ _) rfl (by decide) (by decide) (by have := hr3.lt; omega)).mono ?_
    rintro e w4 ⟨x4, rfl, hx4, hr4, hg4⟩
    have hx5 := one_of3 hx4
    have b4 := bel_grown (bel_alloc b3 _) hg4 (Nat.le_refl _)
    clear hx4
    go_wp2
    go_ret
    exact ⟨_, rfl, by rw [ByteArray.size_append]; omega, b4⟩
  · have hb : (x3 == 0) = false := by simpa using hx
    clear hx
    by_cases hy : x3 = 1
    · have hb1' : (x3 == 1) = true := eq_yes hy
      clear hy
      go_wp2_with fail
      refine (c_num _ _ _ w3.heap.size 2 [32000, 32001] _ (hr3.alloc _) (by omega) (by exact intsAt_new w3 _ _) rfl (by decide) (by decide) (by have := hr3.lt; omega)).mono ?_
      rintro e w4 ⟨x4, rfl, hx4, hr4, hg4⟩
      have hx5 : 0 ≤ x4 ∧ x4 ≤ 32001 := by simp at hx4; omega
      have b4 := bel_grown (bel_alloc b3 _) hg4 (Nat.le_refl _)
      clear hx4
      go_wp2_with fail
      refine (c_l9Many [49] x4 _ (by omega) (by omega) (by decide)).mono ?_
      rintro e w' ⟨rfl, rfl⟩
      go_wp2
      go_ret
      exact ⟨_, rfl, by rw [str_size, rep_len]; simp; omega, b4⟩
    · have hb1' : (x3 == 1) = false := by simpa using hy
      clear hy
      go_wp2
      go_ret
      exact ⟨S, rfl, by omega, b3⟩

theorem c_DrawPadBits (A' : Option Addr) (n cap L : Nat) (w : World) (hc : CodeAt w L A' n cap) (hL : L ≤ w.heap.size) : Calls Try.prog 43 #[.slice A' n cap] w (OneS w 33000) := by
  go_enter Try.func43, Try.ntmps43
  go_wp2_with fail
  refine (c_DrawBitsValid _ _ _ _ _ hc hL).mono ?_
  rintro e w1 ⟨s, rfl, hs, hb1⟩
  go_wp2
  go_ret
  exact ⟨s, rfl, hs, by (repeat (first | with_reducible (first | assumption | exact Below.refl _ _ | refine bel_alloc ?_ _ | refine bel_drew ?_ | refine bel_drewN ?_ _ | refine bel_set ?_ (by first | omega | (simp; done) | (simp; omega)) _ | refine bel_trans ?_ (by assumption)) | assumption | refine bel_trans ?_ (by assumption)))⟩

theorem c_DrawPackBits (A' : Option Addr) (n cap L : Nat) (w : World) (hc : CodeAt w L A' n cap) (hL : L ≤ w.heap.size) : Calls Try.prog 46 #[.slice A' n cap] w (IntStr w 33000) := by
  go_enter Try.func46, Try.ntmps46
  go_wp2_with fail
  refine (c_DrawBitsValid _ _ _ _ _ hc hL).mono ?_
  rintro e w1 ⟨s, rfl, hs, hb1⟩
  have hc1 : CodeAt w1 L A' n cap := hc.keep (fun k hk => hb1.block k (by omega))
  go_wp2_with fail
  refine (c_l9Open _ _ _ _ _ hc1 (by have := hb1.size; omega)).mono ?_
  rintro e w2 ⟨rfl, hr2, hb2, hz2⟩
  go_wp2_with fail
  refine (c_l1Which _ _ _ _ hr2 (by omega)).mono ?_
  rintro e w3 ⟨x, rfl, hx, hr3, hg3⟩
  go_wp2
  go_ret2
  exact ⟨x, s, rfl, hx, hs, bel_trans hb1 (bel_grown hb2 hg3 (Nat.le_refl _))⟩
end Go.Proofs.Ytlocmgibmclgnaa
