/- Contracts of the model's own drawing of arguments: a string of a list; hexadecimal texts. -/
import Derived.Test.YtgfclblooadomaaDraw3
import Derived.Test.YtgfclblooadomaaWhex
import Derived.Test.YtgfclblooadomaaDraw5
import Derived.Deep.RegionHeld3
namespace Go.Proofs.Ytgfclblooadomaa
open Go.ChangeShapes Go.WideShapes Go.ChangeAt Go.RowKit Go.Joins
set_option linter.unusedVariables false

/-- the strings of a list, in block g -/
def StrsAt (w : World) (g : Nat) (l : List ByteArray) : Prop := ∀ i x, l[i]? = some x → w.cell? ⟨g, i, none⟩ = some (.string x)
def StrOf (T : TypeId) (w : World) (L B q : Nat) (l : List ByteArray) (e : Ending) (w' : World) : Prop := ∃ r : ByteArray, e = .returned (.string r) ∧ r ∈ l ∧ Rd T w' L B (q + 1) ∧ w.grownBy w' (some B)
theorem strsAt_new (w : World) (t : TypeId) (l : List ByteArray) : StrsAt (w.alloc (.cells (l.map Value.string).toArray t)) w.heap.size l := by
  intro i x hx
  rw [(Blk.new w t (l.map Value.string).toArray).cell i]
  simp [hx]

theorem c_of (L B q g n : Nat) (l : List ByteArray) (w : World) (hr : Rd 94 w L B q) (hq : q ≤ 1000000000000) (hl : StrsAt w g l) (hn : l.length = n) (h0 : 0 < n) (h1 : n ≤ 1000) (hg : g ≠ B) :
    Calls Try.prog 92 #[.pointer (some ⟨B, 0, none⟩), .slice (some ⟨g, 0, none⟩) n n] w (StrOf 94 w L B q l) := by
  have HN := hid hn
  clear hn
  go_enter Try.func92, Try.ntmps92
  go_wp2_with fail
  refine (c_pick L B q n w hr hq (by omega)).mono ?_
  rintro e w1 ⟨r, rfl, hr0, hr1, _, hrd, hgr⟩
  have hr2 := hr1 (by omega)
  obtain ⟨R, rfl⟩ := Int.eq_ofNat_of_zero_le hr0
  have hRl : R < l.length := by rw [HN.out]; omega
  obtain ⟨x, hx⟩ : ∃ x, l[R]? = some x := ⟨l[R], List.getElem?_eq_getElem hRl⟩
  have hc : w1.cell? ⟨g, R, none⟩ = some (.string x) := hgr.cell (hl R x hx) (by simp; omega)
  have HM := hid (List.mem_of_getElem? hx)
  clear hx hr1 hRl
  go_wp2
  go_ret
  exact ⟨x, rfl, HM.out, hrd, hgr⟩

def AStr (w : World) (m : Nat) (e : Ending) (w' : World) : Prop := ∃ s : ByteArray, e = .returned (.string s) ∧ s.size ≤ m ∧ Below w.heap.size w w'

theorem c_DrawTurnBytes (A' : Option Addr) (n cap : Nat) (w : World) (hc : CodeAt w w.heap.size A' n cap) : Calls Try.prog 90 #[.slice A' n cap] w (AStr w 5000) := by
  go_enter Try.func90, Try.ntmps90
  go_wp2_with fail
  refine (c_DrawUnpackBits _ _ _ _ hc).mono ?_
  rintro e w1 ⟨x, s, rfl, hx, hs, hb1⟩
  go_wp2
  go_ret
  exact ⟨s, rfl, hs, hb1⟩

theorem c_DrawFormatHex (A' : Option Addr) (n cap : Nat) (w : World) (hc : CodeAt w w.heap.size A' n cap) : Calls Try.prog 47 #[.slice A' n cap] w (AStr w 5000) := by
  go_enter Try.func47, Try.ntmps47
  go_wp2_with fail
  refine (c_DrawTurnBytes _ _ _ _ hc).mono ?_
  rintro e w1 ⟨s, rfl, hs, hb1⟩
  go_wp2
  go_ret
  exact ⟨s, rfl, hs, hb1⟩

theorem Rd.drew {T : TypeId} {w : World} {L B q : Nat} (h : Rd T w L B q) : Rd T w.drew L B q := h
theorem small_of {r : ByteArray} (h : r ∈ [(⟨#[]⟩ : ByteArray), ⟨#[48]⟩, ⟨#[103]⟩, ⟨#[65]⟩, ⟨#[102, 102]⟩]) : r.size ≤ 100 := by
  simp only [List.mem_cons, List.not_mem_nil, or_false] at h
  rcases h with rfl | rfl | rfl | rfl | rfl <;> decide

set_option maxRecDepth 100000 in
set_option maxHeartbeats 4000000 in
theorem c_DrawParseHex (A' : Option Addr) (n cap : Nat) (w : World) (L : Nat) (hL : L ≤ w.heap.size) (hc : CodeAt w L A' n cap) : Calls Try.prog 51 #[.slice A' n cap] w (AStr w 1000) := by
  go_enter Try.func51, Try.ntmps51
  go_wp2_with fail
  refine (c_l9Open _ _ _ _ _ hc hL).mono ?_
  rintro e w1 ⟨rfl, hr1, hb1, hz1⟩
  go_wp2_with fail
  refine (c_l1Bytes _ _ 0 10 _ hr1 (by omega) (by decide)).mono ?_
  rintro e w2 ⟨l, rfl, hl, hr2, hg2⟩
  have b2 := bel_grown hb1 hg2 (Nat.le_refl _)
  obtain ⟨S, hS⟩ : ∃ S, S = str l := ⟨_, rfl⟩
  have hSz : S.size ≤ 10 := by rw [hS, str_size]; exact hl
  rw [← hS]
  clear hS hl
  obtain ⟨T, hT⟩ : ∃ T, T = str (M.fmtHex S.data.toList) := ⟨_, rfl⟩
  have H1 := hid (show ∀ w, Calls Try.prog 49 #[.string S] w fun e w' => e = .returned (.string T) ∧ Below w.heap.size w w' by intro w; rw [hT]; exact c_sFormatHex_yes S w (by omega))
  have hTz : T.size ≤ 20 := by
    rw [hT, str_size, M.fmtHex, if_pos (by simp; omega), M.hex_length]; simp; omega
  clear hT
  go_wp2_with fail
  refine (H1.out _).mono ?_
  rintro e w3 ⟨rfl, hb3⟩
  have hr3 := hr2.below hb3
  have b3 := bel_trans b2 hb3
  go_wp2_with fail
  refine (c_pick _ _ _ 2 _ hr3 (by omega) (by decide)).mono ?_
  rintro e w4 ⟨x4, rfl, h40, h41, _, hr4, hg4⟩
  have b4 := bel_grown b3 hg4 (Nat.le_refl _)
  by_cases hx : x4 = 0
  · have hb : (x4 == 0) = true := eq_yes hx
    clear hx
    go_wp2
    go_ret
    exact ⟨T, rfl, by omega, b4⟩
  · have hb : (x4 == 0) = false := by simpa using hx
    clear hx
    by_cases he : T.size = 0
    · obtain rfl : T = ByteArray.empty := ByteArray.ext (Array.eq_empty_of_size_eq_zero he)
      go_wp2
      go_ret
      exact ⟨_, rfl, by decide, b4⟩
    cases hE : T.toList.isEmpty with
    | true =>
      go_wp2
      go_ret
      exact ⟨T, rfl, by omega, b4⟩
    | false =>
      have hT1 : 1 ≤ T.size := by omega
      clear he
      go_wp2_with fail
      refine (c_pick _ _ _ T.size _ hr4 (by omega) (by omega)).mono ?_
      rintro e w5 ⟨k, rfl, h50, h51, _, hr5, hg5⟩
      have h52 := h51 (by omega)
      have b5 := bel_grown b4 hg5 (Nat.le_refl _)
      clear h51 hg5 b4
      have hBB : w.heap.size ≤ w.heap.size := Nat.le_refl _
      obtain ⟨P1, hP1⟩ : ∃ P1, P1 = T.extract 0 k.toNat := ⟨_, rfl⟩
      obtain ⟨P2, hP2⟩ : ∃ P2 : Int → ByteArray, P2 = fun j => T.extract (k + j).toNat T.size := ⟨_, rfl⟩
      have z1 : P1.size ≤ 100 := by rw [hP1, ByteArray.size_extract]; omega
      have z2 : ∀ j, (P2 j).size ≤ 100 := by intro j; rw [hP2]; simp only [ByteArray.size_extract]; omega
      have a1 : ∀ W, (Instr.slice 9 (.string T) none (some (.int .i64 k)) none).run Try.prog W = .ok (.string P1) W := by
        intro W; rw [run_slice_string_to_if W _ _ _ _ Try.underlying9, if_pos (by omega), hP1]
      have a2 : ∀ j W, 0 ≤ j → j < 2 → (Instr.slice 9 (.string T) (some (.int .i64 (k + j))) none none).run Try.prog W = .ok (.string (P2 j)) W := by
        intro j W j0 j1; rw [run_slice_string_from_if W _ _ _ _ Try.underlying9, if_pos (by omega), hP2]
      have a3 : ∀ j : Int, 0 ≤ j → j < 2 → IntKind.i64.wrap (k + j) = k + j := fun j j0 j1 => IntWalk.i64_in _ (by omega)
      have a4 : ∀ (r : ByteArray) W, r.size ≤ 100 → (Op.stringOp .add P1 r).run Try.prog W = .ok (.string (P1 ++ r)) W := fun r W hr => run_string_add W _ _ (by omega) (by omega)
      have a5 : ∀ (r : ByteArray) (j : Int) W, r.size ≤ 100 → (Op.stringOp .add (P1 ++ r) (P2 j)).run Try.prog W = .ok (.string (P1 ++ r ++ P2 j)) W := fun r j W hr => run_string_add W _ _ (by rw [ByteArray.size_append]; omega) (by have := z2 j; omega)
      clear hP1 hP2
      go_wp2_with fail
      go_region_held3 (fun v : World => Below w.heap.size w v)
        (first | assumption | exact bel_drew b5 | exact bel_alloc (by assumption) _ | exact bel_grown (by assumption) hg7 hBB | exact bel_grown (by assumption) hg8 hBB)
        (first | (go_at_call 92; refine (c_of L w.heap.size 13 _ 5 [⟨#[]⟩, ⟨#[48]⟩, ⟨#[103]⟩, ⟨#[65]⟩, ⟨#[102, 102]⟩] _ (Rd.alloc (Rd.drew hr5) _) (by omega) (by exact strsAt_new w5.drew _ _) rfl (by decide) (by decide) (by have := hr5.lt; simp; omega)).mono ?_; rintro e w7 ⟨r, rfl, hrm, hr7, hg7⟩; have hrs := small_of hrm) | (go_at_call 65; refine (c_pick L w.heap.size 14 2 w7 hr7 (by omega) (by decide)).mono ?_; rintro e w8 ⟨j, rfl, j0, j1, _, hr8, hg8⟩; have j2 := j1 (by decide); clear j1))
      all_goals
        go_wp2
        go_ret
        exact ⟨P1 ++ r ++ P2 j, rfl, by rw [ByteArray.size_append, ByteArray.size_append]; have := z2 j; omega, by assumption⟩
end Go.Proofs.Ytgfclblooadomaa
