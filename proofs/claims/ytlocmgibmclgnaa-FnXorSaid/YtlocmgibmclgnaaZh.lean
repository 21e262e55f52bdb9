/- The model's drawing of a list of strings; the law on XorTexts: the mathematics. -/
import Derived.Test.YtlocmgibmclgnaaYr
import Derived.Test.YtlocmgibmclgnaaDraw3
import Derived.Test.YtlocmgibmclgnaaZc
namespace Go.Proofs.Ytlocmgibmclgnaa
open Go.ChangeShapes Go.WideShapes Go.ChangeAt Go.RowKit Go.Joins
set_option linter.unusedVariables false
set_option linter.unusedSimpArgs false

theorem xall_snoc (l : List ByteArray) (a : ByteArray) : xall (l ++ [a]) = xs1 (xall l) a := by
  unfold xall; rw [List.foldl_append]; rfl
theorem xall_rev (l : List ByteArray) : xall l.reverse = xall l := by
  induction l with
  | nil => rfl
  | cons a l ih => rw [List.reverse_cons, xall_snoc, ih, ← xall_snoc, ← xall_turn]
def mxL : List ByteArray → Nat
  | [] => 0
  | a :: l => max a.size (mxL l)
theorem xall_mx (l : List ByteArray) : (xall l).length = mxL l := by
  induction l with
  | nil => rfl
  | cons a l ih => rw [xall_turn, xall_snoc, xs1_len, ih, mxL]; omega
theorem mxL_le {l : List ByteArray} {n : Nat} (h : ∀ s ∈ l, s.size ≤ n) : mxL l ≤ n := by
  induction l with
  | nil => exact Nat.zero_le _
  | cons a l ih =>
    have h1 := h a (by simp)
    have h2 := ih (fun s hs => h s (by simp [hs]))
    rw [mxL]; omega
theorem byteAt_str (L : List UInt8) (i : Nat) : byteAt (str L) i = L.getD i 0 := by rw [byteAt, str_list]
theorem xall_one (L : List UInt8) : xall [str L] = L := by
  show xs1 [] (str L) = L
  apply list_getD
  · rw [xs1_len, str_size]; simp
  · intro i; rw [xs1_get, byteAt_str]; simp
theorem xall_zero (l : List ByteArray) : xall (str (xall l) :: l.reverse) = List.replicate (mxL l) 0 := by
  rw [xall_turn, xall_snoc, xall_rev]
  apply list_getD
  · rw [xs1_len, str_size, xall_mx, List.length_replicate]; omega
  · intro i
    rw [xs1_get, byteAt_str]
    simp only [UInt8.xor_self]
    rw [List.getD_eq_getElem?_getD, List.getElem?_replicate]
    split <;> rfl
theorem drop_rev (l : List ByteArray) (j : Nat) (h : j < l.length) : (l.drop j).reverse = (l.drop (j + 1)).reverse ++ [l[j]] := by
  rw [List.drop_eq_getElem_cons h, List.reverse_cons]
theorem drop_mx (l : List ByteArray) (j : Nat) (h : j < l.length) : mxL (l.drop j) = max l[j].size (mxL (l.drop (j + 1))) := by
  rw [List.drop_eq_getElem_cons h, mxL]

theorem own_grownS {w w' : World} {M B : Nat} {e : TypeId} {v : Value} {n : Nat} {xs : List Value} (h : w.ownsRow M e 1 v n xs) (hg : w.grownBy w' (some B)) (hB : B < M) : w'.ownsRow M e 1 v n xs := own_grown h hg hB

/-- what l7Texts answers -/
def Texts (T : TypeId) (E : TypeId) (w : World) (L B q : Nat) (e : Ending) (w' : World) : Prop := ∃ (v : Value) (l : List ByteArray), e = .returned v ∧ w'.ownsRow w.heap.size E 1 v l.length (l.map sv) ∧ l.length ≤ 5 ∧ (∀ s ∈ l, s.size ≤ 9) ∧ Rd T w' L B (q + 61) ∧ w.grownBy w' (some B)

theorem own_e1 (W : World) : (W.alloc (.cells #[] 9)).ownsRow W.heap.size 9 1 (.slice (some ⟨W.heap.size, 0, none⟩) 0 0) 0 (([] : List ByteArray).map sv) := World.ownsRow_made (e := 9) (size := 1) (base := W.heap.size) W #[] 0 (Nat.le_refl _) (by simp) (by simp [maxLen])

set_option maxHeartbeats 2000000 in
theorem c_l7Texts (L B q : Nat) (w : World) (hr : Rd 111 w L B q) (hq : q ≤ 1000000) :
    Calls Try.prog 55 #[.pointer (some ⟨B, 0, none⟩)] w (Texts 111 9 w L B q) := by
  have hB := hr.lt
  have HE := hid (own_e1 w)
  have hr1 := hr.alloc (.cells #[] 9)
  have hg1 : w.grownBy (w.alloc (.cells #[] 9)) none := World.grownBy_alloc w _ _
  go_enter Try.func55, Try.ntmps55
  go_wp2_with fail
  refine (c_pick L B q 6 _ hr1 (by omega) (by decide)).mono ?_
  rintro e w2 ⟨N, rfl, hN0, hN1, _, hr2, hg2⟩
  have hN2 := hN1 (by omega)
  clear hN1
  obtain ⟨N, rfl⟩ := Int.eq_ofNat_of_zero_le hN0
  have hown2 := own_grownS HE.out hg2 hB
  go_wp2_with fail
  go_loopw [3, 4] (fun v i wr => ∃ (j k : Nat) (l : List ByteArray), i = .int .i64 j ∧ Hid (k + j = N) ∧ j ≤ N ∧ wr.ownsRow w.heap.size 9 1 v k (l.map sv) ∧ (∀ s ∈ l, s.size ≤ 9) ∧ Rd 111 wr L B (q + 1 + 10 * k) ∧ w.grownBy wr (some B)) (fun _ i _ => (intOf i).toNat)
  case atStart => exact ⟨N, 0, [], rfl, hid (by omega), Nat.le_refl _, hown2, by simp, hr2, grown_trans (grown_none _ hg1) hg2⟩
  case round =>
    obtain ⟨j, k, l, rfl, HK, hj, hown, hls, hrd, hgr⟩ := hrel
    have hk := HK.out
    have hkN : k ≤ N := by omega
    clear hk
    have hsz := hgr.size
    by_cases hz : 0 < j
    · go_wp2_with fail
      refine (c_l1Bytes L B (q + 1 + 10 * k) 9 wr hrd (by omega) (by omega)).mono ?_
      rintro e w3 ⟨c, rfl, hc0, hr3, hg3⟩
      have hown3 := own_grownS hown hg3 hB
      have hsz3 := hg3.size
      obtain ⟨X, hX⟩ : ∃ X, X = str c := ⟨_, rfl⟩
      have hXs : X.size ≤ 9 := by rw [hX, str_size]; exact hc0
      rw [← hX]
      clear hX
      go_wp2_with (at_builtin; refine app_txt rfl _ _ 23 rfl w.heap.size 9 Try.underlying23 Try.info_txt _ k l rfl hown3 X X rfl 1 rfl (by omega) (by omega) ?_; intro v4 w4 hown4 hb4 hg4)
      have hge := own_ge hown3
      go_roundw
      case rel => exact ⟨j - 1, k + 1, _, by simp; omega, hid (by have := HK.out; omega), by omega, hown4, (fun s hs => by rcases List.mem_append.1 hs with h1 | h1; exact hls s h1; simp at h1; subst h1; exact hXs), (hr3.more (by omega)).grown hg4 (fun g hg => by have := hge g hg; omega), grown_own (grown_trans hgr hg3) hg4 hge⟩
      case measure => simp [intOf]; omega
    · have hl := hown.1
      rw [svs_len] at hl
      have hjk := HK.out
      have HL := hid (show l.length = k by omega)
      clear hjk hl
      go_wp2
      go_ret
      exact ⟨_, l, rfl, by rw [HL.out]; exact hown, by rw [HL.out]; omega, hls, hrd.more (by omega), hgr⟩

theorem c_DrawXorTexts (A' : Option Addr) (n cap : Nat) (w : World) (hc : CodeAt w w.heap.size A' n cap) : Calls Try.prog 14 #[.slice A' n cap] w fun e w' => ∃ (v : Value) (l : List ByteArray), e = .returned v ∧ w'.ownsRow w.heap.size 9 1 v l.length (l.map sv) ∧ l.length ≤ 5 ∧ (∀ s ∈ l, s.size ≤ 9) ∧ Below w.heap.size w w' := by
  go_enter Try.func14, Try.ntmps14
  go_wp2_with fail
  refine (c_l9Open _ _ _ _ _ hc (Nat.le_refl _)).mono ?_
  rintro e w1 ⟨rfl, hr1, hb1, hz1⟩
  go_wp2_with fail
  refine (c_l7Texts _ _ 0 _ hr1 (by omega)).mono ?_
  rintro e w2 ⟨v, l, rfl, hown, hl, hls, hr2, hg2⟩
  go_wp2_with fail
  go_ret
  exact ⟨v, l, rfl, own_mono (B' := w.heap.size) hown hb1.size, hl, hls, bel_grown hb1 hg2 (Nat.le_refl _)⟩
end Go.Proofs.Ytlocmgibmclgnaa
