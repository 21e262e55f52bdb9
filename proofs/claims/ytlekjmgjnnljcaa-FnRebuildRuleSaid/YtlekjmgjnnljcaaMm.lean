/- What draws lists and parities for RebuildText. -/
import Derived.Test.YtlekjmgjnnljcaaMk
namespace Go.Proofs.Ytlekjmgjnnljcaa
open Go.ChangeShapes Go.WideShapes Go.ChangeAt Go.RowKit Go.Joins
set_option linter.unusedVariables false
set_option linter.unusedSimpArgs false

theorem xall_le (M : Nat) (l : List ByteArray) (h : ∀ s ∈ l, s.size ≤ M) : (xall l).length ≤ M := by
  have : ∀ (q : List ByteArray) (R : List UInt8), (∀ s ∈ q, s.size ≤ M) → R.length ≤ M → (q.foldl xs1 R).length ≤ M := by
    intro q
    induction q with
    | nil => intro R _ hR; exact hR
    | cons a q ih =>
      intro R hq hR
      rw [List.foldl_cons]
      exact ih _ (fun s hs => hq s (by simp [hs])) (by rw [xs1_len]; have := hq a (by simp); omega)
  exact this _ _ h (by simp)

set_option maxRecDepth 100000 in
set_option maxHeartbeats 1000000 in
theorem c_l7Parity (A : Option Addr) (cap : Nat) (l : List ByteArray) (L : Nat) (w : World) (h : StrsAt w L A cap l) (hL : L ≤ w.heap.size) (hn : l.length ≤ 1000) (hS : ∀ s ∈ l, s.size ≤ 1000) : Calls Try.prog 20 #[.slice A l.length cap] w fun e w' => (∃ p : ByteArray, e = .returned (.string p) ∧ p.size ≤ 1002) ∧ Below w.heap.size w w' := by
  obtain ⟨N, hN⟩ : ∃ N, N = l.length := ⟨_, rfl⟩
  have HN := hid hN
  have HH := hid h
  have HE := hid (own_e1 w)
  have HX1 := hid (fun (v : World) (hb : Below w.heap.size w v) => c_sXorTexts A cap l L v (h.below hb hL) (Nat.le_trans hL hb.size) (fun s hs => by have := hS s hs; omega))
  have HXl := hid (show (str (xall l)).size ≤ 1000 by rw [str_size]; exact xall_le 1000 l hS)
  rw [← hN] at hn HX1 ⊢
  clear hN h
  go_enter Try.func20, Try.ntmps20
  go_wp2_with fail
  go_loopw [3, 4] (fun v i wr => ∃ k : Nat, k ≤ N ∧ i = .int .i64 k ∧ wr.ownsRow w.heap.size 9 1 v k ((lens (l.take k)).map sv) ∧ Below w.heap.size w wr) (fun _ i _ => N - (intOf i).toNat)
  case atStart => exact ⟨0, Nat.zero_le _, rfl, HE.out, by (repeat (first | with_reducible (first | assumption | exact Below.refl _ _ | refine bel_alloc ?_ _ | refine bel_drew ?_ | refine bel_drewN ?_ _ | refine bel_set ?_ (by first | omega | (simp; done) | (simp; omega)) _ | refine bel_trans ?_ (by assumption)) | assumption | refine bel_trans ?_ (by assumption)))⟩
  case round =>
    obtain ⟨k, hk, rfl, hown, hbl⟩ := hrel
    have hsz := hbl.size
    by_cases hlt : k < N
    · have hlt2 : k < l.length := by have := HN.out; omega
      have hlti : (k : Int) < (N : Int) := by omega
      obtain ⟨b, off, rfl, hb, hc0⟩ := txt_at (HH.out.below hbl hL) k hlt2
      have hLT := hid (lens_take l k hlt2)
      have hTs := hS _ (List.getElem_mem hlt2)
      obtain ⟨T, hT⟩ : ∃ T, T = l[k] := ⟨_, rfl⟩
      rw [← hT] at hc0 hLT hTs
      have HW := hid (fun (v : World) => c_l4TwoB T.size v (by omega))
      obtain ⟨X, hX⟩ : ∃ X, X = twoB T.size := ⟨_, rfl⟩
      rw [← hX] at hLT HW
      clear hT hX
      go_wp2_with fail
      refine (HW.out _).mono ?_
      rintro e w3 ⟨rfl, hb3⟩
      have hown3 := own_on hown hb3
      have hbl3 := hbl.trans (hb3.mono hsz)
      clear hown hb3 hbl hsz
      go_wp2_with (at_builtin; refine app_txt rfl _ _ 23 rfl w.heap.size 9 Try.underlying23 Try.info_txt _ k (lens (l.take k)) rfl hown3 X X rfl 1 rfl (by omega) hbl3.size ?_; intro v7 w7 hown7 hb7 hg7)
      rw [← hLT.out] at hown7
      have hbl7 := hbl3.trans hb7
      clear hown3 hb7 hg7 hbl3
      go_roundw
      case rel => exact ⟨k + 1, by omega, by go_num, hown7, hbl7⟩
      case measure => simp [intOf]; omega
    · have hkN : k = N := by omega
      subst hkN
      have hall : l.take k = l := List.take_of_length_le (by have := HN.out; omega)
      rw [hall] at hown
      obtain ⟨A0, c0, rfl, hat, hkq, _⟩ := own_strs hown
      have HX0 := hid (c_sXorTexts A0 c0 (lens l) _ _ hat (Nat.le_refl _) (fun s hs => by rw [lens_size l s hs]; omega))
      have hY := lens_le l
      obtain ⟨P, hP⟩ : ∃ P, P = str (xall (lens l)) := ⟨_, rfl⟩
      obtain ⟨Q, hQ⟩ : ∃ Q, Q = str (xall l) := ⟨_, rfl⟩
      have hPz : P.size ≤ 2 := by rw [hP, str_size]; exact hY
      have hQz : Q.size ≤ 1000 := by rw [hQ]; exact HXl.out
      rw [← hP] at HX0
      rw [← hQ] at HX1
      rw [← hkq] at HX0 ⊢
      clear hP hQ hY hown hall hat hkq
      go_wp2_with fail
      refine HX0.out.mono ?_
      rintro e w4 ⟨rfl, hb4⟩
      have hbl4 := hbl.trans (hb4.mono hsz)
      go_wp2_with fail
      refine (HX1.out _ hbl4).mono ?_
      rintro e w5 ⟨rfl, hb5⟩
      go_wp2
      go_ret
      exact ⟨⟨P ++ Q, rfl, by rw [ByteArray.size_append]; omega⟩, by (repeat (first | with_reducible (first | assumption | exact Below.refl _ _ | refine bel_alloc ?_ _ | refine bel_drew ?_ | refine bel_drewN ?_ _ | refine bel_set ?_ (by first | omega | (simp; done) | (simp; omega)) _ | refine bel_trans ?_ (by assumption)) | assumption | refine bel_trans ?_ (by assumption)))⟩

theorem strs_front {w : World} {L cap : Nat} {A : Option Addr} {q : List ByteArray} (h : StrsAt w L A cap q) : StrsAt w L A cap (q.take (q.length - 1)) := by
  refine ⟨by have := h.1; simp; omega, h.2.1, h.2.2.1, fun hn => ?_⟩
  obtain ⟨b, off, e, hb, hc⟩ := h.2.2.2 (by simp at hn; omega)
  refine ⟨b, off, e, hb, fun i n hi => hc i n ?_⟩
  rw [List.getElem?_take] at hi
  split at hi
  · exact hi
  · cases hi

/-- what DrawRebuildText answers -/
def RbOut (w : World) (e : Ending) (w' : World) : Prop := ∃ (A : Option Addr) (cap : Nat) (l : List ByteArray) (p : ByteArray), e = .returned (.tuple #[.slice A l.length cap, .string p]) ∧ StrsAt w' w'.heap.size A cap l ∧ l.length ≤ 6 ∧ (∀ s ∈ l, s.size ≤ 20) ∧ p.size ≤ 1002 ∧ Below w.heap.size w w'
theorem rb_end {w w' : World} {B : Nat} {e : TypeId} {v : Value} {n : Nat} {q : List ByteArray} (h : w'.ownsRow B e 1 v n (q.map sv)) (h1 : 1 ≤ q.length) (h6 : q.length ≤ 7) (hs : ∀ s ∈ q, s.size ≤ 20) (p : ByteArray) (hp : p.size ≤ 1002) (hb : Below w.heap.size w w') : ∃ g cap, v = .slice (some ⟨g, 0, none⟩) q.length cap ∧ q.length ≤ cap ∧ ∀ m : Nat, m + 1 = q.length → RbOut w (.returned (.tuple #[.slice (some ⟨g, 0, none⟩) m cap, .string p])) w' := by
  obtain ⟨A, cap, rfl, hat, hn, hA⟩ := own_strs h
  rcases hA with rfl | ⟨g, rfl, _, _⟩
  · have := hat.2.2.1 rfl
    have := hat.1
    omega
  · refine ⟨g, cap, rfl, hat.1, fun m hm => ⟨some ⟨g, 0, none⟩, cap, q.take (q.length - 1), p, ?_, strs_front hat, by simp; omega, fun s hs2 => hs s (List.mem_of_mem_take hs2), hp, hb⟩⟩
    rw [List.length_take, show min (q.length - 1) q.length = m by omega]

set_option maxRecDepth 100000 in
set_option maxHeartbeats 4000000 in
theorem c_DrawRebuildText (A' : Option Addr) (n cap : Nat) (w : World) (hc : CodeAt w w.heap.size A' n cap) : Calls Try.prog 6 #[.slice A' n cap] w (RbOut w) := by
  go_enter Try.func6, Try.ntmps6
  go_wp2_with fail
  refine (c_l9Open _ _ _ _ _ hc (Nat.le_refl _)).mono ?_
  rintro e w1 ⟨rfl, hr1, hb1, hz1⟩
  go_wp2_with fail
  refine (c_l7Texts _ _ 0 _ hr1 (by omega)).mono ?_
  rintro e w2 ⟨v, l, rfl, hown2, hl5, hl9, hr2, hg2⟩
  have b2 := bel_grown hb1 hg2 (Nat.le_refl _)
  have z2 := hg2.size
  clear hb1 hg2 hr1
  go_wp2_with fail
  refine (c_l1Bytes _ _ _ 9 _ hr2 (by omega) (by omega)).mono ?_
  rintro e w3 ⟨r, rfl, hrl, hr3, hg3⟩
  have b3 := bel_grown b2 hg3 (Nat.le_refl _)
  have hown3 := own_grownS hown2 hg3 (by omega)
  have z3 := hg3.size
  obtain ⟨X, hX⟩ : ∃ X, X = str r := ⟨_, rfl⟩
  have hXz : X.size ≤ 9 := by rw [hX, str_size]; exact hrl
  rw [← hX]
  clear hX hrl b2 hg3 hr2 hown2
  go_wp2_with (at_builtin; refine app_txt rfl _ _ 23 rfl w1.heap.size 9 Try.underlying23 Try.info_txt _ l.length l rfl hown3 X X rfl 1 rfl (by omega) (by omega) ?_; intro v4 w4 hown4 hb4 hg4)
  have hge := own_ge hown3
  have b4 : Below w.heap.size w w4 := b3.trans (hb4.mono (by omega))
  have hr4 : Rd _ w4 _ _ _ := hr3.grown hg4 (fun g hg => by have := hge g hg; omega)
  have z4 := hb4.size
  obtain ⟨q, hq⟩ : ∃ q, q = l ++ [X] := ⟨_, rfl⟩
  have hq1 : q.length = l.length + 1 := by rw [hq]; simp
  have hqs : ∀ s ∈ q, s.size ≤ 20 := by
    rw [hq]; intro s hs
    rcases List.mem_append.1 hs with h1 | h1
    · have := hl9 s h1; omega
    · simp at h1; subst h1; omega
  rw [← hq, ← hq1] at hown4
  have hq6 : q.length ≤ 6 := by omega
  have hq0 : 1 ≤ q.length := by omega
  clear hq hq1 hl5 hl9 hown3 hge hg4 hb4 b3 hr3 hXz
  obtain ⟨A4, c4, rfl, hat4, -, -⟩ := own_strs hown4
  have HPa := hid (c_l7Parity A4 c4 q _ _ hat4 (Nat.le_refl _) (by omega) (fun s hs => by have := hqs s hs; omega))
  clear hat4
  go_wp2_with fail
  refine HPa.out.mono ?_
  rintro e w5 ⟨⟨p, rfl, hp⟩, hb5⟩
  have b5 := bel_trans b4 hb5
  have hr5 := hr4.grown (grown_below none hb5) (by simp)
  have hown5 := own_on hown4 hb5
  have z5 := hb5.size
  clear HPa hb5 b4 hr4 hown4
  go_wp2_with fail
  refine (c_pick _ _ _ 12 _ hr5 (by omega) (by decide)).mono ?_
  rintro e w6 ⟨x, rfl, hx0, _, _, hr6, hg6⟩
  have b6 := bel_grown b5 hg6 (Nat.le_refl _)
  have hown6 := own_grownS hown5 hg6 (by omega)
  have z6 := hg6.size
  clear b5 hr5 hown5 hg6
  by_cases c0 : x = 0
  · have e0 : (x == 0) = true := eq_yes c0
    clear c0
    go_wp2_with fail
    refine (c_l1Bytes _ _ _ 6 _ hr6 (by omega) (by omega)).mono ?_
    rintro e w7 ⟨r7, rfl, hrl, hr7, hg7⟩
    have b7 := bel_grown b6 hg7 (Nat.le_refl _)
    have hown7 := own_grownS hown6 hg7 (by omega)
    obtain ⟨Y, hY⟩ : ∃ Y, Y = str r7 := ⟨_, rfl⟩
    have hYz : Y.size ≤ 1002 := by rw [hY, str_size]; omega
    rw [← hY]
    clear hY hrl b6 hg7 hr6 hr7 hown6
    obtain ⟨g, cp, hv, hcp, HR⟩ := rb_end hown7 hq0 (by omega) hqs Y hYz b7
    cases hv
    obtain ⟨m, hm⟩ : ∃ m, m + 1 = q.length := ⟨q.length - 1, by omega⟩
    have HR := hid (HR m hm)
    rw [← hm] at hcp ⊢
    have hw := hid (show wrap64 ((m : Nat) : Int) = (m : Int) from IntWalk.wrap64_in _ (by omega))
    rw [← show (wrap64 ((m : Nat) : Int)).toNat = m by rw [hw.out]; rfl] at HR
    clear hown7 hqs hm
    go_wp2
    case isFalse => (exfalso; rename_i h; rw [hw.out] at h; omega)
    go_ret2
    exact HR.out
  · have e0 : (x == 0) = false := by simpa using c0
    by_cases c1 : x = 1
    · have e1 : (x == 1) = true := eq_yes c1
      clear c0 c1
      go_wp2_with fail
      refine (c_l1Bytes _ _ _ 20 _ hr6 (by omega) (by omega)).mono ?_
      rintro e w7 ⟨r7, rfl, hrl, hr7, hg7⟩
      have b7 := bel_grown b6 hg7 (Nat.le_refl _)
      have hown7 := own_grownS hown6 hg7 (by omega)
      have z7 := hg7.size
      obtain ⟨Y, hY⟩ : ∃ Y, Y = str r7 := ⟨_, rfl⟩
      have hYz : Y.size ≤ 20 := by rw [hY, str_size]; exact hrl
      rw [← hY]
      clear hY hrl b6 hg7 hr6 hr7 hown6
      go_wp2_with (at_builtin; refine app_txt rfl _ _ 23 rfl w1.heap.size 9 Try.underlying23 Try.info_txt _ q.length q rfl hown7 Y Y rfl 1 rfl (by omega) (by omega) ?_; intro v8 w8 hown8 hb8 hg8; obtain ⟨g, cp, hv, hcp, HR⟩ := rb_end (w := w) hown8 (by simp) (by simp; omega) (fun s hs => by rcases List.mem_append.1 hs with h1 | h1; exact hqs s h1; simp at h1; subst h1; exact hYz) p hp (b7.trans (hb8.mono (by omega))); subst hv; rw [List.length_append, List.length_singleton] at hcp; have HR := hid (HR q.length (by simp)))
      go_ret2
      exact HR.out
    · have e1 : (x == 1) = false := by simpa using c1
      clear c0 c1
      obtain ⟨g, cp, hv, hcp, HR⟩ := rb_end hown6 hq0 (by omega) hqs p hp b6
      cases hv
      obtain ⟨m, hm⟩ : ∃ m, m + 1 = q.length := ⟨q.length - 1, by omega⟩
      have HR := hid (HR m hm)
      rw [← hm] at hcp ⊢
      have hw := hid (show wrap64 ((m : Nat) : Int) = (m : Int) from IntWalk.wrap64_in _ (by omega))
      rw [← show (wrap64 ((m : Nat) : Int)).toNat = m by rw [hw.out]; rfl] at HR
      clear hown6 hqs hm
      go_wp2
      case isFalse => (exfalso; rename_i h; rw [hw.out] at h; omega)
      go_ret2
      exact HR.out
end Go.Proofs.Ytlekjmgjnnljcaa
