/- What is drawn for RebuildText; the mathematics of its rule. -/
import Derived.Test.YtlekjmgjnnljcaaYz
import Derived.Test.YtlekjmgjnnljcaaDraw3
namespace Go.Proofs.Ytlekjmgjnnljcaa
open Go.ChangeShapes Go.WideShapes Go.ChangeAt Go.RowKit Go.Joins
set_option linter.unusedVariables false
set_option linter.unusedSimpArgs false

theorem xall_snoc (l : List ByteArray) (a : ByteArray) : xall (l ++ [a]) = xs1 (xall l) a := by
  unfold xall; rw [List.foldl_append]; rfl

theorem own_grownS {w w' : World} {M B : Nat} {e : TypeId} {v : Value} {n : Nat} {xs : List Value} (h : w.ownsRow M e 1 v n xs) (hg : w.grownBy w' (some B)) (hB : B < M) : w'.ownsRow M e 1 v n xs := own_grown h hg hB

/-- what l7Texts answers -/
def Texts (T : TypeId) (E : TypeId) (w : World) (L B q : Nat) (e : Ending) (w' : World) : Prop := ∃ (v : Value) (l : List ByteArray), e = .returned v ∧ w'.ownsRow w.heap.size E 1 v l.length (l.map sv) ∧ l.length ≤ 5 ∧ (∀ s ∈ l, s.size ≤ 9) ∧ Rd T w' L B (q + 61) ∧ w.grownBy w' (some B)

theorem own_e1 (W : World) : (W.alloc (.cells #[] 9)).ownsRow W.heap.size 9 1 (.slice (some ⟨W.heap.size, 0, none⟩) 0 0) 0 (([] : List ByteArray).map sv) := World.ownsRow_made (e := 9) (size := 1) (base := W.heap.size) W #[] 0 (Nat.le_refl _) (by simp) (by simp [maxLen])

set_option maxHeartbeats 2000000 in
theorem c_l7Texts (L B q : Nat) (w : World) (hr : Rd 51 w L B q) (hq : q ≤ 1000000) :
    Calls Try.prog 18 #[.pointer (some ⟨B, 0, none⟩)] w (Texts 51 9 w L B q) := by
  have hB := hr.lt
  have HE := hid (own_e1 w)
  have hr1 := hr.alloc (.cells #[] 9)
  have hg1 : w.grownBy (w.alloc (.cells #[] 9)) none := World.grownBy_alloc w _ _
  go_enter Try.func18, Try.ntmps18
  go_wp2_with fail
  refine (c_pick L B q 6 _ hr1 (by omega) (by decide)).mono ?_
  rintro e w2 ⟨N, rfl, hN0, hN1, _, hr2, hg2⟩
  have hN2 := hN1 (by omega)
  clear hN1
  obtain ⟨N, rfl⟩ := Int.eq_ofNat_of_zero_le hN0
  have hown2 := own_grownS HE.out hg2 hB
  go_wp2_with fail
  go_loopw [3, 4] (fun v i wr => ∃ (j k : Nat) (l : List ByteArray), i = .int .i64 j ∧ Hid (k + j = N) ∧ j ≤ N ∧ wr.ownsRow w.heap.size 9 1 v k (l.map sv) ∧ (∀ s ∈ l, s.size ≤ 9) ∧ Rd 51 wr L B (q + 1 + 10 * k) ∧ w.grownBy wr (some B)) (fun _ i _ => (intOf i).toNat)
  case atStart => exact ⟨N, 0, [], rfl, hid (by omega), Nat.le_refl _, hown2, by simp, hr2, grown_trans (grown_none _ hg1) hg2⟩
  case round =>
    obtain ⟨j, k, l, rfl, HK, hj, hown, hls, hrd, hgr⟩ := hrel
    have hk := HK.out
    have hkN : k ≤ N := by omega
    clear hk
    have hsz := hgr.size
    by_cases hz : 0 < j
    · go_wp2_with fail
      refine (c_l1Bytes L B (q + 1 + 10 * k) 9 wr hrd (by omega) (by omega)).mono ?_
      rintro e w3 ⟨c, rfl, hc0, hr3, hg3⟩
      have hown3 := own_grownS hown hg3 hB
      have hsz3 := hg3.size
      obtain ⟨X, hX⟩ : ∃ X, X = str c := ⟨_, rfl⟩
      have hXs : X.size ≤ 9 := by rw [hX, str_size]; exact hc0
      rw [← hX]
      clear hX
      go_wp2_with (at_builtin; refine app_txt rfl _ _ 23 rfl w.heap.size 9 Try.underlying23 Try.info_txt _ k l rfl hown3 X X rfl 1 rfl (by omega) (by omega) ?_; intro v4 w4 hown4 hb4 hg4)
      have hge := own_ge hown3
      go_roundw
      case rel => exact ⟨j - 1, k + 1, _, by simp; omega, hid (by have := HK.out; omega), by omega, hown4, (fun s hs => by rcases List.mem_append.1 hs with h1 | h1; exact hls s h1; simp at h1; subst h1; exact hXs), (hr3.more (by omega)).grown hg4 (fun g hg => by have := hge g hg; omega), grown_own (grown_trans hgr hg3) hg4 hge⟩
      case measure => simp [intOf]; omega
    · have hl := hown.1
      rw [svs_len] at hl
      have hjk := HK.out
      have HL := hid (show l.length = k by omega)
      clear hjk hl
      go_wp2
      go_ret
      exact ⟨_, l, rfl, by rw [HL.out]; exact hown, by rw [HL.out]; omega, hls, hrd.more (by omega), hgr⟩

theorem xs1_back (R : List UInt8) (h : ByteArray) (hh : h.size = 2) (hR : R.length ≤ 2) : xs1 R (str (xs1 R h)) = h.data.toList := by
  have hl : h.data.toList.length = 2 := by rw [← hh]; exact len_toList h
  have hx : (xs1 R h).length = 2 := by rw [xs1_len]; omega
  apply List.ext_getElem
  · rw [xs1_len, str_size, hx, hl]; omega
  · intro i h1 h2
    have e1 : (xs1 R (str (xs1 R h))).getD i 0 = h.data.toList.getD i 0 := by
      rw [xs1_get]
      have e2 : byteAt (str (xs1 R h)) i = (xs1 R h).getD i 0 := by unfold byteAt; rw [str_list]
      rw [e2, xs1_get]
      show R.getD i 0 ^^^ (R.getD i 0 ^^^ byteAt h i) = byteAt h i
      rw [← UInt8.xor_assoc, UInt8.xor_self, UInt8.zero_xor]
    rw [List.getD_eq_getElem?_getD, List.getD_eq_getElem?_getD, List.getElem?_eq_getElem h1, List.getElem?_eq_getElem h2] at e1
    simpa using e1
theorem lens_le (l : List ByteArray) : (xall (lens l)).length ≤ 2 := by
  have : ∀ (q : List ByteArray) (R : List UInt8), (∀ s ∈ q, s.size = 2) → R.length ≤ 2 → (q.foldl xs1 R).length ≤ 2 := by
    intro q
    induction q with
    | nil => intro R _ hR; exact hR
    | cons a q ih =>
      intro R hq hR
      rw [List.foldl_cons]
      exact ih _ (fun s hs => hq s (by simp [hs])) (by rw [xs1_len, hq a (by simp)]; omega)
  exact this _ _ (lens_size l) (by simp)
theorem pair_two (a b : UInt8) : twoB (a.toNat * 256 + b.toNat) = str [a, b] := by
  unfold twoB
  have ha := UInt8.toNat_lt a
  have hb := UInt8.toNat_lt b
  have e1 : UInt8.ofNat ((a.toNat * 256 + b.toNat) / 256) = a := by
    apply UInt8.toNat_inj.1
    rw [UInt8.toNat_ofNat']; omega
  have e2 : UInt8.ofNat (a.toNat * 256 + b.toNat) = b := by
    apply UInt8.toNat_inj.1
    rw [UInt8.toNat_ofNat']; omega
  rw [e1, e2]
/-- the rule of lengths -/
theorem reb_rule {l : List ByteArray} {p : ByteArray} (h : (reb l p).2 = true) : str (xall (lens (l ++ [(reb l p).1]))) = hdOf p ∧ (reb l p).1.size + 2 ≤ p.size := by
  by_cases h0 : p.size < 2 ∨ 40 < l.length
  · rw [reb_1 h0] at h; cases h
  by_cases hf : ∀ (i : Nat) (hi : i < l.length), l[i].size + 2 ≤ p.size
  · by_cases hs : p.size < pairOf (mis l p) + 2
    · rw [reb_3 h0 hf hs] at h; cases h
    · rw [reb_4 h0 hf hs]
      have hz : 2 ≤ p.size := by omega
      have ho := out_len hz hf
      have hsz : (str ((xall (l ++ [restOf p])).take (pairOf (mis l p)))).size = pairOf (mis l p) := by
        rw [str_size, List.length_take, ho]; omega
      refine ⟨?_, by rw [hsz]; omega⟩
      have hl : lens (l ++ [str ((xall (l ++ [restOf p])).take (pairOf (mis l p)))]) = lens l ++ [twoB (pairOf (mis l p))] := by
        unfold lens; rw [List.map_append]; simp [hsz]
      have hm := mis_len (l := l) hz
      obtain ⟨a, b, hab⟩ : ∃ a b, mis l p = [a, b] := by
        match mis l p, hm with
        | [a, b], _ => exact ⟨a, b, rfl⟩
      have hp : twoB (pairOf (mis l p)) = str (mis l p) := by rw [hab]; first | exact pair_two a b | (show twoB (256 * a.toNat + b.toNat) = _; rw [Nat.mul_comm]; exact pair_two a b) | (simp only [pairOf]; first | exact pair_two a b | (rw [Nat.mul_comm]; exact pair_two a b))
      have hd : (hdOf p).size = 2 := by rw [hdOf, ByteArray.size_extract]; omega
      rw [hl, hp, xall_snoc]
      have hmi : mis l p = xs1 (xall (lens l)) (hdOf p) := by rw [mis, xall_snoc]
      rw [hmi, xs1_back _ _ hd (lens_le l)]
      apply ByteArray.ext
      apply Array.toList_inj.1
      rw [str_list]
  · simp only [Classical.not_forall] at hf
    obtain ⟨i, hi2, hi3⟩ := hf
    have hi4 : p.size < l[i].size + 2 := Nat.lt_of_not_le hi3
    rw [reb_2 h0 i hi2 hi4] at h; cases h
end Go.Proofs.Ytlekjmgjnnljcaa
