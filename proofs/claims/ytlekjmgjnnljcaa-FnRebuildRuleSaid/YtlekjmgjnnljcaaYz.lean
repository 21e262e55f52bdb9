/- RebuildText in the model, and its law's walk. No condition but that all is within the law's bulk. -/
import Derived.Test.YtlekjmgjnnljcaaYr
namespace Go.Proofs.Ytlekjmgjnnljcaa
open Go.ChangeShapes Go.WideShapes Go.ChangeAt Go.RowKit Go.Joins
set_option linter.unusedVariables false
set_option linter.unusedSimpArgs false

theorem lens_take (l : List ByteArray) (k : Nat) (h : k < l.length) : lens (l.take (k + 1)) = lens (l.take k) ++ [twoB l[k].size] := by
  unfold lens; rw [List.take_succ_eq_append_getElem h, List.map_append]; rfl

theorem apart_of {w : World} {B : Nat} {e : TypeId} {v v2 v3 : Value} {n : Nat} {xs : List Value} (h : w.ownsRow B e 1 v n xs) (hne : v2.ownBlock ≠ v.ownBlock) (hw : v3.ownBlock = v2.ownBlock ∨ v3.ownBlock = some (w.heap.size + 1)) : v3.ownBlock ≠ v.ownBlock := by
  rcases hw with h1 | h1
  · rw [h1]; exact hne
  · rw [h1]; intro e1; have := (h.lt _ e1.symm).2; omega

set_option maxRecDepth 100000 in
theorem c_sRebuildText (A : Option Addr) (cap : Nat) (l : List ByteArray) (L : Nat) (p : ByteArray) (w : World) (h : StrsAt w L A cap l) (hL : L ≤ w.heap.size) (hn : l.length ≤ 1048576) (hS : ∀ s ∈ l, s.size ≤ 1048576) (hp : p.size ≤ 1048576) : Calls Try.prog 8 #[.slice A l.length cap, .string p] w fun e w' => e = .returned (.tuple #[.string (reb l p).1, .bool (reb l p).2]) ∧ Below w.heap.size w w' := by
  obtain ⟨N, hN⟩ : ∃ N, N = l.length := ⟨_, rfl⟩
  have HN := hid hN
  have hml := h.2.1
  have hml1 := h.1
  unfold maxLen at hml
  rw [← HN.out] at hml1 hn ⊢
  by_cases h2 : p.size < 2
  · have HR := hid (reb_1 (l := l) (p := p) (.inl h2))
    rw [HR.out]
    clear hN
    have h2' : (p.size : Int) < 2 := by omega
    go_enter Try.func8, Try.ntmps8
    go_wp2
    go_ret2
    exact ⟨rfl, by (repeat (first | with_reducible (first | assumption | exact Below.refl _ _ | refine bel_alloc ?_ _ | refine bel_drew ?_ | refine bel_drewN ?_ _ | refine bel_set ?_ (by first | omega | (simp; done) | (simp; omega)) _ | refine bel_trans ?_ (by assumption)) | assumption | refine bel_trans ?_ (by assumption)))⟩
  by_cases h40 : 40 < N
  · have HR := hid (reb_1 (l := l) (p := p) (.inr (by omega)))
    rw [HR.out]
    clear hN
    have h2' : ¬ (p.size : Int) < 2 := by omega
    have h40' : (40 : Int) < N := by omega
    go_enter Try.func8, Try.ntmps8
    go_wp2
    go_ret2
    exact ⟨rfl, by (repeat (first | with_reducible (first | assumption | exact Below.refl _ _ | refine bel_alloc ?_ _ | refine bel_drew ?_ | refine bel_drewN ?_ _ | refine bel_set ?_ (by first | omega | (simp; done) | (simp; omega)) _ | refine bel_trans ?_ (by assumption)) | assumption | refine bel_trans ?_ (by assumption)))⟩
  have hk0 : ¬ (p.size < 2 ∨ 40 < l.length) := by omega
  clear hN
  have HK := hid hk0
  clear hk0
  obtain ⟨X, hX⟩ : ∃ X, X = hdOf p := ⟨_, rfl⟩
  obtain ⟨Y, hY⟩ : ∃ Y, Y = restOf p := ⟨_, rfl⟩
  have zX : X.size = 2 := by rw [hX, hdOf, ByteArray.size_extract]; omega
  have zY : Y.size = p.size - 2 := by rw [hY, restOf, ByteArray.size_extract]; omega
  have hx : ∀ w, (Instr.slice 9 (.string p) none (some (.int .i64 2)) none).run Try.prog w = .ok (.string X) w := fun w => by rw [run_slice_string_h w 9 p Try.underlying9 .i64 2 (by omega) (by omega), hX]; rfl
  have hy : ∀ w, (Instr.slice 9 (.string p) (some (.int .i64 2)) none none).run Try.prog w = .ok (.string Y) w := fun w => by rw [run_slice_string_l w 9 p Try.underlying9 .i64 2 (by omega) (by omega), hY]; rfl
  have h2' : ¬ (p.size : Int) < 2 := by omega
  have h40' : ¬ (40 : Int) < N := by omega
  have HX := hid hX
  have HY := hid hY
  have HH := hid h
  have hr6 := own_one w w.heap.size 9 X (Nat.le_refl _)
  have hs1 : (w.alloc (.cells #[.string X] 9)).heap.size = w.heap.size + 1 := by simp
  have hr7 := own_one (w.alloc (.cells #[.string X] 9)) w.heap.size 9 Y (by omega)
  have hr6' := hr6.alloc (.cells #[.string Y] 9)
  have HR6 := hid hr6'
  have HR7 := hid hr7
  clear hX hY h hr6 hr7 hr6' hs1
  go_enter Try.func8, Try.ntmps8
  go_wp2_with fail
  go_loopw [6, 7, 8] (fun v6 v7 i wr => ∃ k : Nat, k ≤ N ∧ i = .int .i64 k ∧ Hid (∀ (i : Nat) (hi : i < l.length), i < k → l[i].size + 2 ≤ p.size) ∧ wr.ownsRow w.heap.size 9 1 v6 (k + 1) ((X :: lens (l.take k)).map sv) ∧ wr.ownsRow w.heap.size 9 1 v7 (k + 1) ((Y :: l.take k).map sv) ∧ v6.ownBlock ≠ v7.ownBlock ∧ Below w.heap.size w wr) (fun _ _ i _ => N - (intOf i).toNat)
  case atStart => exact ⟨0, Nat.zero_le _, rfl, hid (fun i hi h => by omega), HR6.out, by simpa using HR7.out, by simp [Value.ownBlock], by (repeat (first | with_reducible (first | assumption | exact Below.refl _ _ | refine bel_alloc ?_ _ | refine bel_drew ?_ | refine bel_drewN ?_ _ | refine bel_set ?_ (by first | omega | (simp; done) | (simp; omega)) _ | refine bel_trans ?_ (by assumption)) | assumption | refine bel_trans ?_ (by assumption)))⟩
  case round =>
    obtain ⟨k, hk, rfl, HF, hown6, hown7, hne, hbl⟩ := hrel
    have hsl := hbl.size
    by_cases hlt : k < N
    · have hlt2 : k < l.length := by have := HN.out; omega
      have hTs := hS _ (List.getElem_mem hlt2)
      obtain ⟨T, hT⟩ : ∃ T, T = l[k] := ⟨_, rfl⟩
      obtain ⟨b, off, rfl, hb, hcw⟩ := txt_at HH.out k hlt2
      have HC0 := hid (fun (W : World) (hW : Below w.heap.size w W) => show W.cell? ⟨b, off + k, none⟩ = some (.string T) by
        obtain ⟨b', off', e1, _, hc⟩ := txt_at (HH.out.below hW hL) k hlt2
        simp only [Option.some.injEq, Addr.mk.injEq, and_true] at e1
        obtain ⟨rfl, rfl⟩ := e1
        rw [hT]; exact hc)
      clear hcw
      rw [← hT] at hTs
      have HT := hid hT
      clear hT
      have hc0 := HC0.out _ hbl
      have HO := hid (And.intro hown6 (And.intro hown7 hne))
      clear hown6 hown7 hne
      by_cases hq : p.size < T.size + 2
      · have HR := hid (reb_2 HK.out k hlt2 (by rw [← HT.out]; omega))
        have hq2 : (p.size : Int) - 2 < T.size := by omega
        go_wp2
        go_ret2
        exact ⟨by rw [HR.out]; rfl, hbl⟩
      · have HG := hid (show ∀ (i : Nat) (hi : i < l.length), i < k + 1 → l[i].size + 2 ≤ p.size from fun i hi h => by
          by_cases hik : i = k
          · subst hik; rw [← HT.out]; omega
          · exact HF.out i hi (by omega))
        have HLT := hid (show X :: lens (l.take (k + 1)) = (X :: lens (l.take k)) ++ [twoB T.size] by rw [lens_take l k hlt2, HT.out]; rfl)
        have HMT := hid (show Y :: l.take (k + 1) = (Y :: l.take k) ++ [T] by rw [List.take_succ_eq_append_getElem hlt2, HT.out]; rfl)
        have hq2 : ¬ (p.size : Int) - 2 < T.size := by omega
        go_wp2_with fail
        refine (c_l4TwoB T.size _ (by omega)).mono ?_
        rintro e w1 ⟨rfl, hb1⟩
        have hr6 := own_strs_on HO.out.1 hb1
        have hr7 := own_strs_on HO.out.2.1 hb1
        have k1 := hbl.trans (hb1.mono hsl)
        have s1 := k1.size
        clear hb1
        have hbw := hbl
        go_wp2_with (first | (at_builtin; refine app_txt2 rfl _ _ 23 rfl w.heap.size 9 Try.underlying23 Try.info_txt _ (k + 1) (X :: lens (l.take k)) rfl hr6 (twoB T.size) 1 rfl (by omega) (by omega) ?_; intro v8 w2 hown8 hb2 hg2 hw2; rw [← HLT.out] at hown8; have hr7b := hr7.kept hg2 (.inr (Ne.symm HO.out.2.2)); have hne2 := apart_of hr7 HO.out.2.2 hw2; have k2 := k1.trans hb2; have s2 := k2.size; have hc2 := HC0.out _ k2; clear hr6 hr7 hb2 hg2 hw2; have HP := hid (And.intro hown8 hne2); clear hown8 hne2) | (at_builtin; refine app_txt2 rfl _ _ 23 rfl w.heap.size 9 Try.underlying23 Try.info_txt _ (k + 1) (Y :: l.take k) rfl hr7b T 1 rfl (by omega) (by omega) ?_; intro v9 w3 hown9 hb3 hg3 hw3; rw [← HMT.out] at hown9; have hr8 := HP.out.1.kept hg3 (.inr HP.out.2); have hne3 := apart_of HP.out.1 (Ne.symm HP.out.2) hw3; have k3 := k2.trans hb3; have HE := hid (And.intro hr8 (And.intro hown9 (And.intro (Ne.symm hne3) k3))); clear hr8 hown9 hb3 hg3 hw3 hr7b k3 hne3))
        go_roundw
        case rel => exact ⟨k + 1, by omega, by go_num, HG, HE.out.1, HE.out.2.1, HE.out.2.2.1, HE.out.2.2.2⟩
        case measure => simp [intOf]; omega
    · have HG := hid (show ∀ (i : Nat) (hi : i < l.length), l[i].size + 2 ≤ p.size from fun i hi => HF.out i hi (by have := HN.out; omega))
      have hkN : k = N := by omega
      have hN2 : N = l.length := HN.out
      have HM := hid (mis_len (l := l) (p := p) (by omega))
      have HO := hid (out_len (l := l) (p := p) (by omega) HG.out)
      obtain ⟨M, hM⟩ : ∃ M, M = X :: lens l := ⟨_, rfl⟩
      have HMl := hid (show M.length = N + 1 by rw [hM]; simp [lens_len]; omega)
      have HMs := hid (show ∀ s ∈ M, s.size ≤ 1048576 from fun s hs => by
        rw [hM] at hs
        rcases List.mem_cons.1 hs with h1 | h1
        · subst h1; omega
        · have := lens_size l s h1; omega)
      have HMx := hid (show xall M = mis l p by rw [hM, xall_turn, mis, HX.out])
      obtain ⟨M2, hM2⟩ : ∃ M, M = Y :: l := ⟨_, rfl⟩
      have HM2l := hid (show M2.length = N + 1 by rw [hM2]; simp; omega)
      have HM2s := hid (show ∀ s ∈ M2, s.size ≤ 1048576 from fun s hs => by
        rw [hM2] at hs
        rcases List.mem_cons.1 hs with h1 | h1
        · subst h1; omega
        · exact hS s h1)
      have HM2x := hid (show xall M2 = xall (l ++ [restOf p]) by rw [hM2, xall_turn, HY.out])
      have e6 : X :: lens (l.take k) = M := by rw [hM, hkN, hN2, List.take_length]
      have e7 : Y :: l.take k = M2 := by rw [hM2, hkN, hN2, List.take_length]
      rw [e6] at hown6
      rw [e7] at hown7
      obtain ⟨A6, c6, rfl, r6, _, _⟩ := own_strs hown6
      obtain ⟨A7, c7, rfl, r7, _, _⟩ := own_strs hown7
      rw [HMl.out, HM2l.out]
      obtain ⟨P, hP⟩ : ∃ P, P = mis l p := ⟨_, rfl⟩
      obtain ⟨Z, hZ⟩ : ∃ Z, Z = str P := ⟨_, rfl⟩
      obtain ⟨q, hq⟩ : ∃ q, q = pairOf P := ⟨_, rfl⟩
      have hq2 : q ≤ 65535 := by
        rw [hq, pairOf]
        have := UInt8.toNat_lt (P.getD 0 0)
        have := UInt8.toNat_lt (P.getD 1 0)
        omega
      have HQ := hid (show q = pairOf (mis l p) by rw [← hP, hq])
      have HX5 := hid (fun (v : World) => c_l5PairB P v (by rw [hP]; exact HM.out))
      rw [← hZ, ← hq] at HX5
      have HX1 := hid (fun (A : Option Addr) (cap L : Nat) (v : World) (h : StrsAt v L A cap M) (hL : L ≤ v.heap.size) => c_sXorTexts A cap M L v h hL HMs.out)
      rw [HMl.out, HMx.out, ← hP, ← hZ] at HX1
      obtain ⟨V, hV⟩ : ∃ V, V = str (xall M2) := ⟨_, rfl⟩
      have HX2 := hid (fun (A : Option Addr) (cap L : Nat) (v : World) (h : StrsAt v L A cap M2) (hL : L ≤ v.heap.size) => c_sXorTexts A cap M2 L v h hL HM2s.out)
      rw [HM2l.out, ← hV] at HX2
      have zV : V.size = p.size - 2 := by rw [hV, str_size, HM2x.out, HO.out]
      have HV := hid (show V = str (xall (l ++ [restOf p])) by rw [hV, HM2x.out])
      have HR6 := hid r6
      have HR7 := hid r7
      clear hV hq hZ hP hM hM2 e6 e7 hown6 hown7 hne hN2 hkN r6 r7
      go_wp2_with fail
      refine (HX1.out _ _ _ _ HR6.out (Nat.le_refl _)).mono ?_
      rintro e w3 ⟨rfl, hb3⟩
      have k3 := hbl.trans (hb3.mono hsl)
      have s3 := k3.size
      have z3 := hb3.size
      have r7 := HR7.out.below hb3 (Nat.le_refl _)
      clear hb3
      go_wp2_with fail
      refine (HX5.out _).mono ?_
      rintro e w4 ⟨rfl, hb4⟩
      have k4 := k3.trans (hb4.mono s3)
      have s4 := k4.size
      have z4 := hb4.size
      have r8 := r7.below hb4 z3
      clear hb4 r7 k3
      by_cases hqy : p.size < q + 2
      · have HR := hid (reb_3 HK.out HG.out (by rw [← HQ.out]; omega))
        have hqy2 : (p.size : Int) - 2 < q := by omega
        go_wp2
        go_ret2
        exact ⟨by rw [HR.out]; rfl, k4⟩
      · have HR := hid (reb_4 HK.out HG.out (by rw [← HQ.out]; omega))
        have hqy2 : ¬ (p.size : Int) - 2 < q := by omega
        obtain ⟨O, hO⟩ : ∃ O, O = V.extract 0 q := ⟨_, rfl⟩
        have hv : ∀ w, (Instr.slice 9 (.string V) none (some (.int .i64 (q : Int))) none).run Try.prog w = .ok (.string O) w := fun w => by rw [run_slice_string_h w 9 V Try.underlying9 .i64 (q : Int) (by omega) (by omega), hO]; rfl
        have HO2 := hid (show reb l p = (O, true) by
          rw [HR.out, hO, HV.out, ← HQ.out]
          congr 1
          apply ByteArray.ext
          apply Array.toList_inj.1
          simp [str_list, ByteArray.data_extract, Array.toList_extract, List.extract, str])
        clear hO
        go_wp2_with fail
        refine (HX2.out _ _ _ _ r8 (by omega)).mono ?_
        rintro e w7 ⟨rfl, hb7⟩
        have k7 := k4.trans (hb7.mono s4)
        clear hb7
        go_wp2
        go_ret2
        exact ⟨by rw [HO2.out]; rfl, k7⟩
end Go.Proofs.Ytlekjmgjnnljcaa
