/- RebuildText in both programs. No condition but that all is within the law's bulk. -/
import Derived.Test.YtlekjmgjnnljcaaYp
namespace Go.Proofs.Ytlekjmgjnnljcaa
open Go.ChangeShapes Go.WideShapes Go.ChangeAt Go.RowKit Go.Joins
set_option linter.unusedVariables false
set_option linter.unusedSimpArgs false

theorem c_fromTwoBytes (T : ByteArray) (w : World) (h : 2 ≤ T.size) : Calls Try.prog 22 #[.string T] w fun e w' => e = .returned (.int .i64 (((T[0]).toNat * 256 + (T[1]).toNat : Nat) : Int)) ∧ Below w.heap.size w w' := by
  obtain ⟨a, ha⟩ : ∃ a, a = T[0] := ⟨_, rfl⟩
  obtain ⟨b, hb⟩ : ∃ b, b = T[1] := ⟨_, rfl⟩
  rw [← ha, ← hb]
  have i0 : ∀ W, (Instr.index 9 (.string T) (.int .i64 0)).run Try.prog W = .ok (.int .u8 (a.toNat : Int)) W := fun W => by
    have := idx_text (P := Try.prog) Try.underlying9 T 0 (by omega) W
    exact this.trans (by rw [ha])
  have i1 : ∀ W, (Instr.index 9 (.string T) (.int .i64 1)).run Try.prog W = .ok (.int .u8 (b.toNat : Int)) W := fun W => by
    have := idx_text (P := Try.prog) Try.underlying9 T 1 (by omega) W
    exact this.trans (by rw [hb])
  have la := UInt8.toNat_lt a
  have lb := UInt8.toNat_lt b
  have ho := or_two a b
  have ho2 := ho
  rw [IntWalk.i64_in _ (by omega)] at ho2
  clear ha hb
  go_enter Try.func22, Try.ntmps22
  go_wp2
  go_quiet (fail)
  go_wp2_with fail
  go_ret
  exact ⟨by rw [Nat.mul_comm]; rfl, by (repeat (first | with_reducible (first | assumption | exact Below.refl _ _ | refine bel_alloc ?_ _ | refine bel_drew ?_ | refine bel_drewN ?_ _ | refine bel_set ?_ (by first | omega | (simp; done) | (simp; omega)) _ | refine bel_trans ?_ (by assumption)) | assumption | refine bel_trans ?_ (by assumption)))⟩

set_option maxRecDepth 100000 in
theorem c_RebuildText (A : Option Addr) (cap : Nat) (l : List ByteArray) (L : Nat) (p : ByteArray) (w : World) (h : StrsAt w L A cap l) (hL : L ≤ w.heap.size) (hn : l.length ≤ 1048576) (hS : ∀ s ∈ l, s.size ≤ 1048576) (hp : p.size ≤ 1048576) : Calls Try.prog 7 #[.slice A l.length cap, .string p] w fun e w' => e = .returned (.tuple #[.string (reb l p).1, .bool (reb l p).2]) ∧ Below w.heap.size w w' := by
  obtain ⟨N, hN⟩ : ∃ N, N = l.length := ⟨_, rfl⟩
  have HN := hid hN
  have hml := h.2.1
  have hml1 := h.1
  unfold maxLen at hml
  rw [← HN.out] at hml1 hn ⊢
  by_cases h2 : p.size < 2
  · have HR := hid (reb_1 (l := l) (p := p) (.inl h2))
    rw [HR.out]
    clear hN
    have h2' : (p.size : Int) < 2 := by omega
    go_enter Try.func7, Try.ntmps7
    go_wp2
    go_ret2
    exact ⟨rfl, by (repeat (first | with_reducible (first | assumption | exact Below.refl _ _ | refine bel_alloc ?_ _ | refine bel_drew ?_ | refine bel_drewN ?_ _ | refine bel_set ?_ (by first | omega | (simp; done) | (simp; omega)) _ | refine bel_trans ?_ (by assumption)) | assumption | refine bel_trans ?_ (by assumption)))⟩
  by_cases h40 : 40 < N
  · have HR := hid (reb_1 (l := l) (p := p) (.inr (by omega)))
    rw [HR.out]
    clear hN
    have h2' : ¬ (p.size : Int) < 2 := by omega
    have h40' : (40 : Int) < N := by omega
    go_enter Try.func7, Try.ntmps7
    go_wp2
    go_ret2
    exact ⟨rfl, by (repeat (first | with_reducible (first | assumption | exact Below.refl _ _ | refine bel_alloc ?_ _ | refine bel_drew ?_ | refine bel_drewN ?_ _ | refine bel_set ?_ (by first | omega | (simp; done) | (simp; omega)) _ | refine bel_trans ?_ (by assumption)) | assumption | refine bel_trans ?_ (by assumption)))⟩
  have hk0 : ¬ (p.size < 2 ∨ 40 < l.length) := by omega
  clear hN
  have HK := hid hk0
  clear hk0
  obtain ⟨X, hX⟩ : ∃ X, X = hdOf p := ⟨_, rfl⟩
  obtain ⟨Y, hY⟩ : ∃ Y, Y = restOf p := ⟨_, rfl⟩
  have zX : X.size = 2 := by rw [hX, hdOf, ByteArray.size_extract]; omega
  have zY : Y.size = p.size - 2 := by rw [hY, restOf, ByteArray.size_extract]; omega
  have hx : ∀ w, (Instr.slice 9 (.string p) none (some (.int .i64 2)) none).run Try.prog w = .ok (.string X) w := fun w => by rw [run_slice_string_h w 9 p Try.underlying9 .i64 2 (by omega) (by omega), hX]; rfl
  have hy : ∀ w, (Instr.slice 9 (.string p) (some (.int .i64 2)) none none).run Try.prog w = .ok (.string Y) w := fun w => by rw [run_slice_string_l w 9 p Try.underlying9 .i64 2 (by omega) (by omega), hY]; rfl
  have h2' : ¬ (p.size : Int) < 2 := by omega
  have h40' : ¬ (40 : Int) < N := by omega
  have HX := hid hX
  have HY := hid hY
  have HH := hid h
  clear hX hY h
  go_enter Try.func7, Try.ntmps7
  go_wp2
  go_quiet (fail)
  go_wp2_with fail
  obtain ⟨W0, hW0⟩ : ∃ W0, W0 = w.drewN nq := ⟨_, rfl⟩
  have hb0 : Below w.heap.size w W0 := by rw [hW0]; (repeat (first | with_reducible (first | assumption | exact Below.refl _ _ | refine bel_alloc ?_ _ | refine bel_drew ?_ | refine bel_drewN ?_ _ | refine bel_set ?_ (by first | omega | (simp; done) | (simp; omega)) _ | refine bel_trans ?_ (by assumption)) | assumption | refine bel_trans ?_ (by assumption)))
  rw [← hW0]
  clear hW0
  have hs0 := hb0.size
  have h0 := HH.out.below hb0 hL
  go_loop [25] (fun i => ∃ k : Nat, k ≤ N ∧ i = .int .i64 k ∧ Hid (∀ (i : Nat) (hi : i < l.length), i < k → l[i].size + 2 ≤ p.size)) (fun i => N - (intOf i).toNat)
  case atStart => exact ⟨0, Nat.zero_le _, rfl, hid (fun i hi h => by omega)⟩
  case round =>
    obtain ⟨k, hk, rfl, HF⟩ := hrel
    by_cases hlt : k < N
    · have hlt2 : k < l.length := by have := HN.out; omega
      obtain ⟨b, off, rfl, hb, hc0⟩ := txt_at h0 k hlt2
      have hTs := hS _ (List.getElem_mem hlt2)
      obtain ⟨T, hT⟩ : ∃ T, T = l[k] := ⟨_, rfl⟩
      rw [← hT] at hc0 hTs
      have HT := hid hT
      clear hT
      by_cases hq : Y.size < T.size
      · have HR := hid (reb_2 HK.out k hlt2 (by rw [← HT.out]; omega))
        go_wp2
        go_ret2
        exact ⟨by rw [HR.out]; rfl, hb0⟩
      · have HG := hid (show ∀ (i : Nat) (hi : i < l.length), i < k + 1 → l[i].size + 2 ≤ p.size from fun i hi h => by
          by_cases hik : i = k
          · subst hik; rw [← HT.out]; omega
          · exact HF.out i hi (by omega))
        go_wp2
        go_round
        case rel => exact ⟨k + 1, by omega, by go_num, HG⟩
        case measure => simp [intOf]; omega
    · have HG := hid (show ∀ (i : Nat) (hi : i < l.length), l[i].size + 2 ≤ p.size from fun i hi => HF.out i hi (by have := HN.out; omega))
      have HM := hid (mis_len (l := l) (p := p) (by omega))
      have HO := hid (out_len (l := l) (p := p) (by omega) HG.out)
      have HL := hid (fun (v : World) (h : StrsAt v L A cap l) (hL : L ≤ v.heap.size) => c_lengthsOf A cap l L v h hL (by have := HN.out; omega) hS)
      rw [← HN.out] at HL
      have HC := hid (fun (v : World) (h : StrsAt v L A cap l) (hL : L ≤ v.heap.size) => c_CloneS A cap L l v h hL (by have := HN.out; omega))
      rw [← HN.out] at HC
      obtain ⟨M, hM⟩ : ∃ M, M = lens l ++ [X] := ⟨_, rfl⟩
      have HMl := hid (show M.length = N + 1 by rw [hM]; simp [lens_len]; have := HN.out; omega)
      have HMs := hid (show ∀ s ∈ M, s.size ≤ 1048576 from fun s hs => by
        rw [hM] at hs
        rcases List.mem_append.1 hs with h1 | h1
        · have := lens_size l s h1; omega
        · simp at h1; subst h1; omega)
      have HMx := hid (show xall M = mis l p by rw [hM, mis, HX.out])
      have HM1 := hid hM
      obtain ⟨M2, hM2⟩ : ∃ M, M = l ++ [Y] := ⟨_, rfl⟩
      have HM2l := hid (show M2.length = N + 1 by rw [hM2]; simp; have := HN.out; omega)
      have HM2s := hid (show ∀ s ∈ M2, s.size ≤ 1048576 from fun s hs => by
        rw [hM2] at hs
        rcases List.mem_append.1 hs with h1 | h1
        · exact hS s h1
        · simp at h1; subst h1; omega)
      have HM2x := hid (show xall M2 = xall (l ++ [restOf p]) by rw [hM2, HY.out])
      have HM2 := hid hM2
      clear hM hM2
      obtain ⟨P, hP⟩ : ∃ P, P = mis l p := ⟨_, rfl⟩
      rw [← hP] at HMx HM
      obtain ⟨a, b, rfl⟩ : ∃ a b, P = [a, b] := by
        match P, HM.out with
        | [a, b], _ => exact ⟨a, b, rfl⟩
      obtain ⟨Z, hZ⟩ : ∃ Z, Z = str [a, b] := ⟨_, rfl⟩
      have hz : Z.size = 2 := by rw [hZ]; rfl
      have i0 : ∀ W, (Instr.index 9 (.string Z) (.int .i64 0)).run Try.prog W = .ok (.int .u8 (a.toNat : Int)) W := fun W => by
        have := idx_text (P := Try.prog) Try.underlying9 Z 0 (by omega) W
        exact this.trans (by subst hZ; rfl)
      have i1 : ∀ W, (Instr.index 9 (.string Z) (.int .i64 1)).run Try.prog W = .ok (.int .u8 (b.toNat : Int)) W := fun W => by
        have := idx_text (P := Try.prog) Try.underlying9 Z 1 (by omega) W
        exact this.trans (by subst hZ; rfl)
      have ha := UInt8.toNat_lt a
      have hb := UInt8.toNat_lt b
      obtain ⟨q, hq⟩ : ∃ q, q = 256 * a.toNat + b.toNat := ⟨_, rfl⟩
      have HQ := hid (show q = pairOf (mis l p) by rw [← hP, hq]; simp [pairOf])
      have ho := or_two a b
      have ho2 := ho
      rw [IntWalk.i64_in _ (by omega)] at ho2
      rw [← hq] at ho ho2
      have hq2 : q ≤ 65535 := by omega
      have HZ := hid hZ
      have hqq := hq
      clear hP hq hZ
      have HX1 := hid (fun (A : Option Addr) (cap L : Nat) (v : World) (h : StrsAt v L A cap M) (hL : L ≤ v.heap.size) => c_XorTexts A cap M L v h hL HMs.out)
      rw [HMl.out, HMx.out, ← HZ.out] at HX1
      obtain ⟨V, hV⟩ : ∃ V, V = str (xall M2) := ⟨_, rfl⟩
      have HX2 := hid (fun (A : Option Addr) (cap L : Nat) (v : World) (h : StrsAt v L A cap M2) (hL : L ≤ v.heap.size) => c_XorTexts A cap M2 L v h hL HM2s.out)
      rw [HM2l.out, ← hV] at HX2
      have zV : V.size = p.size - 2 := by rw [hV, str_size, HM2x.out, HO.out]
      have HV := hid (show V = str (xall (l ++ [restOf p])) by rw [hV, HM2x.out])
      clear hV
      have HF2 := hid (fun v => c_fromTwoBytes Z v (by omega))
      have hZ01 : (((Z[0]).toNat * 256 + (Z[1]).toNat : Nat) : Int) = (q : Int) := by have hzz := HZ.out; subst hzz; rw [hqq]; show ((a.toNat * 256 + b.toNat : Nat) : Int) = _; omega
      rw [hZ01] at HF2
      clear hZ01 hqq i0 i1 ha hb ho ho2
      go_wp2_with fail
      refine (HL.out _ h0 (by omega)).mono ?_
      rintro e w1 ⟨g1, rfl, hown1, hb1⟩
      have k1 := hb0.trans (hb1.mono hs0)
      have s1 := k1.size
      have z1 := hb1.size
      clear hb1
      go_wp2_with (at_builtin; refine app_txt rfl _ _ 23 rfl W0.heap.size 9 Try.underlying23 Try.info_txt _ N (lens l) rfl hown1 X X rfl 1 rfl (by omega) (by omega) ?_; intro v2 w2 hown2 hb2 hg2)
      rw [← HM1.out] at hown2
      obtain ⟨A2, c2, rfl, r2, _, _⟩ := own_strs hown2
      have k2 := k1.trans (hb2.mono (by omega))
      have s2 := k2.size
      clear hown1 hown2 hb2 hg2
      rw [HMl.out]
      refine (HX1.out _ _ _ _ r2 (Nat.le_refl _)).mono ?_
      rintro e w3 ⟨rfl, hb3⟩
      have k3 := k2.trans (hb3.mono s2)
      have s3 := k3.size
      clear hb3 r2 k2 k1
      go_wp2_with fail
      refine (HF2.out _).mono ?_
      rintro e W4 ⟨rfl, hb4⟩
      have k4 := k3.trans (hb4.mono s3)
      have s4 := k4.size
      clear hb4 k3 s3
      by_cases hqy : Y.size < q
      · have HR := hid (reb_3 HK.out HG.out (by rw [← HQ.out]; omega))
        have hqy2 : (Y.size : Int) < q := by omega
        go_wp2
        go_ret2
        exact ⟨by rw [HR.out]; rfl, k4⟩
      · have HR := hid (reb_4 HK.out HG.out (by rw [← HQ.out]; omega))
        have hqy2 : ¬ (Y.size : Int) < q := by omega
        have h4 := HH.out.below k4 hL
        obtain ⟨O, hO⟩ : ∃ O, O = V.extract 0 q := ⟨_, rfl⟩
        have hv : ∀ w, (Instr.slice 9 (.string V) none (some (.int .i64 (q : Int))) none).run Try.prog w = .ok (.string O) w := fun w => by rw [run_slice_string_h w 9 V Try.underlying9 .i64 (q : Int) (by omega) (by omega), hO]; rfl
        have HO2 := hid (show reb l p = (O, true) by
          rw [HR.out, hO, HV.out, ← HQ.out]
          congr 1
          apply ByteArray.ext
          apply Array.toList_inj.1
          simp [str_list, ByteArray.data_extract, Array.toList_extract, List.extract, str])
        clear hO
        go_wp2_with fail
        refine (HC.out _ h4 (by omega)).mono ?_
        rintro e w5 ⟨v5, rfl, hown5, hb5⟩
        have k5 := k4.trans (hb5.mono s4)
        have s5 := k5.size
        have z5 := hb5.size
        clear hb5
        go_wp2_with (at_builtin; refine app_txt rfl _ _ 23 rfl W4.heap.size 9 Try.underlying23 Try.info_txt _ N l rfl hown5 Y Y rfl 1 rfl (by omega) (by omega) ?_; intro v6 w6 hown6 hb6 hg6)
        rw [← HM2.out] at hown6
        obtain ⟨A6, c6, rfl, r6, _, _⟩ := own_strs hown6
        have k6 := k5.trans (hb6.mono (by omega))
        have s6 := k6.size
        clear hown5 hown6 hb6 hg6
        rw [HM2l.out]
        refine (HX2.out _ _ _ _ r6 (Nat.le_refl _)).mono ?_
        rintro e w7 ⟨rfl, hb7⟩
        have k7 := k6.trans (hb7.mono s6)
        clear hb7 r6 k6 k5
        go_wp2
        go_ret2
        exact ⟨by rw [HO2.out]; rfl, k7⟩

/-- where an append of one string leaves the row -/
theorem append_where {P : Program} (w : World) (B : Nat) (t ty e : TypeId) (i : TypeInfo) (ht : P.underlying t = some (.slice e)) (hi : P.info? e = some i) (hz : i.zero = some (.string ByteArray.empty)) (h1 : i.size = 1) (h2 : i.bytes = 16)
    (v : Value) (n : Nat) (l : List ByteArray) (hown : w.ownsRow B e 1 v n (l.map sv)) (ad : Addr) (c : Nat) (x : ByteArray) (hx : w.cell? ad = some (.string x)) (hn : n ≤ 1000000000000) (v' : Value) (w' : World)
    (hr : (Builtin.append_ #[t, t] ty #[v, .slice (some ad) 1 c]).run P w = .ok v' w') : v'.ownBlock = v.ownBlock ∨ v'.ownBlock = some w.heap.size := by
  have hnews : ∀ j u, [Value.string x][j]? = some u → w.cell? (ad.add j) = some u := by
    intro j u hj
    match j, hj with
    | 0, hj => simp at hj; subst hj; rw [show ad.add 0 = ad by simp [Addr.add]]; exact hx
  rcases hown.2 with ⟨rfl, rfl⟩ | ⟨g, cap, cur, rfl, hbg, hg, hnc, hcm, hcs, htk⟩
  · have h := run_append_nil (P := P) w t ty e i (.string ByteArray.empty) ht hi hz ad 1 c [.string x] (by rw [h1]; rfl) hnews (by omega) (by omega) (by omega)
    rw [h] at hr
    cases hr
    exact .inr rfl
  · by_cases hroom : n + 1 ≤ cap
    · have h := run_append_room (P := P) w t ty e i ht hi g n cap cur hg ad 1 c [.string x] (by rw [h1]; rfl) hnews (by intro u hu; simp at hu; subst hu; rfl) hroom (by rw [h1]; simp; omega)
      rw [h] at hr
      cases hr
      exact .inl rfl
    · have h := run_append_grow (P := P) w t ty e i (.string ByteArray.empty) ht hi hz ⟨g, 0, none⟩ n cap (l.map sv) (by rw [h1]; simpa using hown.1) (hown.cells (g := g) rfl) ad 1 c [.string x] (by rw [h1]; rfl) hnews (by omega) (by omega) (growslice_fits (by omega) (by rw [h2]; omega))
      rw [h] at hr
      cases hr
      exact .inr rfl

/-- 'out = append(out, x)' of one string, and where it lies then: ONE goal is left. -/
theorem app_txt2 {P : Program} {w : World} {ops : Array Oper} {rest : List Oper} {o : Oper} {a : Act} {Q : Exit → Act → World → Prop} (hgd : o.guard = none) (s x : Operand) (t : TypeId)
    (ho : o.op = .call { callee := .builtin .append, args := #[s, x], argTypes := #[t, t] }) (B : Nat) (e : TypeId) (ht : P.underlying t = some (.slice e))
    (hinfo : (P.info? e).map (fun i => (i.zero, i.size, i.bytes)) = some (some (.string ByteArray.empty), 1, 16)) (v : Value) (n : Nat) (l : List ByteArray) (hs : a.eval s = v) (hown : w.ownsRow B e 1 v n (l.map sv)) (X : ByteArray) (cp : Nat)
    (hx : a.eval x = .slice (some ⟨w.heap.size, 0, none⟩) 1 cp) (hn : n ≤ 1000000000) (hB : B ≤ w.heap.size)
    (h : ∀ v' w', w'.ownsRow B e 1 v' (n + 1) ((l ++ [X]).map sv) → Below B w w' → w.grownBy w' v.ownBlock → (v'.ownBlock = v.ownBlock ∨ v'.ownBlock = some (w.heap.size + 1)) → wpList P ops Q rest (a.put o.dst v') w') : wpList P ops Q (o :: rest) a (w.alloc (.cells #[.string X] e)) := by
  obtain ⟨i0, hi, hz0, hz1, hz2⟩ := info_parts hinfo
  obtain ⟨v', w', hr, hown', hg, _⟩ := run_append_own (P := P) (w.alloc (.cells #[.string X] e)) B t o.type e i0 (.string ByteArray.empty) 1 16 ht hi hz0 hz1 hz2 rfl (by decide) v n (l.map sv) (hown.alloc _) ⟨w.heap.size, 0, none⟩ 1 cp [.string X] rfl (one_new w _ e) (by intro u hu; simp at hu; subst hu; rfl) (by unfold maxLen; omega) (by omega) (by have := World.size_alloc w (.cells #[.string X] e); omega)
  have hwh := append_where (P := P) (w.alloc (.cells #[.string X] e)) B t o.type e i0 ht hi hz0 hz1 hz2 v n l (hown.alloc _) ⟨w.heap.size, 0, none⟩ cp X (by have := one_new w (.string X) e 0 _ rfl; rw [show (⟨w.heap.size, 0, none⟩ : Addr).add 0 = ⟨w.heap.size, 0, none⟩ by simp [Addr.add]] at this; exact this) (by omega) v' w' hr
  have hg2 : w.grownBy w' v.ownBlock := grown_trans (World.grownBy_alloc w _ _) hg
  refine Lib.wpList_append_run _ hgd s x t t ho v _ hs hx v' w' hr ?_
  refine h v' w' ?_ (below_of_grown hg2 hB (fun g hg => (hown.lt g hg).1)) hg2 (by simpa using hwh)
  rw [List.map_append]; exact hown'

theorem own_one (w : World) (B : Nat) (e : TypeId) (X : ByteArray) (hB : B ≤ w.heap.size) : (w.alloc (.cells #[.string X] e)).ownsRow B e 1 (.slice (some ⟨w.heap.size, 0, none⟩) 1 1) 1 ([X].map sv) :=
  ⟨rfl, .inr ⟨w.heap.size, 1, #[.string X], rfl, hB, heap_alloc_new w _, Nat.le_refl _, by simp [maxLen], rfl, rfl⟩⟩
end Go.Proofs.Ytlekjmgjnnljcaa
