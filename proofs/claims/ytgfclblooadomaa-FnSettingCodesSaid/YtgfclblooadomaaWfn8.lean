/- The walk of the law on a setting's codes. -/
import Derived.Test.YtgfclblooadomaaDraw9
import Derived.Test.YtgfclblooadomaaFit
import Derived.Test.YtgfclblooadomaaWfn8m
import Derived.Test.YtgfclblooadomaaBn
import Derived.Test.YtgfclblooadomaaWfn2
import Derived.Deep.RegionHeld3
namespace Go.Proofs.Ytgfclblooadomaa
open Go.ChangeShapes Go.WideShapes Go.ChangeAt Go.RowKit Go.Joins
set_option linter.unusedVariables false

theorem sk_of {w v : World} {N : Nat} {T : TypeId} {a b c : Value} (k : Blk v N T #[a, b, c]) (h : Below w.heap.size w v) : (Blk v N T #[a, b, c] ∧ v.cell? ⟨N, 0, none⟩ = some a ∧ v.cell? ⟨N, 1, none⟩ = some b ∧ v.cell? ⟨N, 2, none⟩ = some c ∧ Below w.heap.size w v) := ⟨k, k.cells3.1, k.cells3.2.1, k.cells3.2.2, h⟩
theorem sk_drew {w v : World} {N : Nat} {T : TypeId} {a b c : Value} (k : Blk v N T #[a, b, c]) (h : Below w.heap.size w v) : (Blk v.drew N T #[a, b, c] ∧ v.drew.cell? ⟨N, 0, none⟩ = some a ∧ v.drew.cell? ⟨N, 1, none⟩ = some b ∧ v.drew.cell? ⟨N, 2, none⟩ = some c ∧ Below w.heap.size w v.drew) := sk_of k.drew (bel_drew h)
theorem sk_alloc {w v : World} {N : Nat} {T : TypeId} {a b c : Value} (h : (Blk v N T #[a, b, c] ∧ v.cell? ⟨N, 0, none⟩ = some a ∧ v.cell? ⟨N, 1, none⟩ = some b ∧ v.cell? ⟨N, 2, none⟩ = some c ∧ Below w.heap.size w v)) (o : Obj) : (Blk (v.alloc o) N T #[a, b, c] ∧ (v.alloc o).cell? ⟨N, 0, none⟩ = some a ∧ (v.alloc o).cell? ⟨N, 1, none⟩ = some b ∧ (v.alloc o).cell? ⟨N, 2, none⟩ = some c ∧ Below w.heap.size w (v.alloc o)) := sk_of (h.1.alloc o) (bel_alloc h.2.2.2.2 o)
theorem sk_bel {w v u : World} {N : Nat} {T : TypeId} {a b c : Value} (hb : Below v.heap.size v u) (h : (Blk v N T #[a, b, c] ∧ v.cell? ⟨N, 0, none⟩ = some a ∧ v.cell? ⟨N, 1, none⟩ = some b ∧ v.cell? ⟨N, 2, none⟩ = some c ∧ Below w.heap.size w v)) : (Blk u N T #[a, b, c] ∧ u.cell? ⟨N, 0, none⟩ = some a ∧ u.cell? ⟨N, 1, none⟩ = some b ∧ u.cell? ⟨N, 2, none⟩ = some c ∧ Below w.heap.size w u) := sk_of (h.1.on hb) (bel_trans h.2.2.2.2 hb)
theorem sk_out {w v : World} {N : Nat} {T : TypeId} {a b c : Value} (h : (Blk v N T #[a, b, c] ∧ v.cell? ⟨N, 0, none⟩ = some a ∧ v.cell? ⟨N, 1, none⟩ = some b ∧ v.cell? ⟨N, 2, none⟩ = some c ∧ Below w.heap.size w v)) : Below w.heap.size w v := h.2.2.2.2

set_option maxRecDepth 100000 in
set_option linter.unusedSimpArgs false in
set_option maxHeartbeats 4000000 in
theorem walk_FnSettingCodes (A' : Option Addr) (n cap : Nat) (w : World) (hc : CodeAt w w.heap.size A' n cap) : Calls Try.prog 3 #[.slice A' n cap] w fun e w' => e = .returned (.bool true) ∧ Below w.heap.size w w' := by
  have hbig := big_code hc
  by_cases big : 1048576 < n
  · go_enter Try.func3, Try.ntmps3
    go_wp2_with fail
    go_ret
    exact ⟨rfl, by (repeat (first | exact Below.refl _ _ | assumption | refine bel_alloc ?_ _ | refine bel_drew ?_ | refine bel_drewN ?_ _ | refine bel_set ?_ (by first | omega | (simp; done) | (simp; omega)) _ | refine bel_trans ?_ (by assumption)))⟩
  · go_enter Try.func3, Try.ntmps3
    go_wp2_with fail
    refine (c_DrawClearCode _ _ _ _ _ (Nat.le_refl _) hc).mono ?_
    rintro e w1 ⟨o, l, m, rfl, ho, hl, hm, b1⟩
    go_wp2_with fail
    obtain ⟨N, hN⟩ : ∃ N, N = w1.heap.size := ⟨_, rfl⟩
    obtain ⟨W1, hW1⟩ : ∃ W1, W1 = w1.alloc (.cells #[.int .i64 o, .int .i64 l, .int .i64 m] 24) := ⟨_, rfl⟩
    rw [← hW1, ← hN]
    have k1 : Blk W1 N 24 #[.int .i64 o, .int .i64 l, .int .i64 m] := by rw [hW1, hN]; exact Blk.new w1 _ _
    have c1 : Below w.heap.size w W1 := by rw [hW1]; exact bel_alloc b1 _
    clear hW1 hN b1 hc
    cases h : setOk o l m with
    | false =>
      have H1 := hid (show ∀ w, Calls Try.prog 15 #[.agg #[.int .i64 o, .int .i64 l, .int .i64 m]] w fun e w' => e = .returned (.int .i64 (-1)) ∧ Below w.heap.size w w' by
        intro w; have := c_ClearCode o l m w; rw [clearCode, h, if_neg (by decide)] at this; exact this)
      have H2 := hid (show ∀ w, Calls Try.prog 16 #[.agg #[.int .i64 o, .int .i64 l, .int .i64 m]] w fun e w' => e = .returned (.int .i64 (-1)) ∧ Below w.heap.size w w' by
        intro w; have := c_sClearCode o l m w; rw [clearCode, h, if_neg (by decide)] at this; exact this)
      have H3 := hid (show ∀ w, Calls Try.prog 17 #[.agg #[.int .i64 o, .int .i64 l, .int .i64 m]] w fun e w' => e = .returned (.bool false) ∧ Below w.heap.size w w' by
        intro w; have := c_SettingValid o l m w; rw [h] at this; exact this)
      have H4 := hid (show ∀ w, Calls Try.prog 18 #[.agg #[.int .i64 o, .int .i64 l, .int .i64 m]] w fun e w' => e = .returned (.int .i64 (-1)) ∧ Below w.heap.size w w' by
        intro w; have := c_EndCode o l m w; rw [endCode, h, if_neg (by decide)] at this; exact this)
      have H5 := hid (show ∀ w, Calls Try.prog 19 #[.agg #[.int .i64 o, .int .i64 l, .int .i64 m]] w fun e w' => e = .returned (.int .i64 (-1)) ∧ Below w.heap.size w w' by
        intro w; have := c_LastCode o l m w; rw [lastCode, h, if_neg (by decide)] at this; exact this)
      clear h
      refine (H1.out _).mono ?_
      rintro e W2 ⟨rfl, hb2⟩
      have k2 := k1.on hb2
      have c2 := bel_trans c1 hb2
      obtain ⟨x2, y2, z2⟩ := k2.cells3
      clear hb2 c1
      go_wp2_with fail
      refine (H2.out _).mono ?_
      rintro e W3 ⟨rfl, hb3⟩
      have k3 := k2.on hb3
      have c3 := bel_trans c2 hb3
      obtain ⟨x3, y3, z3⟩ := k3.cells3
      clear hb3 c2
      go_wp2_with fail
      refine (H3.out _).mono ?_
      rintro e W4 ⟨rfl, hb4⟩
      have k4 := k3.on hb4
      have c4 := bel_trans c3 hb4
      obtain ⟨x4, y4, z4⟩ := k4.cells3
      clear hb4 c3
      go_wp2_with fail
      refine (H2.out _).mono ?_
      rintro e W5 ⟨rfl, hb5⟩
      have k5 := k4.on hb5
      have c5 := bel_trans c4 hb5
      obtain ⟨x5, y5, z5⟩ := k5.cells3
      clear hb5 c4
      go_wp2_with fail
      refine (H3.out _).mono ?_
      rintro e W6 ⟨rfl, hb6⟩
      have k6 := k5.on hb6
      have c6 := bel_trans c5 hb6
      obtain ⟨x6, y6, z6⟩ := k6.cells3
      clear hb6 c5
      go_wp2_with fail
      refine (H4.out _).mono ?_
      rintro e W7 ⟨rfl, hb7⟩
      have k7 := k6.on hb7
      have c7 := bel_trans c6 hb7
      obtain ⟨x7, y7, z7⟩ := k7.cells3
      clear hb7 c6
      go_wp2_with fail
      refine (H5.out _).mono ?_
      rintro e W8 ⟨rfl, hb8⟩
      have k8 := k7.on hb8
      have c8 := bel_trans c7 hb8
      obtain ⟨x8, y8, z8⟩ := k8.cells3
      clear hb8 c7
      go_wp2
      go_ret
      exact ⟨by simp_all, by (repeat (first | exact Below.refl _ _ | assumption | refine bel_alloc ?_ _ | refine bel_drew ?_ | refine bel_drewN ?_ _ | refine bel_set ?_ (by first | omega | (simp; done) | (simp; omega)) _ | refine bel_trans ?_ (by assumption)))⟩
    | true =>
      obtain ⟨s1, s2, s3⟩ := setOk_iff.1 h
      obtain ⟨C, hC⟩ : ∃ C, C = pow2 l := ⟨_, rfl⟩
      obtain ⟨E, hE⟩ : ∃ E, E = pow2 m - 1 := ⟨_, rfl⟩
      have q1 := pow_lo s2.1 s2.2
      have q2 := pow_two_more s2.1 s3.1 s3.2
      have q3 := bits_pow (m := m) (by omega) s3.2
      have q4 := bits_pow (m := l) s2.1 (by omega)
      rw [← hC] at q1 q2 q4
      have hCb : 2 ≤ C ∧ C ≤ 256 := q1
      have hEb : C + 1 < E ∧ E ≤ 1023 := by omega
      have hE1 : E + 1 = pow2 m := by omega
      obtain ⟨x, hx⟩ : ∃ x : UInt8, C - 1 = (x.toNat : Int) := ⟨UInt8.ofNat (C - 1).toNat, by rw [UInt8.toNat_ofNat']; omega⟩
      obtain ⟨D, hD⟩ : ∃ D, D = str [x] := ⟨_, rfl⟩
      have hcv := fun wr : World => run_one (P := Try.prog) (w := wr) Try.underlying22 Try.underlying5 Try.underlying9 hx
      rw [← hD] at hcv
      have H1 := hid (show ∀ w, Calls Try.prog 15 #[.agg #[.int .i64 o, .int .i64 l, .int .i64 m]] w fun e w' => e = .returned (.int .i64 C) ∧ Below w.heap.size w w' by
        intro w; have := c_ClearCode o l m w; rw [clearCode, h, if_pos rfl, ← hC] at this; exact this)
      have H2 := hid (show ∀ w, Calls Try.prog 16 #[.agg #[.int .i64 o, .int .i64 l, .int .i64 m]] w fun e w' => e = .returned (.int .i64 C) ∧ Below w.heap.size w w' by
        intro w; have := c_sClearCode o l m w; rw [clearCode, h, if_pos rfl, ← hC] at this; exact this)
      have H3 := hid (show ∀ w, Calls Try.prog 17 #[.agg #[.int .i64 o, .int .i64 l, .int .i64 m]] w fun e w' => e = .returned (.bool true) ∧ Below w.heap.size w w' by
        intro w; have := c_SettingValid o l m w; rw [h] at this; exact this)
      have H4 := hid (show ∀ w, Calls Try.prog 18 #[.agg #[.int .i64 o, .int .i64 l, .int .i64 m]] w fun e w' => e = .returned (.int .i64 (C + 1)) ∧ Below w.heap.size w w' by
        intro w; have := c_EndCode o l m w; rw [endCode, h, if_pos rfl, ← hC] at this; exact this)
      have H5 := hid (show ∀ w, Calls Try.prog 19 #[.agg #[.int .i64 o, .int .i64 l, .int .i64 m]] w fun e w' => e = .returned (.int .i64 E) ∧ Below w.heap.size w w' by
        intro w; have := c_LastCode o l m w; rw [lastCode, h, if_pos rfl, ← hE] at this; exact this)
      have H6 := hid (show ∀ w, Calls Try.prog 20 #[.int .i64 E] w (Same (.int .i64 m) w) by
        intro w; have := c_BitsNeeded E w (by omega); rw [hE, q3.1] at this; rw [hE]; exact this)
      have H7 := hid (show ∀ w, Calls Try.prog 20 #[.int .i64 (E + 1)] w (Same (.int .i64 (m + 1)) w) by
        intro w; have := c_BitsNeeded (E + 1) w (by omega); rw [hE1, q3.2] at this; rw [hE1]; exact this)
      have H8 := hid (show ∀ w, Calls Try.prog 20 #[.int .i64 C] w (Same (.int .i64 (l + 1)) w) by
        intro w; have := c_BitsNeeded C w (by omega); rw [q4.2] at this; exact this)
      have H9 := hid (show ∀ w, Calls Try.prog 21 #[.agg #[.int .i64 o, .int .i64 l, .int .i64 m], .string D] w fun e w' => e = .returned (.bool true) ∧ Below w.heap.size w w' by
        intro w; have := c_DataFits o l m D w (by rw [hD, str_size]; show 1 ≤ maxLen; decide)
        have e : dataFits o l m D = true := by rw [dataFits, h, hD, str_size, str_list, ← hC]; simp [ltc]; omega
        rw [e] at this; exact this)
      clear h hC hE q1 q2 q3 q4 hE1 hD hx
      refine (H1.out _).mono ?_
      rintro e W2 ⟨rfl, hb2⟩
      have k2 := k1.on hb2
      have c2 := bel_trans c1 hb2
      obtain ⟨x2, y2, z2⟩ := k2.cells3
      clear hb2 c1
      go_wp2_with fail
      refine (H2.out _).mono ?_
      rintro e W3 ⟨rfl, hb3⟩
      have k3 := k2.on hb3
      have c3 := bel_trans c2 hb3
      obtain ⟨x3, y3, z3⟩ := k3.cells3
      clear hb3 c2
      go_wp2_with fail
      refine (H3.out _).mono ?_
      rintro e W4 ⟨rfl, hb4⟩
      have k4 := k3.on hb4
      have c4 := bel_trans c3 hb4
      obtain ⟨x4, y4, z4⟩ := k4.cells3
      clear hb4 c3
      go_wp2_with fail
      refine (H5.out _).mono ?_
      rintro e W5 ⟨rfl, hb5⟩
      have k5 := k4.on hb5
      have c5 := bel_trans c4 hb5
      obtain ⟨x5, y5, z5⟩ := k5.cells3
      clear hb5 c4
      go_wp2_with fail
      have u1 : IntKind.i64.wrap (C + 1) = C + 1 := IntWalk.i64_in _ (by omega)
      have u2 : IntKind.i64.wrap (E + 1) = E + 1 := IntWalk.i64_in _ (by omega)
      have u3 : IntKind.i64.wrap (m + 1) = m + 1 := IntWalk.i64_in _ (by omega)
      have u4 : IntKind.i64.wrap (l + 1) = l + 1 := IntWalk.i64_in _ (by omega)
      have u5 : IntKind.i64.wrap (C - 1) = C - 1 := IntWalk.i64_in _ (by omega)
      have u6 : IntKind.u8.wrap (C - 1) = C - 1 := by simp only [IntKind.wrap_u8]; omega
      refine wp_region_noPanic ?_
      refine wp_region_held_drew (S := (fun v : World => Blk v N 24 #[.int .i64 o, .int .i64 l, .int .i64 m] ∧ v.cell? ⟨N, 0, none⟩ = some (.int .i64 o) ∧ v.cell? ⟨N, 1, none⟩ = some (.int .i64 l) ∧ v.cell? ⟨N, 2, none⟩ = some (.int .i64 m) ∧ Below w.heap.size w v)) (by kernel_rfl) (sk_drew k5 c5) (fun hHeld => ?_)
      refine wpAnyH_take (i := 0) (oi := ?o0) (v := ?v0) ?i0 (by kernel_rfl) (by kernel_rfl) (by kernel_rfl) (fun _ _ _ h => h) ?y0 (by assumption) ?r0
      case i0 => (simp only [List.getElem?_toArray, List.getElem?_cons_succ, List.getElem?_cons_zero]; rfl)
      case y0 => exact Or.inl ⟨by rfl, by intro w hSw; (try dsimp only at hSw); go_simp; try with_reducible rfl⟩
      try simp only [Act.put, List.setIfInBounds_toArray, List.set_cons_zero, List.set_cons_succ]
      refine wpAnyH_take (i := 2) (oi := ?o2) (v := ?v2) ?i2 (by kernel_rfl) (by kernel_rfl) (by kernel_rfl) (fun _ _ _ h => h) ?y2 (by assumption) ?r2
      case i2 => (simp only [List.getElem?_toArray, List.getElem?_cons_succ, List.getElem?_cons_zero]; rfl)
      case y2 => exact Or.inl ⟨by rfl, by intro w hSw; (try dsimp only at hSw); go_simp; try with_reducible rfl⟩
      try simp only [Act.put, List.setIfInBounds_toArray, List.set_cons_zero, List.set_cons_succ]
      refine wpAnyH_take (i := 3) (oi := ?o3) (v := ?v3) ?i3 (by kernel_rfl) (by kernel_rfl) (by kernel_rfl) (fun _ _ _ h => h) ?y3 (by assumption) ?r3
      case i3 => (simp only [List.getElem?_toArray, List.getElem?_cons_succ, List.getElem?_cons_zero]; rfl)
      case y3 => exact Or.inl ⟨by rfl, by intro w hSw; (try dsimp only at hSw); go_simp; try with_reducible rfl⟩
      try simp only [Act.put, List.setIfInBounds_toArray, List.set_cons_zero, List.set_cons_succ]
      refine wpAnyH_ready (rs := [1]) (by kernel_rfl) (by simp) ?_
      refine AllReadyH.cons (o := ?o1) ?i1 (fun K hK => ?s1) AllReadyH.nil
      case i1 => (simp only [List.getElem?_toArray, List.getElem?_cons_succ, List.getElem?_cons_zero]; rfl)
      go_simp
      go_at_call 18
      refine (H4.out _).mono ?_
      rintro e w6 ⟨rfl, hb6⟩
      go_wp2_with fail
      refine hK.out _ _ ?k1 (fun hHeld => ?_)
      case k1 => (try dsimp only); (first | assumption | exact sk_alloc (by assumption) _ | exact sk_bel (by assumption) (by assumption))
      clear hK K
      try simp only [Act.put, List.setIfInBounds_toArray, List.set_cons_zero, List.set_cons_succ]
      refine wpAnyH_take (i := 4) (oi := ?o4) (v := ?v4) ?i4 (by kernel_rfl) (by kernel_rfl) (by kernel_rfl) (fun _ _ _ h => h) ?y4 (by assumption) ?r4
      case i4 => (simp only [List.getElem?_toArray, List.getElem?_cons_succ, List.getElem?_cons_zero]; rfl)
      case y4 => exact Or.inl ⟨by rfl, by intro w hSw; (try dsimp only at hSw); go_simp; try with_reducible rfl⟩
      try simp only [Act.put, List.setIfInBounds_toArray, List.set_cons_zero, List.set_cons_succ]
      refine wpAnyH_take (i := 5) (oi := ?o5) (v := ?v5) ?i5 (by kernel_rfl) (by kernel_rfl) (by kernel_rfl) (fun _ _ _ h => h) ?y5 (by assumption) ?r5
      case i5 => (simp only [List.getElem?_toArray, List.getElem?_cons_succ, List.getElem?_cons_zero]; rfl)
      case y5 => exact Or.inl ⟨by rfl, by intro w hSw; (try dsimp only at hSw); go_simp; try with_reducible rfl⟩
      try simp only [Act.put, List.setIfInBounds_toArray, List.set_cons_zero, List.set_cons_succ]
      refine wpAnyH_take (i := 6) (oi := ?o6) (v := ?v6) ?i6 (by kernel_rfl) (by kernel_rfl) (by kernel_rfl) (fun _ _ _ h => h) ?y6 (by assumption) ?r6
      case i6 => (simp only [List.getElem?_toArray, List.getElem?_cons_succ, List.getElem?_cons_zero]; rfl)
      case y6 => exact Or.inl ⟨by rfl, by intro w hSw; (try dsimp only at hSw); go_simp; try with_reducible rfl⟩
      try simp only [Act.put, List.setIfInBounds_toArray, List.set_cons_zero, List.set_cons_succ]
      refine wpAnyH_take (i := 7) (oi := ?o7) (v := ?v7) ?i7 (by kernel_rfl) (by kernel_rfl) (by kernel_rfl) (fun _ _ _ h => h) ?y7 (by assumption) ?r7
      case i7 => (simp only [List.getElem?_toArray, List.getElem?_cons_succ, List.getElem?_cons_zero]; rfl)
      case y7 => exact Or.inl ⟨by rfl, by intro w hSw; (try dsimp only at hSw); go_simp; try with_reducible rfl⟩
      try simp only [Act.put, List.setIfInBounds_toArray, List.set_cons_zero, List.set_cons_succ]
      refine wpAnyH_take (i := 8) (oi := ?o8) (v := ?v8) ?i8 (by kernel_rfl) (by kernel_rfl) (by kernel_rfl) (fun _ _ _ h => h) ?y8 (by assumption) ?r8
      case i8 => (simp only [List.getElem?_toArray, List.getElem?_cons_succ, List.getElem?_cons_zero]; rfl)
      case y8 => exact Or.inl ⟨by rfl, by intro w hSw; (try dsimp only at hSw); go_simp; try with_reducible rfl⟩
      try simp only [Act.put, List.setIfInBounds_toArray, List.set_cons_zero, List.set_cons_succ]
      refine wpAnyH_take (i := 9) (oi := ?o9) (v := ?v9) ?i9 (by kernel_rfl) (by kernel_rfl) (by kernel_rfl) (fun _ _ _ h => h) ?y9 (by assumption) ?r9
      case i9 => (simp only [List.getElem?_toArray, List.getElem?_cons_succ, List.getElem?_cons_zero]; rfl)
      case y9 => exact Or.inl ⟨by rfl, by intro w hSw; (try dsimp only at hSw); go_simp; try with_reducible rfl⟩
      try simp only [Act.put, List.setIfInBounds_toArray, List.set_cons_zero, List.set_cons_succ]
      refine wpAnyH_take (i := 10) (oi := ?o10) (v := ?v10) ?i10 (by kernel_rfl) (by kernel_rfl) (by kernel_rfl) (fun _ _ _ h => h) ?y10 (by assumption) ?r10
      case i10 => (simp only [List.getElem?_toArray, List.getElem?_cons_succ, List.getElem?_cons_zero]; rfl)
      case y10 => exact Or.inl ⟨by rfl, by intro w hSw; (try dsimp only at hSw); go_simp; try with_reducible rfl⟩
      try simp only [Act.put, List.setIfInBounds_toArray, List.set_cons_zero, List.set_cons_succ]
      refine wpAnyH_take (i := 11) (oi := ?o11) (v := ?v11) ?i11 (by kernel_rfl) (by kernel_rfl) (by kernel_rfl) (fun _ _ _ h => h) ?y11 (by assumption) ?r11
      case i11 => (simp only [List.getElem?_toArray, List.getElem?_cons_succ, List.getElem?_cons_zero]; rfl)
      case y11 => exact Or.inl ⟨by rfl, by intro w hSw; (try dsimp only at hSw); go_simp; try with_reducible rfl⟩
      try simp only [Act.put, List.setIfInBounds_toArray, List.set_cons_zero, List.set_cons_succ]
      refine wpAnyH_take (i := 12) (oi := ?o12) (v := ?v12) ?i12 (by kernel_rfl) (by kernel_rfl) (by kernel_rfl) (fun _ _ _ h => h) ?y12 (by assumption) ?r12
      case i12 => (simp only [List.getElem?_toArray, List.getElem?_cons_succ, List.getElem?_cons_zero]; rfl)
      case y12 => exact Or.inl ⟨by rfl, by intro w hSw; (try dsimp only at hSw); go_simp; try with_reducible rfl⟩
      try simp only [Act.put, List.setIfInBounds_toArray, List.set_cons_zero, List.set_cons_succ]
      refine wpAnyH_take (i := 14) (oi := ?o14) (v := ?v14) ?i14 (by kernel_rfl) (by kernel_rfl) (by kernel_rfl) (fun _ _ _ h => h) ?y14 (by assumption) ?r14
      case i14 => (simp only [List.getElem?_toArray, List.getElem?_cons_succ, List.getElem?_cons_zero]; rfl)
      case y14 => exact Or.inl ⟨by rfl, by intro w hSw; (try dsimp only at hSw); go_simp; try with_reducible rfl⟩
      try simp only [Act.put, List.setIfInBounds_toArray, List.set_cons_zero, List.set_cons_succ]
      refine wpAnyH_take (i := 15) (oi := ?o15) (v := ?v15) ?i15 (by kernel_rfl) (by kernel_rfl) (by kernel_rfl) (fun _ _ _ h => h) ?y15 (by assumption) ?r15
      case i15 => (simp only [List.getElem?_toArray, List.getElem?_cons_succ, List.getElem?_cons_zero]; rfl)
      case y15 => exact Or.inl ⟨by rfl, by intro w hSw; (try dsimp only at hSw); go_simp; try with_reducible rfl⟩
      try simp only [Act.put, List.setIfInBounds_toArray, List.set_cons_zero, List.set_cons_succ]
      refine wpAnyH_ready (rs := [13]) (by kernel_rfl) (by simp) ?_
      refine AllReadyH.cons (o := ?o13) ?i13 (fun K hK => ?s13) AllReadyH.nil
      case i13 => (simp only [List.getElem?_toArray, List.getElem?_cons_succ, List.getElem?_cons_zero]; rfl)
      go_simp
      go_at_call 20
      refine (H6.out _).mono ?_
      rintro e w' ⟨rfl, rfl⟩
      go_wp2_with fail
      refine hK.out _ _ ?k13 (fun hHeld => ?_)
      case k13 => (try dsimp only); (first | assumption | exact sk_alloc (by assumption) _ | exact sk_bel (by assumption) (by assumption))
      clear hK K
      try simp only [Act.put, List.setIfInBounds_toArray, List.set_cons_zero, List.set_cons_succ]
      refine wpAnyH_take (i := 16) (oi := ?o16) (v := ?v16) ?i16 (by kernel_rfl) (by kernel_rfl) (by kernel_rfl) (fun _ _ _ h => h) ?y16 (by assumption) ?r16
      case i16 => (simp only [List.getElem?_toArray, List.getElem?_cons_succ, List.getElem?_cons_zero]; rfl)
      case y16 => exact Or.inl ⟨by rfl, by intro w hSw; (try dsimp only at hSw); go_simp; try with_reducible rfl⟩
      try simp only [Act.put, List.setIfInBounds_toArray, List.set_cons_zero, List.set_cons_succ]
      refine wpAnyH_take (i := 17) (oi := ?o17) (v := ?v17) ?i17 (by kernel_rfl) (by kernel_rfl) (by kernel_rfl) (fun _ _ _ h => h) ?y17 (by assumption) ?r17
      case i17 => (simp only [List.getElem?_toArray, List.getElem?_cons_succ, List.getElem?_cons_zero]; rfl)
      case y17 => exact Or.inl ⟨by rfl, by intro w hSw; (try dsimp only at hSw); go_simp; try with_reducible rfl⟩
      try simp only [Act.put, List.setIfInBounds_toArray, List.set_cons_zero, List.set_cons_succ]
      refine wpAnyH_take (i := 18) (oi := ?o18) (v := ?v18) ?i18 (by kernel_rfl) (by kernel_rfl) (by kernel_rfl) (fun _ _ _ h => h) ?y18 (by assumption) ?r18
      case i18 => (simp only [List.getElem?_toArray, List.getElem?_cons_succ, List.getElem?_cons_zero]; rfl)
      case y18 => exact Or.inl ⟨by rfl, by intro w hSw; (try dsimp only at hSw); go_simp; try with_reducible rfl⟩
      try simp only [Act.put, List.setIfInBounds_toArray, List.set_cons_zero, List.set_cons_succ]
      refine wpAnyH_take (i := 19) (oi := ?o19) (v := ?v19) ?i19 (by kernel_rfl) (by kernel_rfl) (by kernel_rfl) (fun _ _ _ h => h) ?y19 (by assumption) ?r19
      case i19 => (simp only [List.getElem?_toArray, List.getElem?_cons_succ, List.getElem?_cons_zero]; rfl)
      case y19 => exact Or.inl ⟨by rfl, by intro w hSw; (try dsimp only at hSw); go_simp; try with_reducible rfl⟩
      try simp only [Act.put, List.setIfInBounds_toArray, List.set_cons_zero, List.set_cons_succ]
      refine wpAnyH_take (i := 20) (oi := ?o20) (v := ?v20) ?i20 (by kernel_rfl) (by kernel_rfl) (by kernel_rfl) (fun _ _ _ h => h) ?y20 (by assumption) ?r20
      case i20 => (simp only [List.getElem?_toArray, List.getElem?_cons_succ, List.getElem?_cons_zero]; rfl)
      case y20 => exact Or.inl ⟨by rfl, by intro w hSw; (try dsimp only at hSw); go_simp; try with_reducible rfl⟩
      try simp only [Act.put, List.setIfInBounds_toArray, List.set_cons_zero, List.set_cons_succ]
      refine wpAnyH_take (i := 22) (oi := ?o22) (v := ?v22) ?i22 (by kernel_rfl) (by kernel_rfl) (by kernel_rfl) (fun _ _ _ h => h) ?y22 (by assumption) ?r22
      case i22 => (simp only [List.getElem?_toArray, List.getElem?_cons_succ, List.getElem?_cons_zero]; rfl)
      case y22 => exact Or.inl ⟨by rfl, by intro w hSw; (try dsimp only at hSw); go_simp; try with_reducible rfl⟩
      try simp only [Act.put, List.setIfInBounds_toArray, List.set_cons_zero, List.set_cons_succ]
      refine wpAnyH_take (i := 23) (oi := ?o23) (v := ?v23) ?i23 (by kernel_rfl) (by kernel_rfl) (by kernel_rfl) (fun _ _ _ h => h) ?y23 (by assumption) ?r23
      case i23 => (simp only [List.getElem?_toArray, List.getElem?_cons_succ, List.getElem?_cons_zero]; rfl)
      case y23 => exact Or.inl ⟨by rfl, by intro w hSw; (try dsimp only at hSw); go_simp; try with_reducible rfl⟩
      try simp only [Act.put, List.setIfInBounds_toArray, List.set_cons_zero, List.set_cons_succ]
      refine wpAnyH_take (i := 24) (oi := ?o24) (v := ?v24) ?i24 (by kernel_rfl) (by kernel_rfl) (by kernel_rfl) (fun _ _ _ h => h) ?y24 (by assumption) ?r24
      case i24 => (simp only [List.getElem?_toArray, List.getElem?_cons_succ, List.getElem?_cons_zero]; rfl)
      case y24 => exact Or.inl ⟨by rfl, by intro w hSw; (try dsimp only at hSw); go_simp; try with_reducible rfl⟩
      try simp only [Act.put, List.setIfInBounds_toArray, List.set_cons_zero, List.set_cons_succ]
      refine wpAnyH_ready (rs := [21]) (by kernel_rfl) (by simp) ?_
      refine AllReadyH.cons (o := ?o21) ?i21 (fun K hK => ?s21) AllReadyH.nil
      case i21 => (simp only [List.getElem?_toArray, List.getElem?_cons_succ, List.getElem?_cons_zero]; rfl)
      go_simp
      go_at_call 20
      refine (H7.out _).mono ?_
      rintro e w' ⟨rfl, rfl⟩
      go_wp2_with fail
      refine hK.out _ _ ?k21 (fun hHeld => ?_)
      case k21 => (try dsimp only); (first | assumption | exact sk_alloc (by assumption) _ | exact sk_bel (by assumption) (by assumption))
      clear hK K
      try simp only [Act.put, List.setIfInBounds_toArray, List.set_cons_zero, List.set_cons_succ]
      refine wpAnyH_take (i := 25) (oi := ?o25) (v := ?v25) ?i25 (by kernel_rfl) (by kernel_rfl) (by kernel_rfl) (fun _ _ _ h => h) ?y25 (by assumption) ?r25
      case i25 => (simp only [List.getElem?_toArray, List.getElem?_cons_succ, List.getElem?_cons_zero]; rfl)
      case y25 => exact Or.inl ⟨by rfl, by intro w hSw; (try dsimp only at hSw); go_simp; try with_reducible rfl⟩
      try simp only [Act.put, List.setIfInBounds_toArray, List.set_cons_zero, List.set_cons_succ]
      refine wpAnyH_take (i := 26) (oi := ?o26) (v := ?v26) ?i26 (by kernel_rfl) (by kernel_rfl) (by kernel_rfl) (fun _ _ _ h => h) ?y26 (by assumption) ?r26
      case i26 => (simp only [List.getElem?_toArray, List.getElem?_cons_succ, List.getElem?_cons_zero]; rfl)
      case y26 => exact Or.inl ⟨by rfl, by intro w hSw; (try dsimp only at hSw); go_simp; try with_reducible rfl⟩
      try simp only [Act.put, List.setIfInBounds_toArray, List.set_cons_zero, List.set_cons_succ]
      refine wpAnyH_take (i := 27) (oi := ?o27) (v := ?v27) ?i27 (by kernel_rfl) (by kernel_rfl) (by kernel_rfl) (fun _ _ _ h => h) ?y27 (by assumption) ?r27
      case i27 => (simp only [List.getElem?_toArray, List.getElem?_cons_succ, List.getElem?_cons_zero]; rfl)
      case y27 => exact Or.inl ⟨by rfl, by intro w hSw; (try dsimp only at hSw); go_simp; try with_reducible rfl⟩
      try simp only [Act.put, List.setIfInBounds_toArray, List.set_cons_zero, List.set_cons_succ]
      refine wpAnyH_take (i := 28) (oi := ?o28) (v := ?v28) ?i28 (by kernel_rfl) (by kernel_rfl) (by kernel_rfl) (fun _ _ _ h => h) ?y28 (by assumption) ?r28
      case i28 => (simp only [List.getElem?_toArray, List.getElem?_cons_succ, List.getElem?_cons_zero]; rfl)
      case y28 => exact Or.inl ⟨by rfl, by intro w hSw; (try dsimp only at hSw); go_simp; try with_reducible rfl⟩
      try simp only [Act.put, List.setIfInBounds_toArray, List.set_cons_zero, List.set_cons_succ]
      refine wpAnyH_take (i := 30) (oi := ?o30) (v := ?v30) ?i30 (by kernel_rfl) (by kernel_rfl) (by kernel_rfl) (fun _ _ _ h => h) ?y30 (by assumption) ?r30
      case i30 => (simp only [List.getElem?_toArray, List.getElem?_cons_succ, List.getElem?_cons_zero]; rfl)
      case y30 => exact Or.inl ⟨by rfl, by intro w hSw; (try dsimp only at hSw); go_simp; try with_reducible rfl⟩
      try simp only [Act.put, List.setIfInBounds_toArray, List.set_cons_zero, List.set_cons_succ]
      refine wpAnyH_take (i := 31) (oi := ?o31) (v := ?v31) ?i31 (by kernel_rfl) (by kernel_rfl) (by kernel_rfl) (fun _ _ _ h => h) ?y31 (by assumption) ?r31
      case i31 => (simp only [List.getElem?_toArray, List.getElem?_cons_succ, List.getElem?_cons_zero]; rfl)
      case y31 => exact Or.inl ⟨by rfl, by intro w hSw; (try dsimp only at hSw); go_simp; try with_reducible rfl⟩
      try simp only [Act.put, List.setIfInBounds_toArray, List.set_cons_zero, List.set_cons_succ]
      refine wpAnyH_take (i := 32) (oi := ?o32) (v := ?v32) ?i32 (by kernel_rfl) (by kernel_rfl) (by kernel_rfl) (fun _ _ _ h => h) ?y32 (by assumption) ?r32
      case i32 => (simp only [List.getElem?_toArray, List.getElem?_cons_succ, List.getElem?_cons_zero]; rfl)
      case y32 => exact Or.inl ⟨by rfl, by intro w hSw; (try dsimp only at hSw); go_simp; try with_reducible rfl⟩
      try simp only [Act.put, List.setIfInBounds_toArray, List.set_cons_zero, List.set_cons_succ]
      refine wpAnyH_ready (rs := [29]) (by kernel_rfl) (by simp) ?_
      refine AllReadyH.cons (o := ?o29) ?i29 (fun K hK => ?s29) AllReadyH.nil
      case i29 => (simp only [List.getElem?_toArray, List.getElem?_cons_succ, List.getElem?_cons_zero]; rfl)
      go_simp
      go_at_call 20
      refine (H8.out _).mono ?_
      rintro e w' ⟨rfl, rfl⟩
      go_wp2_with fail
      refine hK.out _ _ ?k29 (fun hHeld => ?_)
      case k29 => (try dsimp only); (first | assumption | exact sk_alloc (by assumption) _ | exact sk_bel (by assumption) (by assumption))
      clear hK K
      try simp only [Act.put, List.setIfInBounds_toArray, List.set_cons_zero, List.set_cons_succ]
      refine wpAnyH_take (i := 33) (oi := ?o33) (v := ?v33) ?i33 (by kernel_rfl) (by kernel_rfl) (by kernel_rfl) (fun _ _ _ h => h) ?y33 (by assumption) ?r33
      case i33 => (simp only [List.getElem?_toArray, List.getElem?_cons_succ, List.getElem?_cons_zero]; rfl)
      case y33 => exact Or.inl ⟨by rfl, by intro w hSw; (try dsimp only at hSw); go_simp; try with_reducible rfl⟩
      try simp only [Act.put, List.setIfInBounds_toArray, List.set_cons_zero, List.set_cons_succ]
      refine wpAnyH_take (i := 34) (oi := ?o34) (v := ?v34) ?i34 (by kernel_rfl) (by kernel_rfl) (by kernel_rfl) (fun _ _ _ h => h) ?y34 (by assumption) ?r34
      case i34 => (simp only [List.getElem?_toArray, List.getElem?_cons_succ, List.getElem?_cons_zero]; rfl)
      case y34 => exact Or.inl ⟨by rfl, by intro w hSw; (try dsimp only at hSw); go_simp; try with_reducible rfl⟩
      try simp only [Act.put, List.setIfInBounds_toArray, List.set_cons_zero, List.set_cons_succ]
      refine wpAnyH_take (i := 35) (oi := ?o35) (v := ?v35) ?i35 (by kernel_rfl) (by kernel_rfl) (by kernel_rfl) (fun _ _ _ h => h) ?y35 (by assumption) ?r35
      case i35 => (simp only [List.getElem?_toArray, List.getElem?_cons_succ, List.getElem?_cons_zero]; rfl)
      case y35 => exact Or.inl ⟨by rfl, by intro w hSw; (try dsimp only at hSw); go_simp; try with_reducible rfl⟩
      try simp only [Act.put, List.setIfInBounds_toArray, List.set_cons_zero, List.set_cons_succ]
      refine wpAnyH_take (i := 36) (oi := ?o36) (v := ?v36) ?i36 (by kernel_rfl) (by kernel_rfl) (by kernel_rfl) (fun _ _ _ h => h) ?y36 (by assumption) ?r36
      case i36 => (simp only [List.getElem?_toArray, List.getElem?_cons_succ, List.getElem?_cons_zero]; rfl)
      case y36 => exact Or.inl ⟨by rfl, by intro w hSw; (try dsimp only at hSw); go_simp; try with_reducible rfl⟩
      try simp only [Act.put, List.setIfInBounds_toArray, List.set_cons_zero, List.set_cons_succ]
      refine wpAnyH_take (i := 37) (oi := ?o37) (v := ?v37) ?i37 (by kernel_rfl) (by kernel_rfl) (by kernel_rfl) (fun _ _ _ h => h) ?y37 (by assumption) ?r37
      case i37 => (simp only [List.getElem?_toArray, List.getElem?_cons_succ, List.getElem?_cons_zero]; rfl)
      case y37 => exact Or.inl ⟨by rfl, by intro w hSw; (try dsimp only at hSw); go_simp; try with_reducible rfl⟩
      try simp only [Act.put, List.setIfInBounds_toArray, List.set_cons_zero, List.set_cons_succ]
      refine wpAnyH_take (i := 38) (oi := ?o38) (v := ?v38) ?i38 (by kernel_rfl) (by kernel_rfl) (by kernel_rfl) (fun _ _ _ h => h) ?y38 (by assumption) ?r38
      case i38 => (simp only [List.getElem?_toArray, List.getElem?_cons_succ, List.getElem?_cons_zero]; rfl)
      case y38 => exact Or.inl ⟨by rfl, by intro w hSw; (try dsimp only at hSw); go_simp; try with_reducible rfl⟩
      try simp only [Act.put, List.setIfInBounds_toArray, List.set_cons_zero, List.set_cons_succ]
      refine wpAnyH_take (i := 39) (oi := ?o39) (v := ?v39) ?i39 (by kernel_rfl) (by kernel_rfl) (by kernel_rfl) (fun _ _ _ h => h) ?y39 (by assumption) ?r39
      case i39 => (simp only [List.getElem?_toArray, List.getElem?_cons_succ, List.getElem?_cons_zero]; rfl)
      case y39 => exact Or.inl ⟨by rfl, by intro w hSw; (try dsimp only at hSw); go_simp; try with_reducible rfl⟩
      try simp only [Act.put, List.setIfInBounds_toArray, List.set_cons_zero, List.set_cons_succ]
      refine wpAnyH_ready (rs := [40]) (by kernel_rfl) (by simp) ?_
      refine AllReadyH.cons (o := ?o40) ?i40 (fun K hK => ?s40) AllReadyH.nil
      case i40 => (simp only [List.getElem?_toArray, List.getElem?_cons_succ, List.getElem?_cons_zero]; rfl)
      go_simp
      refine hK.out _ _ ?k40 (fun hHeld => ?_)
      case k40 => (try dsimp only); (first | assumption | exact sk_alloc (by assumption) _ | exact sk_bel (by assumption) (by assumption))
      clear hK K
      try simp only [Act.put, List.setIfInBounds_toArray, List.set_cons_zero, List.set_cons_succ]
      refine wpAnyH_ready (rs := [41]) (by kernel_rfl) (by simp) ?_
      refine AllReadyH.cons (o := ?o41) ?i41 (fun K hK => ?s41) AllReadyH.nil
      case i41 => (simp only [List.getElem?_toArray, List.getElem?_cons_succ, List.getElem?_cons_zero]; rfl)
      go_simp
      refine hK.out _ _ ?k41 (fun hHeld => ?_)
      case k41 => (try dsimp only); (first | assumption | exact sk_alloc (by assumption) _ | exact sk_bel (by assumption) (by assumption))
      clear hK K
      try simp only [Act.put, List.setIfInBounds_toArray, List.set_cons_zero, List.set_cons_succ]
      refine wpAnyH_ready (rs := [42]) (by kernel_rfl) (by simp) ?_
      refine AllReadyH.cons (o := ?o42) ?i42 (fun K hK => ?s42) AllReadyH.nil
      case i42 => (simp only [List.getElem?_toArray, List.getElem?_cons_succ, List.getElem?_cons_zero]; rfl)
      go_simp
      go_at_call 21
      refine (H9.out _).mono ?_
      rintro e w7 ⟨rfl, hb7⟩
      go_wp2_with fail
      refine hK.out _ _ ?k42 (fun hHeld => ?_)
      case k42 => (try dsimp only); (first | assumption | exact sk_alloc (by assumption) _ | exact sk_bel (by assumption) (by assumption))
      clear hK K
      try simp only [Act.put, List.setIfInBounds_toArray, List.set_cons_zero, List.set_cons_succ]
      refine wpAnyH_take (i := 43) (oi := ?o43) (v := ?v43) ?i43 (by kernel_rfl) (by kernel_rfl) (by kernel_rfl) (fun _ _ _ h => h) ?y43 (by assumption) ?r43
      case i43 => (simp only [List.getElem?_toArray, List.getElem?_cons_succ, List.getElem?_cons_zero]; rfl)
      case y43 => exact Or.inl ⟨by rfl, by intro w hSw; (try dsimp only at hSw); go_simp; try with_reducible rfl⟩
      try simp only [Act.put, List.setIfInBounds_toArray, List.set_cons_zero, List.set_cons_succ]
      refine wpAnyH_take (i := 44) (oi := ?o44) (v := ?v44) ?i44 (by kernel_rfl) (by kernel_rfl) (by kernel_rfl) (fun _ _ _ h => h) ?y44 (by assumption) ?r44
      case i44 => (simp only [List.getElem?_toArray, List.getElem?_cons_succ, List.getElem?_cons_zero]; rfl)
      case y44 => exact Or.inl ⟨by rfl, by intro w hSw; (try dsimp only at hSw); go_simp; try with_reducible rfl⟩
      try simp only [Act.put, List.setIfInBounds_toArray, List.set_cons_zero, List.set_cons_succ]
      refine wpAnyH_done (by kernel_rfl) ?_ _
      refine NoPanic.normal ?_
      go_wp2
      go_ret
      exact ⟨by simp_all, sk_out (by assumption)⟩
end Go.Proofs.Ytgfclblooadomaa
