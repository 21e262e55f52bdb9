/- The walk of the law on codes that are read and packed again. -/
import Derived.Test.YtophlgnmfhoeiaaVu
import Derived.Test.YtophlgnmfhoeiaaWfn2
import Derived.Test.YtophlgnmfhoeiaaPc
import Derived.Test.YtophlgnmfhoeiaaBk
namespace Go.Proofs.Ytophlgnmfhoeiaa
open Go.ChangeShapes Go.WideShapes Go.ChangeAt Go.RowKit Go.Joins
set_option linter.unusedVariables false

theorem ext_str (l : List UInt8) (n : Nat) : (str l).extract 0 n = str (l.take n) := by
  apply ByteArray.ext
  apply Array.ext'
  rw [ext_take, str_list]
  exact (str_list _).symm
theorem asc_take (l : List Bool) (n : Nat) : (M.asc l).take n = M.asc (l.take n) := by simp [M.asc, List.map_take]
theorem Kn.unpackL_eq (k : Kn) (s : ByteArray) : unpackL k.o s = M.asc (k.bitsOf s) := by rw [Kn.bitsOf_eq]; rfl
theorem Kn.bits_front (k : Kn) (cs : List Int) : (str (unpackL k.o (k.packed cs))).extract 0 (k.bl cs).length = str (M.asc (k.bl cs)) := by
  rw [Kn.unpackL_eq, ext_str, asc_take, Kn.bitsOf_packed, M.pad, List.take_left']
  rfl
theorem Kn.bits_read (k : Kn) (s : ByteArray) : (str (unpackL k.o s)).extract 0 (k.bl (k.uc s)).length = str (M.asc (k.bl (k.uc s))) := by
  rw [Kn.unpackL_eq, ext_str, asc_take, ← (Kn.uc_bits k s).1]
theorem sum_take_le (l : List Nat) (j : Nat) : (l.take j).sum ≤ l.sum := by
  conv => rhs; rw [← List.take_append_drop j l, List.sum_append]
  omega
theorem sums_of (k : Kn) (cs : List Int) (hp : ∀ (i : Nat) (x : Int), (k.widths cs)[i]? = some x → 0 ≤ x) : ∃ f : Nat → Nat, f 0 = 0 ∧ (∀ j, j < (k.widths cs).length → ∃ x : Int, (k.widths cs)[j]? = some x ∧ (f (j + 1) : Int) = f j + x) ∧ (∀ j, f j ≤ (k.bl cs).length) ∧ f (k.widths cs).length = (k.bl cs).length := by
  refine ⟨fun j => (((k.widths cs).map Int.toNat).take j).sum, by simp, fun j hj => ?_, fun j => ?_, ?_⟩
  · have hx : (k.widths cs)[j]? = some (k.widths cs)[j] := List.getElem?_eq_getElem hj
    have h0 := hp j _ hx
    refine ⟨_, hx, ?_⟩
    have e : ((k.widths cs).map Int.toNat).take (j + 1) = ((k.widths cs).map Int.toNat).take j ++ [((k.widths cs)[j]).toNat] := by
      rw [List.take_add_one, List.getElem?_map, hx]; rfl
    simp only [e, List.sum_append, List.sum_cons, List.sum_nil]
    omega
  · rw [Kn.bl_len]; exact sum_take_le _ _
  · rw [Kn.bl_len]
    show (List.take (k.widths cs).length (List.map Int.toNat (k.widths cs))).sum = _
    rw [List.take_of_length_le (by simp)]

set_option maxHeartbeats 4000000 in
set_option maxRecDepth 100000 in
theorem walk_FnCodesUnpackPack (A0 : Option Addr) (n0 cap0 : Nat) (w : World) (hc : CodeAt w w.heap.size A0 n0 cap0) : Calls Try.prog 8 #[.slice A0 n0 cap0] w fun e w' => e = .returned (.bool true) ∧ Below w.heap.size w w' := by
  have h1 := hc.1
  have h2 := hc.2.1
  by_cases big : 1048576 < n0
  · unfold maxLen at h2
    go_enter Try.func8, Try.ntmps8
    go_wp2_with fail
    go_ret
    exact ⟨rfl, by (repeat (first | with_reducible (first | assumption | exact Below.refl _ _ | refine bel_alloc ?_ _ | refine bel_drew ?_ | refine bel_drewN ?_ _ | refine bel_set ?_ (by first | omega | (simp; done) | (simp; omega)) _ | refine bel_trans ?_ (by assumption)) | assumption | refine bel_trans ?_ (by assumption)))⟩
  clear h1 h2
  go_enter Try.func8, Try.ntmps8
  go_wp2_with fail
  refine (c_DrawUnpackCodes _ _ _ _ hc).mono ?_
  rintro e w1 ⟨k, A, cp, s, rfl, hw, hl, hs, ho, b1⟩
  have HZ := hid (KB.new ho)
  have c1 := bel_alloc b1 (.cells #[.int .i64 k.o, .int .i64 k.l, .int .i64 k.m, .slice A k.ps.length cp, .int .i64 k.base, .int .i64 k.last] 32)
  clear ho b1 hc
  obtain ⟨p0, p1, p2, p3, p4, p5⟩ := HZ.out.bx.cells6
  have hsm : s.size ≤ maxLen := by unfold maxLen; omega
  by_cases hk : UnpOk k s ∧ k.ue s ≠ 4
  · skip
    obtain ⟨hk, he⟩ := hk
    have huu := Kn.uu_bd hk.1 s
    have hlen := Kn.uc_len hk.1 s
    have hgood := Kn.uc_good hk.1 s
    have HOk := hid (show CodesOk k (k.uc s) from ⟨hk.1, hlen, hgood⟩)
    have hP4 := hk.1.packed_le hgood hlen
    have hPs := Kn.packed_size k (k.uc s)
    have hbl := (Kn.uc_bits k s).2
    have hb2 := (hk.1.bl_ge hgood).2
    have q1 := Kn.bits_front k (k.uc s)
    have q2 := Kn.bits_read k s
    have hord : k.o = 0 ∨ k.o = 1 := (setOk_iff.1 hk.1.set).1
    have hor : orderOk k.o = true := by rcases hord with h | h <;> simp [orderOk, h]
    obtain ⟨f, f0, fs, fl, fN⟩ := sums_of k (k.uc s) (fun i x hx => by have := (hk.1.good_each hgood).2 i x hx; omega)
    have hz1 := unpackL_size k.o s
    have hz2 := unpackL_size k.o (k.packed (k.uc s))
    have eE : (k.ue s == 4) = false := by rw [beq_eq_false_iff_ne]; exact he
    have H1 := hid (fun (v : World) (h : KB w1.heap.size w1.heap.size k A cp v) => c_UnpackCodes_yes k A cp _ v h.ps h.le hw s hk)
    have H2 := hid (show (∀ (v : World) (h : KB w1.heap.size w1.heap.size k A cp v), Calls Try.prog 51 #[.agg #[.int .i64 k.o, .int .i64 k.l, .int .i64 k.m, .slice A k.ps.length cp, .int .i64 k.base, .int .i64 k.last], .string s] v (fun e w' => ∃ A' cap', e = .returned (.tuple #[.slice A' (k.uc s).length cap', .int .i64 (k.ue s), .int .i64 (k.uu s : Nat)]) ∧ w'.ownsRow v.heap.size 3 1 (.slice A' (k.uc s).length cap') (k.uc s).length ((k.uc s).map iv) ∧ Below v.heap.size v w')) from fun v h => c_sUnpackCodes_yes k A cp _ v h.ps h.le hw s hk)
    have H3 := hid (fun (v : World) (h : KB w1.heap.size w1.heap.size k A cp v) (A5 : Option Addr) (c5 : Nat) (hn : NumsAt v v.heap.size A5 c5 (k.uc s)) => c_PackCodes_yes k A cp _ v h.ps h.le hw A5 c5 v.heap.size (k.uc s) hn (Nat.le_refl _) HOk.out)
    have H4 := hid (fun (v : World) (h : KB w1.heap.size w1.heap.size k A cp v) (A5 : Option Addr) (c5 : Nat) (hn : NumsAt v v.heap.size A5 c5 (k.uc s)) => c_CodesWidths_yes k A cp _ v h.ps h.le hw A5 c5 v.heap.size (k.uc s) hn (Nat.le_refl _) (by omega) HOk.out)
    have H8 := hid (fun (v : World) => c_soBits k.o s v (by unfold maxLen; omega) (stOk_iff.2 ⟨hor, hk.2⟩))
    have H9 := hid (fun (v : World) => c_soBits k.o (k.packed (k.uc s)) v (by unfold maxLen; omega) (stOk_iff.2 ⟨hor, hP4⟩))
    have hs4 : s.size ≤ 4000 := hk.2
    obtain ⟨N, hN⟩ : ∃ N, N = (k.bl (k.uc s)).length := ⟨_, rfl⟩
    obtain ⟨WS, hWS⟩ : ∃ WS, WS = k.widths (k.uc s) := ⟨_, rfl⟩
    obtain ⟨P, hP⟩ : ∃ P, P = k.packed (k.uc s) := ⟨_, rfl⟩
    obtain ⟨Q, hQ⟩ : ∃ Q, Q = str (M.asc (k.bl (k.uc s))) := ⟨_, rfl⟩
    obtain ⟨CS, hCS⟩ : ∃ CS, CS = k.uc s := ⟨_, rfl⟩
    rw [← hQ, ← hN] at q1 q2
    rw [← hWS] at fs fN H4
    rw [← hN] at fl fN hPs hbl hb2
    rw [← hP] at q1 hz2 hPs hP4 H3 H9
    rw [← hCS] at H1 H2 H3 H4 hlen hb2
    obtain ⟨B1, hB1⟩ : ∃ B, B = str (unpackL k.o P) := ⟨_, rfl⟩
    obtain ⟨B2, hB2⟩ : ∃ B, B = str (unpackL k.o s) := ⟨_, rfl⟩
    rw [← hB1] at q1 hz2 H9
    rw [← hB2] at q2 hz1 H8
    obtain ⟨U, hU⟩ : ∃ U, U = k.uu s := ⟨_, rfl⟩
    obtain ⟨E, hE⟩ : ∃ E, E = k.ue s := ⟨_, rfl⟩
    rw [← hU] at H1 H2 huu
    rw [← hE] at H1 H2 eE
    have HI := hid (fun (v : World) (A5 A6 : Option Addr) (c5 c6 : Nat) (h5 : NumsAt v v.heap.size A5 c5 CS) (h6 : NumsAt v v.heap.size A6 c6 CS) => c_soInts A5 A6 c5 c6 CS v.heap.size v.heap.size v h5 h6 (Nat.le_refl _) (Nat.le_refl _) (by omega))
    have hN1 : (N : Int) ≤ 8 * (P.size : Int) := by omega
    have hN2 : (N : Int) ≤ 8 * (s.size : Int) := by omega
    have hN3 : N ≤ B1.size := by omega
    have hN4 : N ≤ B2.size := by omega
    have hN5 : N ≤ 32000 := by omega
    have ew1 : IntKind.i64.wrap (8 * (P.size : Int)) = 8 * (P.size : Int) := IntWalk.i64_in _ (by omega)
    have ew2 : IntKind.i64.wrap (8 * (s.size : Int)) = 8 * (s.size : Int) := IntWalk.i64_in _ (by omega)
    have hUi : (U : Int) ≤ (s.size : Int) := by omega
    have hfb : ∀ j, f j ≤ 32000 := fun j => Nat.le_trans (fl j) hN5
    have HF := hid (show f 0 = 0 ∧ (∀ j, j < WS.length → ∃ x : Int, WS[j]? = some x ∧ (f (j + 1) : Int) = f j + x) ∧ (∀ j, f j ≤ 32000) ∧ f WS.length = N from ⟨f0, fs, hfb, fN⟩)
    have HQ1 := hid q1
    have HQ2 := hid q2
    clear hk he hw hsm hlen hgood HOk hPs hbl hb2 q1 q2 hord hor f0 fs fl fN hz1 hz2 hN hWS hP hQ hCS hB1 hB2 hU hE hfb hs huu
    go_wp2_with fail
    refine (H1.out _ HZ.out).mono ?_
    rintro e w2 ⟨A2, c2x, rfl, ho2, hb2⟩
    replace HZ := hid (HZ.out.on hb2)
    have c2 := bel_trans c1 hb2
    clear p0 p1 p2 p3 p4 p5
    obtain ⟨p0, p1, p2, p3, p4, p5⟩ := HZ.out.bx.cells6
    have HN := hid (own_ints_at ho2)
    clear ho2
    go_wp2_with fail
    refine (H2.out _ HZ.out).mono ?_
    rintro e w3 ⟨A3, c3x, rfl, ho3, hb3⟩
    replace HZ := hid (HZ.out.on hb3)
    have c3 := bel_trans c2 hb3
    clear p0 p1 p2 p3 p4 p5
    obtain ⟨p0, p1, p2, p3, p4, p5⟩ := HZ.out.bx.cells6
    replace HN := hid (ns_on HN.out hb3)
    have HM := hid (own_ints_at ho3)
    clear ho3
    go_wp2_with fail
    refine (HI.out _ A2 A3 c2x c3x HN.out HM.out).mono ?_
    rintro e w4 ⟨rfl, hb4⟩
    replace HZ := hid (HZ.out.on hb4)
    have c4 := bel_trans c3 hb4
    clear p0 p1 p2 p3 p4 p5
    obtain ⟨p0, p1, p2, p3, p4, p5⟩ := HZ.out.bx.cells6
    replace HN := hid (ns_on HN.out hb4)
    replace HM := hid (ns_on HM.out hb4)
    go_wp2_with fail
    refine (H3.out _ HZ.out A2 c2x HN.out).mono ?_
    rintro e w5 ⟨rfl, hb5⟩
    replace HZ := hid (HZ.out.on hb5)
    have c5 := bel_trans c4 hb5
    clear p0 p1 p2 p3 p4 p5
    obtain ⟨p0, p1, p2, p3, p4, p5⟩ := HZ.out.bx.cells6
    replace HN := hid (ns_on HN.out hb5)
    go_wp2_with fail
    refine (H4.out _ HZ.out A2 c2x HN.out).mono ?_
    rintro e w6 ⟨A6, c6x, rfl, ho6, hb6⟩
    replace HZ := hid (HZ.out.on hb6)
    have c6 := bel_trans c5 hb6
    clear p0 p1 p2 p3 p4 p5
    obtain ⟨p0, p1, p2, p3, p4, p5⟩ := HZ.out.bx.cells6
    have HW := hid (own_ints_at ho6)
    clear ho6 HN HM
    have hWl := HW.out.1
    have hWc := HW.out.2.1
    unfold maxLen at hWc
    go_wp2_with fail
    go_loop [15, 16] (fun n i => ∃ j : Nat, j ≤ WS.length ∧ i = .int .i64 j ∧ n = .int .i64 (f j : Nat)) (fun _ i => WS.length - (intOf i).toNat)
    case atStart => exact ⟨0, Nat.zero_le _, rfl, vint (by have := HF.out.1; omega)⟩
    case round =>
      obtain ⟨j, hj, rfl, rfl⟩ := hrel
      by_cases hlt : j < WS.length
      · obtain ⟨b, off, rfl, hb, hcc⟩ := HW.out.2.2.2 (by omega)
        obtain ⟨x, hx, hfx⟩ := HF.out.2.1 j hlt
        have hc0 := hcc j x hx
        have g1 := HF.out.2.2.1 j
        have g2 := HF.out.2.2.1 (j + 1)
        clear hcc
        have HX := hid hfx
        have hxb : -32000 ≤ x ∧ x ≤ 32000 := by omega
        clear hx hfx
        go_wp2
        go_round
        case rel => exact ⟨j + 1, by omega, by go_num, vint (by have := HX.out; omega)⟩
        case measure => simp [intOf]; omega
      · have ejl : j = WS.length := Nat.le_antisymm hj (Nat.le_of_not_lt hlt)
        have ej : f j = N := by rw [ejl]; exact HF.out.2.2.2
        clear ejl
        rw [ej]
        clear HF
        have q1 := HQ1.out
        have q2 := HQ2.out
        have hS := HZ.out.bx.cells6t
        go_wp2_with fail
        replace HZ := hid (HZ.out.on (bel_drew (Below.refl w6.heap.size w6)))
        have c7 := bel_drew c6
        refine wp_region_noPanic ?_
        refine wp_region_held_drew (S := (fun v => v.cell? ⟨w1.heap.size, 0, none⟩ = some (.int .i64 k.o) ∧ v.cell? ⟨w1.heap.size, 1, none⟩ = some (.int .i64 k.l) ∧ v.cell? ⟨w1.heap.size, 2, none⟩ = some (.int .i64 k.m) ∧ v.cell? ⟨w1.heap.size, 3, none⟩ = some (.slice A k.ps.length cp) ∧ v.cell? ⟨w1.heap.size, 4, none⟩ = some (.int .i64 k.base) ∧ v.cell? ⟨w1.heap.size, 5, none⟩ = some (.int .i64 k.last) ∧ True)) (by kernel_rfl) (t6_drew hS) (fun hHeld => ?_)
        refine tk 0 ?_
        refine tk 1 ?_
        refine tk 2 ?_
        refine tk 3 ?_
        refine tk 4 ?_
        refine tk 5 ?_
        refine tk 6 ?_
        refine tk 7 ?_
        refine tk 8 ?_
        refine tk 9 ?_
        refine tk 10 ?_
        refine tk 11 ?_
        refine tk 12 ?_
        refine tk 13 ?_
        refine tk 14 ?_
        refine tk 15 ?_
        refine tk 16 ?_
        refine tk 17 ?_
        refine tk 18 ?_
        refine tk 19 ?_
        refine tk 20 ?_
        refine tk 21 ?_
        refine tk 22 ?_
        refine tk 24 ?_
        refine tk 26 ?_
        refine tk 27 ?_
        refine tk 28 ?_
        refine tk 29 ?_
        refine tk 31 ?_
        refine wpAnyH_ready (rs := [23]) (by kernel_rfl) (by simp) ?_
        refine AllReadyH.cons (o := ?or1_23) ?ir1_23 (fun K hK => ?sr1_23) AllReadyH.nil
        case ir1_23 => (simp only [List.getElem?_toArray, List.getElem?_cons_succ, List.getElem?_cons_zero]; rfl)
        (go_simp; (go_at_call 52; refine (H9.out _).mono ?_; rintro e w8 ⟨rfl, hb8⟩; replace HZ := hid (HZ.out.on hb8); replace c7 := bel_trans c7 hb8))
        refine hK.out _ _ ?kr1_23 (fun hHeld => ?_)
        case kr1_23 => (try dsimp only); (first | with_reducible assumption | with_reducible exact HZ.out.bx.cells6t | exact t6_bel (by assumption) (by assumption) | assumption | exact t6_alloc (by assumption) _ | exact HZ.out.bx.cells6t)
        clear hK K
        try simp only [Act.put, List.setIfInBounds_toArray, List.set_cons_zero, List.set_cons_succ]
        refine tk 25 ?_
        refine wpAnyH_ready (rs := [30]) (by kernel_rfl) (by simp) ?_
        refine AllReadyH.cons (o := ?or1_30) ?ir1_30 (fun K hK => ?sr1_30) AllReadyH.nil
        case ir1_30 => (simp only [List.getElem?_toArray, List.getElem?_cons_succ, List.getElem?_cons_zero]; rfl)
        (go_simp; (go_at_call 52; refine (H8.out _).mono ?_; rintro e w9 ⟨rfl, hb9⟩; replace HZ := hid (HZ.out.on hb9); replace c7 := bel_trans c7 hb9))
        refine hK.out _ _ ?kr1_30 (fun hHeld => ?_)
        case kr1_30 => (try dsimp only); (first | with_reducible assumption | with_reducible exact HZ.out.bx.cells6t | exact t6_bel (by assumption) (by assumption) | assumption | exact t6_alloc (by assumption) _ | exact HZ.out.bx.cells6t)
        clear hK K
        try simp only [Act.put, List.setIfInBounds_toArray, List.set_cons_zero, List.set_cons_succ]
        refine tk 32 ?_
        refine tk 33 ?_
        refine tk 34 ?_
        refine tk 35 ?_
        refine tk 36 ?_
        refine tk 37 ?_
        refine tk 38 ?_
        refine tk 39 ?_
        refine tk 40 ?_
        refine tk 41 ?_
        refine wpAnyH_done (by kernel_rfl) ?_ _
        refine NoPanic.normal ?_
        go_wp2
        go_ret
        exact ⟨rfl, c7⟩
  · skip
    obtain ⟨R, u, hl0, H1, H2⟩ : ∃ (R : List Int) (u : Int), R.length ≤ 1048576 ∧ (∀ (v : World) (h : KB w1.heap.size w1.heap.size k A cp v), Calls Try.prog 48 #[.agg #[.int .i64 k.o, .int .i64 k.l, .int .i64 k.m, .slice A k.ps.length cp, .int .i64 k.base, .int .i64 k.last], .string s] v (fun e w' => ∃ A' cap', e = .returned (.tuple #[.slice A' R.length cap', .int .i64 4, .int .i64 u]) ∧ w'.ownsRow v.heap.size 3 1 (.slice A' R.length cap') R.length (R.map iv) ∧ Below v.heap.size v w')) ∧ (∀ (v : World) (h : KB w1.heap.size w1.heap.size k A cp v), Calls Try.prog 51 #[.agg #[.int .i64 k.o, .int .i64 k.l, .int .i64 k.m, .slice A k.ps.length cp, .int .i64 k.base, .int .i64 k.last], .string s] v (fun e w' => ∃ A' cap', e = .returned (.tuple #[.slice A' R.length cap', .int .i64 4, .int .i64 u]) ∧ w'.ownsRow v.heap.size 3 1 (.slice A' R.length cap') R.length (R.map iv) ∧ Below v.heap.size v w')) := by
      by_cases hu : UnpOk k s
      · have he : k.ue s = 4 := by by_cases h : k.ue s = 4; exact h; exact absurd ⟨hu, h⟩ hk
        rw [← he]
        exact ⟨k.uc s, (k.uu s : Nat), by have := Kn.uc_len hu.1 s; omega, fun v h => c_UnpackCodes_yes k A cp _ v h.ps h.le hw s hu, fun v h => c_sUnpackCodes_yes k A cp _ v h.ps h.le hw s hu⟩
      · exact ⟨[], 0, by simp, fun v h => (c_UnpackCodes_no k A cp _ v h.ps h.le hw s hsm hu).mono fun e w' ⟨q1, q2⟩ => ⟨none, 0, q1, own_ints_nil _ _ _, q2⟩, fun v h => c_sUnpackCodes_no k A cp _ v h.ps h.le hw s hsm hu⟩
    have HI := hid (fun (v : World) (A5 A6 : Option Addr) (c5 c6 : Nat) (h5 : NumsAt v v.heap.size A5 c5 R) (h6 : NumsAt v v.heap.size A6 c6 R) => c_soInts A5 A6 c5 c6 R v.heap.size v.heap.size v h5 h6 (Nat.le_refl _) (Nat.le_refl _) hl0)
    replace H1 := hid H1
    replace H2 := hid H2
    clear hk hw hsm hl0
    go_wp2_with fail
    refine (H1.out _ HZ.out).mono ?_
    rintro e w2 ⟨A2, c2x, rfl, ho2, hb2⟩
    replace HZ := hid (HZ.out.on hb2)
    have c2 := bel_trans c1 hb2
    clear p0 p1 p2 p3 p4 p5
    obtain ⟨p0, p1, p2, p3, p4, p5⟩ := HZ.out.bx.cells6
    have HN := hid (own_ints_at ho2)
    clear ho2
    go_wp2_with fail
    refine (H2.out _ HZ.out).mono ?_
    rintro e w3 ⟨A3, c3x, rfl, ho3, hb3⟩
    replace HZ := hid (HZ.out.on hb3)
    have c3 := bel_trans c2 hb3
    clear p0 p1 p2 p3 p4 p5
    obtain ⟨p0, p1, p2, p3, p4, p5⟩ := HZ.out.bx.cells6
    replace HN := hid (ns_on HN.out hb3)
    have HM := hid (own_ints_at ho3)
    clear ho3
    go_wp2_with fail
    refine (HI.out _ A2 A3 c2x c3x HN.out HM.out).mono ?_
    rintro e w4 ⟨rfl, hb4⟩
    replace HZ := hid (HZ.out.on hb4)
    have c4 := bel_trans c3 hb4
    clear p0 p1 p2 p3 p4 p5
    obtain ⟨p0, p1, p2, p3, p4, p5⟩ := HZ.out.bx.cells6
    replace HN := hid (ns_on HN.out hb4)
    replace HM := hid (ns_on HM.out hb4)
    go_wp2_with fail
    refine (HI.out _ A2 A3 c2x c3x HN.out HM.out).mono ?_
    rintro e w5 ⟨rfl, hb5⟩
    replace HZ := hid (HZ.out.on hb5)
    have c5 := bel_trans c4 hb5
    clear p0 p1 p2 p3 p4 p5
    obtain ⟨p0, p1, p2, p3, p4, p5⟩ := HZ.out.bx.cells6
    go_wp2
    go_ret
    exact ⟨rfl, c5⟩
end Go.Proofs.Ytophlgnmfhoeiaa
