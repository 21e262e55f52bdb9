/- ParseBlock in the model, where a header stands. No condition but a size. -/
import Derived.Test.YtepbjmpbcobfpaaDoorYq
namespace Go.Proofs.YtepbjmpbcobfpaaDoor
open Go.ChangeShapes Go.WideShapes Go.ChangeAt Go.RowKit Go.Joins
set_option linter.unusedVariables false
set_option linter.unusedSimpArgs false

theorem Fresh.learn {K : Act → World → Prop} {a : Act} {X : World} {cs : Array Value} {t : TypeId} (h : Blk (X.alloc (.cells cs t)) X.heap.size t cs → K a (X.alloc (.cells cs t))) : K a (X.alloc (.cells cs t)) := h (Blk.new X t cs)
theorem Fresh.learnd {K : Act → World → Prop} {a : Act} {X : World} {cs : Array Value} {t : TypeId} (h : Blk (X.alloc (.cells cs t)).drew X.heap.size t cs → K a (X.alloc (.cells cs t)).drew) : K a (X.alloc (.cells cs t)).drew := h (Blk.new X t cs).drew
theorem Fresh.nameA {K : Act → World → Prop} {a : Act} {X : World} {cs : Array Value} {t : TypeId} (h : ∀ V, Blk V X.heap.size t cs → V = X.alloc (.cells cs t) → K a V) : K a (X.alloc (.cells cs t)) := h _ (Blk.new X t cs) rfl
theorem Fresh.nameS {K : Act → World → Prop} {ac : Act} {X : World} {g : Nat} {t : TypeId} {a b c d x y z u : Value} (hN : Blk X g t #[a, b, c, d]) (h : ∀ V, Blk V g t #[x, y, z, u] → V = (((X.setCell ⟨g, 0, none⟩ x).setCell ⟨g, 1, none⟩ y).setCell ⟨g, 2, none⟩ z).setCell ⟨g, 3, none⟩ u → K ac V) : K ac ((((X.setCell ⟨g, 0, none⟩ x).setCell ⟨g, 1, none⟩ y).setCell ⟨g, 2, none⟩ z).setCell ⟨g, 3, none⟩ u) := h _ (hN.put4y x y z u) rfl
theorem s4_of {V : World} {g : Nat} {t : TypeId} {a b c d : Value} (h : Blk V g t #[a, b, c, d]) : V.cell? ⟨g, 0, none⟩ = some a ∧ V.cell? ⟨g, 1, none⟩ = some b ∧ V.cell? ⟨g, 2, none⟩ = some c ∧ V.cell? ⟨g, 3, none⟩ = some d ∧ Below V.heap.size V V := ⟨h.cell 0, h.cell 1, h.cell 2, h.cell 3, Below.refl _ V⟩
theorem s1_eqA {w1 X V : World} {a0 : Addr} {x0 : Value} {o : Obj} (hV : V = X.alloc o) (h : X.cell? a0 = some x0 ∧ Below w1.heap.size w1 X) : V.cell? a0 = some x0 ∧ Below w1.heap.size w1 V := by
  subst hV; exact s1_alloc h o
theorem s1_eqS {w1 X V : World} {rb g : Nat} {x0 x y z u : Value} (hV : V = (((X.setCell ⟨g, 0, none⟩ x).setCell ⟨g, 1, none⟩ y).setCell ⟨g, 2, none⟩ z).setCell ⟨g, 3, none⟩ u) (hr : rb < w1.heap.size) (hg : w1.heap.size ≤ g) (h : X.cell? ⟨rb, 0, none⟩ = some x0 ∧ Below w1.heap.size w1 X) : V.cell? ⟨rb, 0, none⟩ = some x0 ∧ Below w1.heap.size w1 V := by
  subst hV
  have hn : rb ≠ g := by omega
  refine ⟨?_, bel_set (bel_set (bel_set (bel_set h.2 hg _) hg _) hg _) hg _⟩
  exact (World.cell?_of_block (a := ⟨rb, 0, none⟩) (Below.heap_setCell _ ⟨g, 3, none⟩ u rb hn)).trans ((World.cell?_of_block (a := ⟨rb, 0, none⟩) (Below.heap_setCell _ ⟨g, 2, none⟩ z rb hn)).trans ((World.cell?_of_block (a := ⟨rb, 0, none⟩) (Below.heap_setCell _ ⟨g, 1, none⟩ y rb hn)).trans ((World.cell?_of_block (a := ⟨rb, 0, none⟩) (Below.heap_setCell _ ⟨g, 0, none⟩ x rb hn)).trans h.1)))

set_option maxHeartbeats 8000000 in
set_option maxRecDepth 100000 in
theorem c_ParseBlock_n5 (S : ByteArray) (A : Nat) (T : List UInt8) (w : World) (hS : S.size ≤ 1000000000000) (hA : A ≤ S.size) (hT : T = S.data.toList.drop A) (h : 10 ≤ T.length) (h0 : bat T 0 = 181) (h1 : bat T 1 ≤ 1) (h6 : 10 + pat2 T 6 ≤ T.length) (hk : ¬ (brd T).ok) : Calls Tryd.prog 19 #[.string S, .int .i64 (A : Int)] w fun e w' => e = .returned noPb ∧ Below w.heap.size w w' := by
  have hTl : T.length = S.size - A := by rw [hT, List.length_drop]; simp
  have d1 : decide ((A : Int) < 0) = false := decide_eq_false (by omega)
  have d2 : decide ((S.size : Int) < (A : Int)) = false := decide_eq_false (by omega)
  have d3 : decide ((S.size : Int) - (A : Int) < 10) = false := decide_eq_false (by omega)
  have i0 : ∀ W, (Instr.index 9 (.string S) (.int .i64 (A : Int))).run Tryd.prog W = .ok (.int .u8 ((bat T 0 : Nat) : Int)) W := fun W => ix Tryd.underlying9 S A T hT 0 _ (by omega) (by omega) W
  have i1 : ∀ W, (Instr.index 9 (.string S) (.int .i64 ((A : Int) + 1))).run Tryd.prog W = .ok (.int .u8 ((bat T 1 : Nat) : Int)) W := fun W => ix Tryd.underlying9 S A T hT 1 _ (by omega) (by omega) W
  rw [h0] at i0
  have d5 : decide ((1 : Int) < ((bat T 1 : Nat) : Int)) = false := decide_eq_false (by omega)
  obtain ⟨X6, hX6⟩ : ∃ X, X = str (sub T 6 2) := ⟨_, rfl⟩
  have hs6 : ∀ W, (Instr.slice 9 (.string S) (some (.int .i64 ((A : Int) + 6))) (some (.int .i64 ((A : Int) + 8))) none).run Tryd.prog W = .ok (.string X6) W := fun W => by rw [hX6]; exact slc Tryd.underlying9 S A T hT 6 2 _ _ (by omega) (by omega) (by omega) W
  have HP6 := hid (show ∀ v, Calls Tryd.prog 28 #[.string X6] v fun e w' => e = .returned (.int .i64 ((pat2 T 6 : Nat) : Int)) ∧ Below v.heap.size v w' from fun v => by
    have := c_l5PairB (sub T 6 2) v (sub_two T 6 (by omega)).1
    rw [(sub_two T 6 (by omega)).2, ← hX6] at this; exact this)
  have hp6 : pat2 T 6 ≤ 65535 := by have := bat_lt T 6; have := bat_lt T (6 + 1); unfold pat2; omega
  have d6 : decide ((S.size : Int) - (A : Int) - 10 < ((pat2 T 6 : Nat) : Int)) = false := decide_eq_false (by omega)
  obtain ⟨b, hb0⟩ : ∃ b : Bl, b = brd T := ⟨_, rfl⟩
  have hbs : b.body.size = pat2 T 6 := by rw [hb0]; exact brd_size T h6
  have hbn : ((pat2 T 2 : Nat) : Int) = b.n := by rw [hb0]; rfl
  have hbz : ((pat2 T 4 : Nat) : Int) = b.z := by rw [hb0]; rfl
  have hbr : ((((bat T 1 : Nat) : Int)) == 0) = b.raw := by
    rw [hb0]
    show _ = (bat T 1 == 0)
    rw [Bool.eq_iff_iff]
    simp
  have hbb : str (sub T 8 (pat2 T 6)) = b.body := by rw [hb0]; rfl
  have hbn2 : -9223372036854775808 ≤ b.n ∧ b.n ≤ 9223372036854775807 := by rw [← hbn]; have := bat_lt T 2; have := bat_lt T (2 + 1); unfold pat2; omega
  have hbz2 : -9223372036854775808 ≤ b.z ∧ b.z ≤ 9223372036854775807 := by rw [← hbz]; have := bat_lt T 4; have := bat_lt T (4 + 1); unfold pat2; omega
  have HV := hid (fun (v : World) => c_l5Form b v hbn2 hbz2 (by unfold maxLen; omega))
  obtain ⟨X2, hX2⟩ : ∃ X, X = str (sub T 2 2) := ⟨_, rfl⟩
  have hs2 : ∀ W, (Instr.slice 9 (.string S) (some (.int .i64 ((A : Int) + 2))) (some (.int .i64 ((A : Int) + 4))) none).run Tryd.prog W = .ok (.string X2) W := fun W => by rw [hX2]; exact slc Tryd.underlying9 S A T hT 2 2 _ _ (by omega) (by omega) (by omega) W
  have HP2 := hid (show ∀ v, Calls Tryd.prog 28 #[.string X2] v fun e w' => e = .returned (.int .i64 b.n) ∧ Below v.heap.size v w' from fun v => by
    have := c_l5PairB (sub T 2 2) v (sub_two T 2 (by omega)).1
    rw [(sub_two T 2 (by omega)).2, ← hX2, hbn] at this; exact this)
  obtain ⟨X4, hX4⟩ : ∃ X, X = str (sub T 4 2) := ⟨_, rfl⟩
  have hs4 : ∀ W, (Instr.slice 9 (.string S) (some (.int .i64 ((A : Int) + 4))) (some (.int .i64 ((A : Int) + 6))) none).run Tryd.prog W = .ok (.string X4) W := fun W => by rw [hX4]; exact slc Tryd.underlying9 S A T hT 4 2 _ _ (by omega) (by omega) (by omega) W
  have HP4 := hid (show ∀ v, Calls Tryd.prog 28 #[.string X4] v fun e w' => e = .returned (.int .i64 b.z) ∧ Below v.heap.size v w' from fun v => by
    have := c_l5PairB (sub T 4 2) v (sub_two T 4 (by omega)).1
    rw [(sub_two T 4 (by omega)).2, ← hX4, hbz] at this; exact this)
  have hs8 : ∀ W, (Instr.slice 9 (.string S) (some (.int .i64 ((A : Int) + 8))) (some (.int .i64 ((A : Int) + 8 + ((pat2 T 6 : Nat) : Int)))) none).run Tryd.prog W = .ok (.string b.body) W := fun W => by rw [← hbb]; exact slc Tryd.underlying9 S A T hT 8 (pat2 T 6) _ _ (by omega) (by omega) (by omega) W
  have wr1 : IntKind.i64.wrap ((A : Int) + 1) = (A : Int) + 1 := IntWalk.i64_in _ (by omega)
  have wr2 : IntKind.i64.wrap ((A : Int) + 2) = (A : Int) + 2 := IntWalk.i64_in _ (by omega)
  have wr4 : IntKind.i64.wrap ((A : Int) + 4) = (A : Int) + 4 := IntWalk.i64_in _ (by omega)
  have wr6 : IntKind.i64.wrap ((A : Int) + 6) = (A : Int) + 6 := IntWalk.i64_in _ (by omega)
  have wr8 : IntKind.i64.wrap ((A : Int) + 8) = (A : Int) + 8 := IntWalk.i64_in _ (by omega)
  have wr9 : IntKind.i64.wrap ((A : Int) + 8 + ((pat2 T 6 : Nat) : Int)) = (A : Int) + 8 + ((pat2 T 6 : Nat) : Int) := IntWalk.i64_in _ (by omega)
  rw [← hb0] at hk
  rw [decide_eq_false hk] at HV
  have HR := hid (Blk.new w 35 #[.int .i64 0, .bool false, .int .i64 0, .string ByteArray.empty])
  have HB := hid (bel_alloc (Below.refl _ w) (.cells #[.int .i64 0, .bool false, .int .i64 0, .string ByteArray.empty] 35))
  obtain ⟨rb, hrb⟩ : ∃ rb, rb = w.heap.size := ⟨_, rfl⟩
  have HLo := hid (show w.heap.size ≤ rb by omega)
  rw [← hrb] at HR
  obtain ⟨r0, r1, r2, r3⟩ := HR.out.cells4y
  have rf0 := HR.out.frozen 0
  have rf1 := HR.out.frozen 1
  have rf2 := HR.out.frozen 2
  have rf3 := HR.out.frozen 3
  clear hT hTl hX6 hX2 hX4 hbb hbn hbz hbn2 hbz2 hb0
  go_enter Tryd.func19, Tryd.ntmps19
  go_wp2_with fail
  refine (HP6.out _).mono ?_
  rintro e w1 ⟨rfl, hb1⟩
  replace HR := hid (HR.out.on hb1)
  replace HB := hid (bel_trans HB.out hb1)
  clear hb1 r0 r1 r2 r3 rf0 rf1 rf2 rf3
  obtain ⟨r0, r1, r2, r3⟩ := HR.out.cells4y
  have rf0 := HR.out.frozen 0
  have rf1 := HR.out.frozen 1
  have rf2 := HR.out.frozen 2
  have rf3 := HR.out.frozen 3
  rw [← hrb]
  clear hrb
  go_wp2_with fail
  have hltr : rb < w1.heap.size := HR.out.lt
  have hS1 : w1.cell? ⟨rb, 0, none⟩ = some (.int .i64 0) ∧ Below w1.heap.size w1 w1 := ⟨HR.out.cell 0, Below.refl _ _⟩
  refine wp_region_noPanic ?_
  refine wp_region_held_drew (S := (fun v => v.cell? ⟨rb, 0, none⟩ = some (.int .i64 0) ∧ Below w1.heap.size w1 v)) (by kernel_rfl) (s1_drew hS1) (fun hHeld => ?_)
  refine tk 0 ?_
  refine tk 1 ?_
  refine tk 2 ?_
  refine tk 3 ?_
  refine tk 4 ?_
  refine tk 5 ?_
  refine tk 7 ?_
  refine tk 8 ?_
  refine tk 9 ?_
  refine tk 10 ?_
  refine tk 11 ?_
  refine tk 12 ?_
  refine tk 13 ?_
  refine tk 14 ?_
  refine tk 15 ?_
  refine tk 16 ?_
  refine tk 17 ?_
  refine tk 19 ?_
  refine tk 20 ?_
  refine tk 21 ?_
  refine tk 22 ?_
  refine tk 23 ?_
  refine tk 24 ?_
  refine tk 25 ?_
  refine tk 26 ?_
  refine wpAnyH_ready (rs := [6, 28]) (by kernel_rfl) (by simp) ?_
  refine AllReadyH.cons (o := ?or1_6) ?ir1_6 (fun K hK => ?sr1_6) (AllReadyH.cons (o := ?or1_28) ?ir1_28 (fun K hK => ?sr1_28) AllReadyH.nil)
  case ir1_6 => (simp only [List.getElem?_toArray, List.getElem?_cons_succ, List.getElem?_cons_zero]; rfl)
  case ir1_28 => (simp only [List.getElem?_toArray, List.getElem?_cons_succ, List.getElem?_cons_zero]; rfl)
  case' sr1_6 =>
    (go_simp; (go_at_call 28; refine (HP2.out _).mono ?_; rintro e wK ⟨rfl, hbK⟩; (try have hN := hN.on hbK)))
    refine hK.out _ _ ?kr1_6 (fun hHeld => ?_)
    case kr1_6 => (try dsimp only); (first | with_reducible assumption | with_reducible exact s1_eqA hV (by assumption) | with_reducible exact s1_eqS hV hltr hgl (by assumption) | exact s1_bel (by assumption) (by assumption) | assumption | exact s1_alloc (by assumption) _ | exact s1_eqA hV (by assumption) | exact s1_eqS hV hltr hgl (by assumption))
    clear hK K
    try simp only [Act.put, List.setIfInBounds_toArray, List.set_cons_zero, List.set_cons_succ]
    refine wpAnyH_ready (rs := [18, 28]) (by kernel_rfl) (by simp) ?_
    refine AllReadyH.cons (o := ?or1b1_18) ?ir1b1_18 (fun K hK => ?sr1b1_18) (AllReadyH.cons (o := ?or1b1_28) ?ir1b1_28 (fun K hK => ?sr1b1_28) AllReadyH.nil)
    case ir1b1_18 => (simp only [List.getElem?_toArray, List.getElem?_cons_succ, List.getElem?_cons_zero]; rfl)
    case ir1b1_28 => (simp only [List.getElem?_toArray, List.getElem?_cons_succ, List.getElem?_cons_zero]; rfl)
    case' sr1b1_18 =>
      (go_simp; (go_at_call 28; refine (HP4.out _).mono ?_; rintro e wK ⟨rfl, hbK⟩; (try have hN := hN.on hbK)))
      refine hK.out _ _ ?kr1b1_18 (fun hHeld => ?_)
      case kr1b1_18 => (try dsimp only); (first | with_reducible assumption | with_reducible exact s1_eqA hV (by assumption) | with_reducible exact s1_eqS hV hltr hgl (by assumption) | exact s1_bel (by assumption) (by assumption) | assumption | exact s1_alloc (by assumption) _ | exact s1_eqA hV (by assumption) | exact s1_eqS hV hltr hgl (by assumption))
      clear hK K
      try simp only [Act.put, List.setIfInBounds_toArray, List.set_cons_zero, List.set_cons_succ]
      refine tk 27 ?_
      refine wpAnyH_ready (rs := [28]) (by kernel_rfl) (by simp) ?_
      refine AllReadyH.cons (o := ?or1b1b2_28) ?ir1b1b2_28 (fun K hK => ?sr1b1b2_28) AllReadyH.nil
      case ir1b1b2_28 => (simp only [List.getElem?_toArray, List.getElem?_cons_succ, List.getElem?_cons_zero]; rfl)
      ((have hgl := hHeld.2.size; go_simp; first | refine Fresh.learn (fun hN => ?_) | refine Fresh.learnd (fun hN => ?_)))
      refine hK.out _ _ ?kr1b1b2_28 (fun hHeld => ?_)
      case kr1b1b2_28 => (try dsimp only); (first | with_reducible assumption | with_reducible exact s1_eqA hV (by assumption) | with_reducible exact s1_eqS hV hltr hgl (by assumption) | exact s1_bel (by assumption) (by assumption) | assumption | exact s1_alloc (by assumption) _ | exact s1_eqA hV (by assumption) | exact s1_eqS hV hltr hgl (by assumption))
      clear hK K
      try simp only [Act.put, List.setIfInBounds_toArray, List.set_cons_zero, List.set_cons_succ]
      refine wpAnyH_ready (rs := [29]) (by kernel_rfl) (by simp) ?_
      refine AllReadyH.cons (o := ?or1b1b2_29) ?ir1b1b2_29 (fun K hK => ?sr1b1b2_29) AllReadyH.nil
      case ir1b1b2_29 => (simp only [List.getElem?_toArray, List.getElem?_cons_succ, List.getElem?_cons_zero]; rfl)
      ((have n0 := hN.cell 0; have n1 := hN.cell 1; have n2 := hN.cell 2; have n3 := hN.cell 3; have nf0 := hN.frozen 0; have nf1 := hN.frozen 1; have nf2 := hN.frozen 2; have nf3 := hN.frozen 3; go_simp; first | refine Fresh.nameA (fun V hBV hV => ?_) | refine Fresh.nameS hN (fun V hBV hV => ?_)))
      refine hK.out _ _ ?kr1b1b2_29 (fun hHeld => ?_)
      case kr1b1b2_29 => (try dsimp only); (first | with_reducible assumption | with_reducible exact s1_eqA hV (by assumption) | with_reducible exact s1_eqS hV hltr hgl (by assumption) | exact s1_bel (by assumption) (by assumption) | assumption | exact s1_alloc (by assumption) _ | exact s1_eqA hV (by assumption) | exact s1_eqS hV hltr hgl (by assumption))
      clear hK K
      try simp only [Act.put, List.setIfInBounds_toArray, List.set_cons_zero, List.set_cons_succ]
      refine wpAnyH_done (by kernel_rfl) ?_ _
      refine NoPanic.normal ?_
    case' sr1b1_28 =>
      ((have hgl := hHeld.2.size; go_simp; first | refine Fresh.learn (fun hN => ?_) | refine Fresh.learnd (fun hN => ?_)))
      refine hK.out _ _ ?kr1b1_28 (fun hHeld => ?_)
      case kr1b1_28 => (try dsimp only); (first | with_reducible assumption | with_reducible exact s1_eqA hV (by assumption) | with_reducible exact s1_eqS hV hltr hgl (by assumption) | exact s1_bel (by assumption) (by assumption) | assumption | exact s1_alloc (by assumption) _ | exact s1_eqA hV (by assumption) | exact s1_eqS hV hltr hgl (by assumption))
      clear hK K
      try simp only [Act.put, List.setIfInBounds_toArray, List.set_cons_zero, List.set_cons_succ]
      refine wpAnyH_ready (rs := [18]) (by kernel_rfl) (by simp) ?_
      refine AllReadyH.cons (o := ?or1b1b3_18) ?ir1b1b3_18 (fun K hK => ?sr1b1b3_18) AllReadyH.nil
      case ir1b1b3_18 => (simp only [List.getElem?_toArray, List.getElem?_cons_succ, List.getElem?_cons_zero]; rfl)
      (go_simp; (go_at_call 28; refine (HP4.out _).mono ?_; rintro e wK ⟨rfl, hbK⟩; (try have hN := hN.on hbK)))
      refine hK.out _ _ ?kr1b1b3_18 (fun hHeld => ?_)
      case kr1b1b3_18 => (try dsimp only); (first | with_reducible assumption | with_reducible exact s1_eqA hV (by assumption) | with_reducible exact s1_eqS hV hltr hgl (by assumption) | exact s1_bel (by assumption) (by assumption) | assumption | exact s1_alloc (by assumption) _ | exact s1_eqA hV (by assumption) | exact s1_eqS hV hltr hgl (by assumption))
      clear hK K
      try simp only [Act.put, List.setIfInBounds_toArray, List.set_cons_zero, List.set_cons_succ]
      refine tk 27 ?_
      refine wpAnyH_ready (rs := [29]) (by kernel_rfl) (by simp) ?_
      refine AllReadyH.cons (o := ?or1b1b3_29) ?ir1b1b3_29 (fun K hK => ?sr1b1b3_29) AllReadyH.nil
      case ir1b1b3_29 => (simp only [List.getElem?_toArray, List.getElem?_cons_succ, List.getElem?_cons_zero]; rfl)
      ((have n0 := hN.cell 0; have n1 := hN.cell 1; have n2 := hN.cell 2; have n3 := hN.cell 3; have nf0 := hN.frozen 0; have nf1 := hN.frozen 1; have nf2 := hN.frozen 2; have nf3 := hN.frozen 3; go_simp; first | refine Fresh.nameA (fun V hBV hV => ?_) | refine Fresh.nameS hN (fun V hBV hV => ?_)))
      refine hK.out _ _ ?kr1b1b3_29 (fun hHeld => ?_)
      case kr1b1b3_29 => (try dsimp only); (first | with_reducible assumption | with_reducible exact s1_eqA hV (by assumption) | with_reducible exact s1_eqS hV hltr hgl (by assumption) | exact s1_bel (by assumption) (by assumption) | assumption | exact s1_alloc (by assumption) _ | exact s1_eqA hV (by assumption) | exact s1_eqS hV hltr hgl (by assumption))
      clear hK K
      try simp only [Act.put, List.setIfInBounds_toArray, List.set_cons_zero, List.set_cons_succ]
      refine wpAnyH_done (by kernel_rfl) ?_ _
      refine NoPanic.normal ?_
  case' sr1_28 =>
    ((have hgl := hHeld.2.size; go_simp; first | refine Fresh.learn (fun hN => ?_) | refine Fresh.learnd (fun hN => ?_)))
    refine hK.out _ _ ?kr1_28 (fun hHeld => ?_)
    case kr1_28 => (try dsimp only); (first | with_reducible assumption | with_reducible exact s1_eqA hV (by assumption) | with_reducible exact s1_eqS hV hltr hgl (by assumption) | exact s1_bel (by assumption) (by assumption) | assumption | exact s1_alloc (by assumption) _ | exact s1_eqA hV (by assumption) | exact s1_eqS hV hltr hgl (by assumption))
    clear hK K
    try simp only [Act.put, List.setIfInBounds_toArray, List.set_cons_zero, List.set_cons_succ]
    refine wpAnyH_ready (rs := [6]) (by kernel_rfl) (by simp) ?_
    refine AllReadyH.cons (o := ?or1b4_6) ?ir1b4_6 (fun K hK => ?sr1b4_6) AllReadyH.nil
    case ir1b4_6 => (simp only [List.getElem?_toArray, List.getElem?_cons_succ, List.getElem?_cons_zero]; rfl)
    (go_simp; (go_at_call 28; refine (HP2.out _).mono ?_; rintro e wK ⟨rfl, hbK⟩; (try have hN := hN.on hbK)))
    refine hK.out _ _ ?kr1b4_6 (fun hHeld => ?_)
    case kr1b4_6 => (try dsimp only); (first | with_reducible assumption | with_reducible exact s1_eqA hV (by assumption) | with_reducible exact s1_eqS hV hltr hgl (by assumption) | exact s1_bel (by assumption) (by assumption) | assumption | exact s1_alloc (by assumption) _ | exact s1_eqA hV (by assumption) | exact s1_eqS hV hltr hgl (by assumption))
    clear hK K
    try simp only [Act.put, List.setIfInBounds_toArray, List.set_cons_zero, List.set_cons_succ]
    refine wpAnyH_ready (rs := [18]) (by kernel_rfl) (by simp) ?_
    refine AllReadyH.cons (o := ?or1b4_18) ?ir1b4_18 (fun K hK => ?sr1b4_18) AllReadyH.nil
    case ir1b4_18 => (simp only [List.getElem?_toArray, List.getElem?_cons_succ, List.getElem?_cons_zero]; rfl)
    (go_simp; (go_at_call 28; refine (HP4.out _).mono ?_; rintro e wK ⟨rfl, hbK⟩; (try have hN := hN.on hbK)))
    refine hK.out _ _ ?kr1b4_18 (fun hHeld => ?_)
    case kr1b4_18 => (try dsimp only); (first | with_reducible assumption | with_reducible exact s1_eqA hV (by assumption) | with_reducible exact s1_eqS hV hltr hgl (by assumption) | exact s1_bel (by assumption) (by assumption) | assumption | exact s1_alloc (by assumption) _ | exact s1_eqA hV (by assumption) | exact s1_eqS hV hltr hgl (by assumption))
    clear hK K
    try simp only [Act.put, List.setIfInBounds_toArray, List.set_cons_zero, List.set_cons_succ]
    refine tk 27 ?_
    refine wpAnyH_ready (rs := [29]) (by kernel_rfl) (by simp) ?_
    refine AllReadyH.cons (o := ?or1b4_29) ?ir1b4_29 (fun K hK => ?sr1b4_29) AllReadyH.nil
    case ir1b4_29 => (simp only [List.getElem?_toArray, List.getElem?_cons_succ, List.getElem?_cons_zero]; rfl)
    ((have n0 := hN.cell 0; have n1 := hN.cell 1; have n2 := hN.cell 2; have n3 := hN.cell 3; have nf0 := hN.frozen 0; have nf1 := hN.frozen 1; have nf2 := hN.frozen 2; have nf3 := hN.frozen 3; go_simp; first | refine Fresh.nameA (fun V hBV hV => ?_) | refine Fresh.nameS hN (fun V hBV hV => ?_)))
    refine hK.out _ _ ?kr1b4_29 (fun hHeld => ?_)
    case kr1b4_29 => (try dsimp only); (first | with_reducible assumption | with_reducible exact s1_eqA hV (by assumption) | with_reducible exact s1_eqS hV hltr hgl (by assumption) | exact s1_bel (by assumption) (by assumption) | assumption | exact s1_alloc (by assumption) _ | exact s1_eqA hV (by assumption) | exact s1_eqS hV hltr hgl (by assumption))
    clear hK K
    try simp only [Act.put, List.setIfInBounds_toArray, List.set_cons_zero, List.set_cons_succ]
    refine wpAnyH_done (by kernel_rfl) ?_ _
    refine NoPanic.normal ?_
  all_goals
    have KB := hid hBV
    have hbV := hHeld.2
    replace HR := hid (HR.out.on hbV)
    replace HB := hid (bel_trans HB.out hbV)
    have hS4 := s4_of hBV
    clear r0 r1 r2 r3 rf0 rf1 rf2 rf3 hS1 hltr hBV hV hHeld hbV
    go_wp2_with fail
    refine qB (S := (fun v => v.cell? ⟨_, 0, none⟩ = some (.int .i64 b.n) ∧ v.cell? ⟨_, 1, none⟩ = some (.bool b.raw) ∧ v.cell? ⟨_, 2, none⟩ = some (.int .i64 b.z) ∧ v.cell? ⟨_, 3, none⟩ = some (.string b.body) ∧ Below V.heap.size V v)) (by kernel_rfl) (by kernel_rfl) (s4_drew hS4) ?_
    refine qK ?_
    refine qC (fun wq hSq => HV.out wq) (fun wq wr hbr hSq => s4_bel hbr hSq) ?_
    refine qK ?_
    refine qK ?_
    refine qU ?_
    refine qU ?_
    refine qU ?_
    refine qU ?_
    refine qU ?_
    refine qU ?_
    refine qU ?_
    refine qK ?_
    refine qN ?_
    intro wq hSq
    (try dsimp only at hSq)
    have hbq := hSq.2.2.2.2
    replace HR := hid (HR.out.on hbq)
    replace KB := hid (KB.out.on hbq)
    replace HB := hid (bel_trans HB.out hbq)
    clear hSq hS4 hbq
    obtain ⟨r0, r1, r2, r3⟩ := HR.out.cells4y
    have rf0 := HR.out.frozen 0
    have rf1 := HR.out.frozen 1
    have rf2 := HR.out.frozen 2
    have rf3 := HR.out.frozen 3
    have hltr : rb < wq.heap.size := HR.out.lt
    go_wp2_with fail
    obtain ⟨Wz, hWz⟩ : ∃ Wz, Wz = ((((wq.setCell ⟨rb, 0, none⟩ (.int .i64 0)).setCell ⟨rb, 1, none⟩ (.bool false)).setCell ⟨rb, 2, none⟩ (.int .i64 0)).setCell ⟨rb, 3, none⟩ (.string ByteArray.empty)) := ⟨_, rfl⟩
    have HZ : Blk Wz rb 35 #[.int .i64 0, .bool false, .int .i64 0, .string ByteArray.empty] := by rw [hWz]; exact HR.out.put4y _ _ _ _
    have HBz : Below w.heap.size w Wz := by rw [hWz]; exact bel_set (bel_set (bel_set (bel_set HB.out HLo.out _) HLo.out _) HLo.out _) HLo.out _
    rw [show ((((wq.setCell ⟨rb, 0, none⟩ (.int .i64 0)).setCell ⟨rb, 1, none⟩ (.bool false)).setCell ⟨rb, 2, none⟩ (.int .i64 0)).setCell ⟨rb, 3, none⟩ (.string { data := #[] })) = Wz from hWz.symm]
    obtain ⟨z0, z1, z2, z3⟩ := HZ.cells4y
    clear hWz
    exact bodyPost_ret (v := noPb) (by simp [results, Tryd.results19, go_sem, z0, z1, z2, z3, noPb]) rfl ⟨rfl, HBz⟩

set_option maxHeartbeats 8000000 in
set_option maxRecDepth 100000 in
theorem c_ParseBlock_n6 (S : ByteArray) (A : Nat) (T : List UInt8) (w : World) (hS : S.size ≤ 1000000000000) (hA : A ≤ S.size) (hT : T = S.data.toList.drop A) (h : 10 ≤ T.length) (h0 : bat T 0 = 181) (h1 : bat T 1 ≤ 1) (h6 : 10 + pat2 T 6 ≤ T.length) (hk : (brd T).ok) (ht : (brd T).text ≠ T.take (10 + pat2 T 6)) : Calls Tryd.prog 19 #[.string S, .int .i64 (A : Int)] w fun e w' => e = .returned noPb ∧ Below w.heap.size w w' := by
  have hTl : T.length = S.size - A := by rw [hT, List.length_drop]; simp
  have d1 : decide ((A : Int) < 0) = false := decide_eq_false (by omega)
  have d2 : decide ((S.size : Int) < (A : Int)) = false := decide_eq_false (by omega)
  have d3 : decide ((S.size : Int) - (A : Int) < 10) = false := decide_eq_false (by omega)
  have i0 : ∀ W, (Instr.index 9 (.string S) (.int .i64 (A : Int))).run Tryd.prog W = .ok (.int .u8 ((bat T 0 : Nat) : Int)) W := fun W => ix Tryd.underlying9 S A T hT 0 _ (by omega) (by omega) W
  have i1 : ∀ W, (Instr.index 9 (.string S) (.int .i64 ((A : Int) + 1))).run Tryd.prog W = .ok (.int .u8 ((bat T 1 : Nat) : Int)) W := fun W => ix Tryd.underlying9 S A T hT 1 _ (by omega) (by omega) W
  rw [h0] at i0
  have d5 : decide ((1 : Int) < ((bat T 1 : Nat) : Int)) = false := decide_eq_false (by omega)
  obtain ⟨X6, hX6⟩ : ∃ X, X = str (sub T 6 2) := ⟨_, rfl⟩
  have hs6 : ∀ W, (Instr.slice 9 (.string S) (some (.int .i64 ((A : Int) + 6))) (some (.int .i64 ((A : Int) + 8))) none).run Tryd.prog W = .ok (.string X6) W := fun W => by rw [hX6]; exact slc Tryd.underlying9 S A T hT 6 2 _ _ (by omega) (by omega) (by omega) W
  have HP6 := hid (show ∀ v, Calls Tryd.prog 28 #[.string X6] v fun e w' => e = .returned (.int .i64 ((pat2 T 6 : Nat) : Int)) ∧ Below v.heap.size v w' from fun v => by
    have := c_l5PairB (sub T 6 2) v (sub_two T 6 (by omega)).1
    rw [(sub_two T 6 (by omega)).2, ← hX6] at this; exact this)
  have hp6 : pat2 T 6 ≤ 65535 := by have := bat_lt T 6; have := bat_lt T (6 + 1); unfold pat2; omega
  have d6 : decide ((S.size : Int) - (A : Int) - 10 < ((pat2 T 6 : Nat) : Int)) = false := decide_eq_false (by omega)
  obtain ⟨b, hb0⟩ : ∃ b : Bl, b = brd T := ⟨_, rfl⟩
  have hbs : b.body.size = pat2 T 6 := by rw [hb0]; exact brd_size T h6
  have hbn : ((pat2 T 2 : Nat) : Int) = b.n := by rw [hb0]; rfl
  have hbz : ((pat2 T 4 : Nat) : Int) = b.z := by rw [hb0]; rfl
  have hbr : ((((bat T 1 : Nat) : Int)) == 0) = b.raw := by
    rw [hb0]
    show _ = (bat T 1 == 0)
    rw [Bool.eq_iff_iff]
    simp
  have hbb : str (sub T 8 (pat2 T 6)) = b.body := by rw [hb0]; rfl
  have hbn2 : -9223372036854775808 ≤ b.n ∧ b.n ≤ 9223372036854775807 := by rw [← hbn]; have := bat_lt T 2; have := bat_lt T (2 + 1); unfold pat2; omega
  have hbz2 : -9223372036854775808 ≤ b.z ∧ b.z ≤ 9223372036854775807 := by rw [← hbz]; have := bat_lt T 4; have := bat_lt T (4 + 1); unfold pat2; omega
  have HV := hid (fun (v : World) => c_l5Form b v hbn2 hbz2 (by unfold maxLen; omega))
  obtain ⟨X2, hX2⟩ : ∃ X, X = str (sub T 2 2) := ⟨_, rfl⟩
  have hs2 : ∀ W, (Instr.slice 9 (.string S) (some (.int .i64 ((A : Int) + 2))) (some (.int .i64 ((A : Int) + 4))) none).run Tryd.prog W = .ok (.string X2) W := fun W => by rw [hX2]; exact slc Tryd.underlying9 S A T hT 2 2 _ _ (by omega) (by omega) (by omega) W
  have HP2 := hid (show ∀ v, Calls Tryd.prog 28 #[.string X2] v fun e w' => e = .returned (.int .i64 b.n) ∧ Below v.heap.size v w' from fun v => by
    have := c_l5PairB (sub T 2 2) v (sub_two T 2 (by omega)).1
    rw [(sub_two T 2 (by omega)).2, ← hX2, hbn] at this; exact this)
  obtain ⟨X4, hX4⟩ : ∃ X, X = str (sub T 4 2) := ⟨_, rfl⟩
  have hs4 : ∀ W, (Instr.slice 9 (.string S) (some (.int .i64 ((A : Int) + 4))) (some (.int .i64 ((A : Int) + 6))) none).run Tryd.prog W = .ok (.string X4) W := fun W => by rw [hX4]; exact slc Tryd.underlying9 S A T hT 4 2 _ _ (by omega) (by omega) (by omega) W
  have HP4 := hid (show ∀ v, Calls Tryd.prog 28 #[.string X4] v fun e w' => e = .returned (.int .i64 b.z) ∧ Below v.heap.size v w' from fun v => by
    have := c_l5PairB (sub T 4 2) v (sub_two T 4 (by omega)).1
    rw [(sub_two T 4 (by omega)).2, ← hX4, hbz] at this; exact this)
  have hs8 : ∀ W, (Instr.slice 9 (.string S) (some (.int .i64 ((A : Int) + 8))) (some (.int .i64 ((A : Int) + 8 + ((pat2 T 6 : Nat) : Int)))) none).run Tryd.prog W = .ok (.string b.body) W := fun W => by rw [← hbb]; exact slc Tryd.underlying9 S A T hT 8 (pat2 T 6) _ _ (by omega) (by omega) (by omega) W
  have wr1 : IntKind.i64.wrap ((A : Int) + 1) = (A : Int) + 1 := IntWalk.i64_in _ (by omega)
  have wr2 : IntKind.i64.wrap ((A : Int) + 2) = (A : Int) + 2 := IntWalk.i64_in _ (by omega)
  have wr4 : IntKind.i64.wrap ((A : Int) + 4) = (A : Int) + 4 := IntWalk.i64_in _ (by omega)
  have wr6 : IntKind.i64.wrap ((A : Int) + 6) = (A : Int) + 6 := IntWalk.i64_in _ (by omega)
  have wr8 : IntKind.i64.wrap ((A : Int) + 8) = (A : Int) + 8 := IntWalk.i64_in _ (by omega)
  have wr9 : IntKind.i64.wrap ((A : Int) + 8 + ((pat2 T 6 : Nat) : Int)) = (A : Int) + 8 + ((pat2 T 6 : Nat) : Int) := IntWalk.i64_in _ (by omega)
  rw [← hb0] at hk
  obtain ⟨Y, hY⟩ : ∃ Y, Y = str b.text := ⟨_, rfl⟩
  have HY := hid (fun (v : World) => c_l5Text b v hk)
  rw [← hY] at HY
  obtain ⟨X, hX⟩ : ∃ X, X = S.extract A (A + 10 + pat2 T 6) := ⟨_, rfl⟩
  have hXl : X.data.toList = T.take (10 + pat2 T 6) := by
    rw [hX, ByteArray.data_extract, Array.toList_extract, hT, List.extract]
    congr 1
    omega
  have hslX : ∀ W, (Instr.slice 9 (.string S) (some (.int .i64 (A : Int))) (some (.int .i64 ((A : Int) + 10 + ((pat2 T 6 : Nat) : Int)))) none).run Tryd.prog W = .ok (.string X) W := fun W => by
    have e1 : ((A : Int)).toNat = A := by omega
    have e2 : ((A : Int) + 10 + ((pat2 T 6 : Nat) : Int)).toNat = A + 10 + pat2 T 6 := by omega
    rw [run_slice_string W 9 S .i64 .i64 (A : Int) ((A : Int) + 10 + ((pat2 T 6 : Nat) : Int)) Tryd.underlying9 (by omega) (by omega) (by omega), e1, e2, hX]
  rw [decide_eq_true hk] at HV
  have hYX := bytesNe (a := Y) (b := X) (fun h => ht (by rw [← hXl, ← h, hY, str_list, hb0]))
  have HR := hid (Blk.new w 35 #[.int .i64 0, .bool false, .int .i64 0, .string ByteArray.empty])
  have HB := hid (bel_alloc (Below.refl _ w) (.cells #[.int .i64 0, .bool false, .int .i64 0, .string ByteArray.empty] 35))
  obtain ⟨rb, hrb⟩ : ∃ rb, rb = w.heap.size := ⟨_, rfl⟩
  have HLo := hid (show w.heap.size ≤ rb by omega)
  rw [← hrb] at HR
  obtain ⟨r0, r1, r2, r3⟩ := HR.out.cells4y
  have rf0 := HR.out.frozen 0
  have rf1 := HR.out.frozen 1
  have rf2 := HR.out.frozen 2
  have rf3 := HR.out.frozen 3
  clear hT hTl hX6 hX2 hX4 hbb hbn hbz hbn2 hbz2 hb0 ht hY hX hXl hk
  go_enter Tryd.func19, Tryd.ntmps19
  go_wp2_with fail
  refine (HP6.out _).mono ?_
  rintro e w1 ⟨rfl, hb1⟩
  replace HR := hid (HR.out.on hb1)
  replace HB := hid (bel_trans HB.out hb1)
  clear hb1 r0 r1 r2 r3 rf0 rf1 rf2 rf3
  obtain ⟨r0, r1, r2, r3⟩ := HR.out.cells4y
  have rf0 := HR.out.frozen 0
  have rf1 := HR.out.frozen 1
  have rf2 := HR.out.frozen 2
  have rf3 := HR.out.frozen 3
  rw [← hrb]
  clear hrb
  go_wp2_with fail
  have hltr : rb < w1.heap.size := HR.out.lt
  have hS1 : w1.cell? ⟨rb, 0, none⟩ = some (.int .i64 0) ∧ Below w1.heap.size w1 w1 := ⟨HR.out.cell 0, Below.refl _ _⟩
  refine wp_region_noPanic ?_
  refine wp_region_held_drew (S := (fun v => v.cell? ⟨rb, 0, none⟩ = some (.int .i64 0) ∧ Below w1.heap.size w1 v)) (by kernel_rfl) (s1_drew hS1) (fun hHeld => ?_)
  refine tk 0 ?_
  refine tk 1 ?_
  refine tk 2 ?_
  refine tk 3 ?_
  refine tk 4 ?_
  refine tk 5 ?_
  refine tk 7 ?_
  refine tk 8 ?_
  refine tk 9 ?_
  refine tk 10 ?_
  refine tk 11 ?_
  refine tk 12 ?_
  refine tk 13 ?_
  refine tk 14 ?_
  refine tk 15 ?_
  refine tk 16 ?_
  refine tk 17 ?_
  refine tk 19 ?_
  refine tk 20 ?_
  refine tk 21 ?_
  refine tk 22 ?_
  refine tk 23 ?_
  refine tk 24 ?_
  refine tk 25 ?_
  refine tk 26 ?_
  refine wpAnyH_ready (rs := [6, 28]) (by kernel_rfl) (by simp) ?_
  refine AllReadyH.cons (o := ?or2_6) ?ir2_6 (fun K hK => ?sr2_6) (AllReadyH.cons (o := ?or2_28) ?ir2_28 (fun K hK => ?sr2_28) AllReadyH.nil)
  case ir2_6 => (simp only [List.getElem?_toArray, List.getElem?_cons_succ, List.getElem?_cons_zero]; rfl)
  case ir2_28 => (simp only [List.getElem?_toArray, List.getElem?_cons_succ, List.getElem?_cons_zero]; rfl)
  case' sr2_6 =>
    (go_simp; (go_at_call 28; refine (HP2.out _).mono ?_; rintro e wK ⟨rfl, hbK⟩; (try have hN := hN.on hbK)))
    refine hK.out _ _ ?kr2_6 (fun hHeld => ?_)
    case kr2_6 => (try dsimp only); (first | with_reducible assumption | with_reducible exact s1_eqA hV (by assumption) | with_reducible exact s1_eqS hV hltr hgl (by assumption) | exact s1_bel (by assumption) (by assumption) | assumption | exact s1_alloc (by assumption) _ | exact s1_eqA hV (by assumption) | exact s1_eqS hV hltr hgl (by assumption))
    clear hK K
    try simp only [Act.put, List.setIfInBounds_toArray, List.set_cons_zero, List.set_cons_succ]
    refine wpAnyH_ready (rs := [18, 28]) (by kernel_rfl) (by simp) ?_
    refine AllReadyH.cons (o := ?or2b1_18) ?ir2b1_18 (fun K hK => ?sr2b1_18) (AllReadyH.cons (o := ?or2b1_28) ?ir2b1_28 (fun K hK => ?sr2b1_28) AllReadyH.nil)
    case ir2b1_18 => (simp only [List.getElem?_toArray, List.getElem?_cons_succ, List.getElem?_cons_zero]; rfl)
    case ir2b1_28 => (simp only [List.getElem?_toArray, List.getElem?_cons_succ, List.getElem?_cons_zero]; rfl)
    case' sr2b1_18 =>
      (go_simp; (go_at_call 28; refine (HP4.out _).mono ?_; rintro e wK ⟨rfl, hbK⟩; (try have hN := hN.on hbK)))
      refine hK.out _ _ ?kr2b1_18 (fun hHeld => ?_)
      case kr2b1_18 => (try dsimp only); (first | with_reducible assumption | with_reducible exact s1_eqA hV (by assumption) | with_reducible exact s1_eqS hV hltr hgl (by assumption) | exact s1_bel (by assumption) (by assumption) | assumption | exact s1_alloc (by assumption) _ | exact s1_eqA hV (by assumption) | exact s1_eqS hV hltr hgl (by assumption))
      clear hK K
      try simp only [Act.put, List.setIfInBounds_toArray, List.set_cons_zero, List.set_cons_succ]
      refine tk 27 ?_
      refine wpAnyH_ready (rs := [28]) (by kernel_rfl) (by simp) ?_
      refine AllReadyH.cons (o := ?or2b1b2_28) ?ir2b1b2_28 (fun K hK => ?sr2b1b2_28) AllReadyH.nil
      case ir2b1b2_28 => (simp only [List.getElem?_toArray, List.getElem?_cons_succ, List.getElem?_cons_zero]; rfl)
      ((have hgl := hHeld.2.size; go_simp; first | refine Fresh.learn (fun hN => ?_) | refine Fresh.learnd (fun hN => ?_)))
      refine hK.out _ _ ?kr2b1b2_28 (fun hHeld => ?_)
      case kr2b1b2_28 => (try dsimp only); (first | with_reducible assumption | with_reducible exact s1_eqA hV (by assumption) | with_reducible exact s1_eqS hV hltr hgl (by assumption) | exact s1_bel (by assumption) (by assumption) | assumption | exact s1_alloc (by assumption) _ | exact s1_eqA hV (by assumption) | exact s1_eqS hV hltr hgl (by assumption))
      clear hK K
      try simp only [Act.put, List.setIfInBounds_toArray, List.set_cons_zero, List.set_cons_succ]
      refine wpAnyH_ready (rs := [29]) (by kernel_rfl) (by simp) ?_
      refine AllReadyH.cons (o := ?or2b1b2_29) ?ir2b1b2_29 (fun K hK => ?sr2b1b2_29) AllReadyH.nil
      case ir2b1b2_29 => (simp only [List.getElem?_toArray, List.getElem?_cons_succ, List.getElem?_cons_zero]; rfl)
      ((have n0 := hN.cell 0; have n1 := hN.cell 1; have n2 := hN.cell 2; have n3 := hN.cell 3; have nf0 := hN.frozen 0; have nf1 := hN.frozen 1; have nf2 := hN.frozen 2; have nf3 := hN.frozen 3; go_simp; first | refine Fresh.nameA (fun V hBV hV => ?_) | refine Fresh.nameS hN (fun V hBV hV => ?_)))
      refine hK.out _ _ ?kr2b1b2_29 (fun hHeld => ?_)
      case kr2b1b2_29 => (try dsimp only); (first | with_reducible assumption | with_reducible exact s1_eqA hV (by assumption) | with_reducible exact s1_eqS hV hltr hgl (by assumption) | exact s1_bel (by assumption) (by assumption) | assumption | exact s1_alloc (by assumption) _ | exact s1_eqA hV (by assumption) | exact s1_eqS hV hltr hgl (by assumption))
      clear hK K
      try simp only [Act.put, List.setIfInBounds_toArray, List.set_cons_zero, List.set_cons_succ]
      refine wpAnyH_done (by kernel_rfl) ?_ _
      refine NoPanic.normal ?_
    case' sr2b1_28 =>
      ((have hgl := hHeld.2.size; go_simp; first | refine Fresh.learn (fun hN => ?_) | refine Fresh.learnd (fun hN => ?_)))
      refine hK.out _ _ ?kr2b1_28 (fun hHeld => ?_)
      case kr2b1_28 => (try dsimp only); (first | with_reducible assumption | with_reducible exact s1_eqA hV (by assumption) | with_reducible exact s1_eqS hV hltr hgl (by assumption) | exact s1_bel (by assumption) (by assumption) | assumption | exact s1_alloc (by assumption) _ | exact s1_eqA hV (by assumption) | exact s1_eqS hV hltr hgl (by assumption))
      clear hK K
      try simp only [Act.put, List.setIfInBounds_toArray, List.set_cons_zero, List.set_cons_succ]
      refine wpAnyH_ready (rs := [18]) (by kernel_rfl) (by simp) ?_
      refine AllReadyH.cons (o := ?or2b1b3_18) ?ir2b1b3_18 (fun K hK => ?sr2b1b3_18) AllReadyH.nil
      case ir2b1b3_18 => (simp only [List.getElem?_toArray, List.getElem?_cons_succ, List.getElem?_cons_zero]; rfl)
      (go_simp; (go_at_call 28; refine (HP4.out _).mono ?_; rintro e wK ⟨rfl, hbK⟩; (try have hN := hN.on hbK)))
      refine hK.out _ _ ?kr2b1b3_18 (fun hHeld => ?_)
      case kr2b1b3_18 => (try dsimp only); (first | with_reducible assumption | with_reducible exact s1_eqA hV (by assumption) | with_reducible exact s1_eqS hV hltr hgl (by assumption) | exact s1_bel (by assumption) (by assumption) | assumption | exact s1_alloc (by assumption) _ | exact s1_eqA hV (by assumption) | exact s1_eqS hV hltr hgl (by assumption))
      clear hK K
      try simp only [Act.put, List.setIfInBounds_toArray, List.set_cons_zero, List.set_cons_succ]
      refine tk 27 ?_
      refine wpAnyH_ready (rs := [29]) (by kernel_rfl) (by simp) ?_
      refine AllReadyH.cons (o := ?or2b1b3_29) ?ir2b1b3_29 (fun K hK => ?sr2b1b3_29) AllReadyH.nil
      case ir2b1b3_29 => (simp only [List.getElem?_toArray, List.getElem?_cons_succ, List.getElem?_cons_zero]; rfl)
      ((have n0 := hN.cell 0; have n1 := hN.cell 1; have n2 := hN.cell 2; have n3 := hN.cell 3; have nf0 := hN.frozen 0; have nf1 := hN.frozen 1; have nf2 := hN.frozen 2; have nf3 := hN.frozen 3; go_simp; first | refine Fresh.nameA (fun V hBV hV => ?_) | refine Fresh.nameS hN (fun V hBV hV => ?_)))
      refine hK.out _ _ ?kr2b1b3_29 (fun hHeld => ?_)
      case kr2b1b3_29 => (try dsimp only); (first | with_reducible assumption | with_reducible exact s1_eqA hV (by assumption) | with_reducible exact s1_eqS hV hltr hgl (by assumption) | exact s1_bel (by assumption) (by assumption) | assumption | exact s1_alloc (by assumption) _ | exact s1_eqA hV (by assumption) | exact s1_eqS hV hltr hgl (by assumption))
      clear hK K
      try simp only [Act.put, List.setIfInBounds_toArray, List.set_cons_zero, List.set_cons_succ]
      refine wpAnyH_done (by kernel_rfl) ?_ _
      refine NoPanic.normal ?_
  case' sr2_28 =>
    ((have hgl := hHeld.2.size; go_simp; first | refine Fresh.learn (fun hN => ?_) | refine Fresh.learnd (fun hN => ?_)))
    refine hK.out _ _ ?kr2_28 (fun hHeld => ?_)
    case kr2_28 => (try dsimp only); (first | with_reducible assumption | with_reducible exact s1_eqA hV (by assumption) | with_reducible exact s1_eqS hV hltr hgl (by assumption) | exact s1_bel (by assumption) (by assumption) | assumption | exact s1_alloc (by assumption) _ | exact s1_eqA hV (by assumption) | exact s1_eqS hV hltr hgl (by assumption))
    clear hK K
    try simp only [Act.put, List.setIfInBounds_toArray, List.set_cons_zero, List.set_cons_succ]
    refine wpAnyH_ready (rs := [6]) (by kernel_rfl) (by simp) ?_
    refine AllReadyH.cons (o := ?or2b4_6) ?ir2b4_6 (fun K hK => ?sr2b4_6) AllReadyH.nil
    case ir2b4_6 => (simp only [List.getElem?_toArray, List.getElem?_cons_succ, List.getElem?_cons_zero]; rfl)
    (go_simp; (go_at_call 28; refine (HP2.out _).mono ?_; rintro e wK ⟨rfl, hbK⟩; (try have hN := hN.on hbK)))
    refine hK.out _ _ ?kr2b4_6 (fun hHeld => ?_)
    case kr2b4_6 => (try dsimp only); (first | with_reducible assumption | with_reducible exact s1_eqA hV (by assumption) | with_reducible exact s1_eqS hV hltr hgl (by assumption) | exact s1_bel (by assumption) (by assumption) | assumption | exact s1_alloc (by assumption) _ | exact s1_eqA hV (by assumption) | exact s1_eqS hV hltr hgl (by assumption))
    clear hK K
    try simp only [Act.put, List.setIfInBounds_toArray, List.set_cons_zero, List.set_cons_succ]
    refine wpAnyH_ready (rs := [18]) (by kernel_rfl) (by simp) ?_
    refine AllReadyH.cons (o := ?or2b4_18) ?ir2b4_18 (fun K hK => ?sr2b4_18) AllReadyH.nil
    case ir2b4_18 => (simp only [List.getElem?_toArray, List.getElem?_cons_succ, List.getElem?_cons_zero]; rfl)
    (go_simp; (go_at_call 28; refine (HP4.out _).mono ?_; rintro e wK ⟨rfl, hbK⟩; (try have hN := hN.on hbK)))
    refine hK.out _ _ ?kr2b4_18 (fun hHeld => ?_)
    case kr2b4_18 => (try dsimp only); (first | with_reducible assumption | with_reducible exact s1_eqA hV (by assumption) | with_reducible exact s1_eqS hV hltr hgl (by assumption) | exact s1_bel (by assumption) (by assumption) | assumption | exact s1_alloc (by assumption) _ | exact s1_eqA hV (by assumption) | exact s1_eqS hV hltr hgl (by assumption))
    clear hK K
    try simp only [Act.put, List.setIfInBounds_toArray, List.set_cons_zero, List.set_cons_succ]
    refine tk 27 ?_
    refine wpAnyH_ready (rs := [29]) (by kernel_rfl) (by simp) ?_
    refine AllReadyH.cons (o := ?or2b4_29) ?ir2b4_29 (fun K hK => ?sr2b4_29) AllReadyH.nil
    case ir2b4_29 => (simp only [List.getElem?_toArray, List.getElem?_cons_succ, List.getElem?_cons_zero]; rfl)
    ((have n0 := hN.cell 0; have n1 := hN.cell 1; have n2 := hN.cell 2; have n3 := hN.cell 3; have nf0 := hN.frozen 0; have nf1 := hN.frozen 1; have nf2 := hN.frozen 2; have nf3 := hN.frozen 3; go_simp; first | refine Fresh.nameA (fun V hBV hV => ?_) | refine Fresh.nameS hN (fun V hBV hV => ?_)))
    refine hK.out _ _ ?kr2b4_29 (fun hHeld => ?_)
    case kr2b4_29 => (try dsimp only); (first | with_reducible assumption | with_reducible exact s1_eqA hV (by assumption) | with_reducible exact s1_eqS hV hltr hgl (by assumption) | exact s1_bel (by assumption) (by assumption) | assumption | exact s1_alloc (by assumption) _ | exact s1_eqA hV (by assumption) | exact s1_eqS hV hltr hgl (by assumption))
    clear hK K
    try simp only [Act.put, List.setIfInBounds_toArray, List.set_cons_zero, List.set_cons_succ]
    refine wpAnyH_done (by kernel_rfl) ?_ _
    refine NoPanic.normal ?_
  all_goals
    have KB := hid hBV
    have hbV := hHeld.2
    replace HR := hid (HR.out.on hbV)
    replace HB := hid (bel_trans HB.out hbV)
    have hS4 := s4_of hBV
    clear r0 r1 r2 r3 rf0 rf1 rf2 rf3 hS1 hltr hBV hV hHeld hbV
    go_wp2_with fail
    refine qB (S := (fun v => v.cell? ⟨_, 0, none⟩ = some (.int .i64 b.n) ∧ v.cell? ⟨_, 1, none⟩ = some (.bool b.raw) ∧ v.cell? ⟨_, 2, none⟩ = some (.int .i64 b.z) ∧ v.cell? ⟨_, 3, none⟩ = some (.string b.body) ∧ Below V.heap.size V v)) (by kernel_rfl) (by kernel_rfl) (s4_drew hS4) ?_
    refine qK ?_
    refine qC (fun wq hSq => HV.out wq) (fun wq wr hbr hSq => s4_bel hbr hSq) ?_
    refine qK ?_
    refine qK ?_
    refine qK ?_
    refine qC (fun wq hSq => HY.out wq) (fun wq wr hbr hSq => s4_bel hbr hSq) ?_
    refine qK ?_
    refine qK ?_
    refine qK ?_
    refine qK ?_
    refine qK ?_
    refine qK ?_
    refine qN ?_
    intro wq hSq
    (try dsimp only at hSq)
    have hbq := hSq.2.2.2.2
    replace HR := hid (HR.out.on hbq)
    replace KB := hid (KB.out.on hbq)
    replace HB := hid (bel_trans HB.out hbq)
    clear hSq hS4 hbq
    obtain ⟨r0, r1, r2, r3⟩ := HR.out.cells4y
    have rf0 := HR.out.frozen 0
    have rf1 := HR.out.frozen 1
    have rf2 := HR.out.frozen 2
    have rf3 := HR.out.frozen 3
    have hltr : rb < wq.heap.size := HR.out.lt
    go_wp2_with fail
    obtain ⟨Wz, hWz⟩ : ∃ Wz, Wz = ((((wq.setCell ⟨rb, 0, none⟩ (.int .i64 0)).setCell ⟨rb, 1, none⟩ (.bool false)).setCell ⟨rb, 2, none⟩ (.int .i64 0)).setCell ⟨rb, 3, none⟩ (.string ByteArray.empty)) := ⟨_, rfl⟩
    have HZ : Blk Wz rb 35 #[.int .i64 0, .bool false, .int .i64 0, .string ByteArray.empty] := by rw [hWz]; exact HR.out.put4y _ _ _ _
    have HBz : Below w.heap.size w Wz := by rw [hWz]; exact bel_set (bel_set (bel_set (bel_set HB.out HLo.out _) HLo.out _) HLo.out _) HLo.out _
    rw [show ((((wq.setCell ⟨rb, 0, none⟩ (.int .i64 0)).setCell ⟨rb, 1, none⟩ (.bool false)).setCell ⟨rb, 2, none⟩ (.int .i64 0)).setCell ⟨rb, 3, none⟩ (.string { data := #[] })) = Wz from hWz.symm]
    obtain ⟨z0, z1, z2, z3⟩ := HZ.cells4y
    clear hWz
    exact bodyPost_ret (v := noPb) (by simp [results, Tryd.results19, go_sem, z0, z1, z2, z3, noPb]) rfl ⟨rfl, HBz⟩

set_option maxHeartbeats 8000000 in
set_option maxRecDepth 100000 in
theorem c_ParseBlock_n7 (S : ByteArray) (A : Nat) (T : List UInt8) (w : World) (hS : S.size ≤ 1000000000000) (hA : A ≤ S.size) (hT : T = S.data.toList.drop A) (h : 10 ≤ T.length) (h0 : bat T 0 = 181) (h1 : bat T 1 ≤ 1) (h6 : 10 + pat2 T 6 ≤ T.length) (hk : (brd T).ok) (ht : (brd T).text = T.take (10 + pat2 T 6)) : Calls Tryd.prog 19 #[.string S, .int .i64 (A : Int)] w fun e w' => e = .returned (.tuple #[.agg #[.int .i64 (brd T).n, .bool (brd T).raw, .int .i64 (brd T).z, .string (brd T).body], .int .i64 ((A : Int) + 10 + (brd T).body.size), .bool true]) ∧ Below w.heap.size w w' := by
  have hTl : T.length = S.size - A := by rw [hT, List.length_drop]; simp
  have d1 : decide ((A : Int) < 0) = false := decide_eq_false (by omega)
  have d2 : decide ((S.size : Int) < (A : Int)) = false := decide_eq_false (by omega)
  have d3 : decide ((S.size : Int) - (A : Int) < 10) = false := decide_eq_false (by omega)
  have i0 : ∀ W, (Instr.index 9 (.string S) (.int .i64 (A : Int))).run Tryd.prog W = .ok (.int .u8 ((bat T 0 : Nat) : Int)) W := fun W => ix Tryd.underlying9 S A T hT 0 _ (by omega) (by omega) W
  have i1 : ∀ W, (Instr.index 9 (.string S) (.int .i64 ((A : Int) + 1))).run Tryd.prog W = .ok (.int .u8 ((bat T 1 : Nat) : Int)) W := fun W => ix Tryd.underlying9 S A T hT 1 _ (by omega) (by omega) W
  rw [h0] at i0
  have d5 : decide ((1 : Int) < ((bat T 1 : Nat) : Int)) = false := decide_eq_false (by omega)
  obtain ⟨X6, hX6⟩ : ∃ X, X = str (sub T 6 2) := ⟨_, rfl⟩
  have hs6 : ∀ W, (Instr.slice 9 (.string S) (some (.int .i64 ((A : Int) + 6))) (some (.int .i64 ((A : Int) + 8))) none).run Tryd.prog W = .ok (.string X6) W := fun W => by rw [hX6]; exact slc Tryd.underlying9 S A T hT 6 2 _ _ (by omega) (by omega) (by omega) W
  have HP6 := hid (show ∀ v, Calls Tryd.prog 28 #[.string X6] v fun e w' => e = .returned (.int .i64 ((pat2 T 6 : Nat) : Int)) ∧ Below v.heap.size v w' from fun v => by
    have := c_l5PairB (sub T 6 2) v (sub_two T 6 (by omega)).1
    rw [(sub_two T 6 (by omega)).2, ← hX6] at this; exact this)
  have hp6 : pat2 T 6 ≤ 65535 := by have := bat_lt T 6; have := bat_lt T (6 + 1); unfold pat2; omega
  have d6 : decide ((S.size : Int) - (A : Int) - 10 < ((pat2 T 6 : Nat) : Int)) = false := decide_eq_false (by omega)
  obtain ⟨b, hb0⟩ : ∃ b : Bl, b = brd T := ⟨_, rfl⟩
  have hbs : b.body.size = pat2 T 6 := by rw [hb0]; exact brd_size T h6
  have hbn : ((pat2 T 2 : Nat) : Int) = b.n := by rw [hb0]; rfl
  have hbz : ((pat2 T 4 : Nat) : Int) = b.z := by rw [hb0]; rfl
  have hbr : ((((bat T 1 : Nat) : Int)) == 0) = b.raw := by
    rw [hb0]
    show _ = (bat T 1 == 0)
    rw [Bool.eq_iff_iff]
    simp
  have hbb : str (sub T 8 (pat2 T 6)) = b.body := by rw [hb0]; rfl
  have hbn2 : -9223372036854775808 ≤ b.n ∧ b.n ≤ 9223372036854775807 := by rw [← hbn]; have := bat_lt T 2; have := bat_lt T (2 + 1); unfold pat2; omega
  have hbz2 : -9223372036854775808 ≤ b.z ∧ b.z ≤ 9223372036854775807 := by rw [← hbz]; have := bat_lt T 4; have := bat_lt T (4 + 1); unfold pat2; omega
  have HV := hid (fun (v : World) => c_l5Form b v hbn2 hbz2 (by unfold maxLen; omega))
  obtain ⟨X2, hX2⟩ : ∃ X, X = str (sub T 2 2) := ⟨_, rfl⟩
  have hs2 : ∀ W, (Instr.slice 9 (.string S) (some (.int .i64 ((A : Int) + 2))) (some (.int .i64 ((A : Int) + 4))) none).run Tryd.prog W = .ok (.string X2) W := fun W => by rw [hX2]; exact slc Tryd.underlying9 S A T hT 2 2 _ _ (by omega) (by omega) (by omega) W
  have HP2 := hid (show ∀ v, Calls Tryd.prog 28 #[.string X2] v fun e w' => e = .returned (.int .i64 b.n) ∧ Below v.heap.size v w' from fun v => by
    have := c_l5PairB (sub T 2 2) v (sub_two T 2 (by omega)).1
    rw [(sub_two T 2 (by omega)).2, ← hX2, hbn] at this; exact this)
  obtain ⟨X4, hX4⟩ : ∃ X, X = str (sub T 4 2) := ⟨_, rfl⟩
  have hs4 : ∀ W, (Instr.slice 9 (.string S) (some (.int .i64 ((A : Int) + 4))) (some (.int .i64 ((A : Int) + 6))) none).run Tryd.prog W = .ok (.string X4) W := fun W => by rw [hX4]; exact slc Tryd.underlying9 S A T hT 4 2 _ _ (by omega) (by omega) (by omega) W
  have HP4 := hid (show ∀ v, Calls Tryd.prog 28 #[.string X4] v fun e w' => e = .returned (.int .i64 b.z) ∧ Below v.heap.size v w' from fun v => by
    have := c_l5PairB (sub T 4 2) v (sub_two T 4 (by omega)).1
    rw [(sub_two T 4 (by omega)).2, ← hX4, hbz] at this; exact this)
  have hs8 : ∀ W, (Instr.slice 9 (.string S) (some (.int .i64 ((A : Int) + 8))) (some (.int .i64 ((A : Int) + 8 + ((pat2 T 6 : Nat) : Int)))) none).run Tryd.prog W = .ok (.string b.body) W := fun W => by rw [← hbb]; exact slc Tryd.underlying9 S A T hT 8 (pat2 T 6) _ _ (by omega) (by omega) (by omega) W
  have wr1 : IntKind.i64.wrap ((A : Int) + 1) = (A : Int) + 1 := IntWalk.i64_in _ (by omega)
  have wr2 : IntKind.i64.wrap ((A : Int) + 2) = (A : Int) + 2 := IntWalk.i64_in _ (by omega)
  have wr4 : IntKind.i64.wrap ((A : Int) + 4) = (A : Int) + 4 := IntWalk.i64_in _ (by omega)
  have wr6 : IntKind.i64.wrap ((A : Int) + 6) = (A : Int) + 6 := IntWalk.i64_in _ (by omega)
  have wr8 : IntKind.i64.wrap ((A : Int) + 8) = (A : Int) + 8 := IntWalk.i64_in _ (by omega)
  have wr9 : IntKind.i64.wrap ((A : Int) + 8 + ((pat2 T 6 : Nat) : Int)) = (A : Int) + 8 + ((pat2 T 6 : Nat) : Int) := IntWalk.i64_in _ (by omega)
  rw [← hb0] at hk
  obtain ⟨Y, hY⟩ : ∃ Y, Y = str b.text := ⟨_, rfl⟩
  have HY := hid (fun (v : World) => c_l5Text b v hk)
  rw [← hY] at HY
  obtain ⟨X, hX⟩ : ∃ X, X = S.extract A (A + 10 + pat2 T 6) := ⟨_, rfl⟩
  have hXl : X.data.toList = T.take (10 + pat2 T 6) := by
    rw [hX, ByteArray.data_extract, Array.toList_extract, hT, List.extract]
    congr 1
    omega
  have hslX : ∀ W, (Instr.slice 9 (.string S) (some (.int .i64 (A : Int))) (some (.int .i64 ((A : Int) + 10 + ((pat2 T 6 : Nat) : Int)))) none).run Tryd.prog W = .ok (.string X) W := fun W => by
    have e1 : ((A : Int)).toNat = A := by omega
    have e2 : ((A : Int) + 10 + ((pat2 T 6 : Nat) : Int)).toNat = A + 10 + pat2 T 6 := by omega
    rw [run_slice_string W 9 S .i64 .i64 (A : Int) ((A : Int) + 10 + ((pat2 T 6 : Nat) : Int)) Tryd.underlying9 (by omega) (by omega) (by omega), e1, e2, hX]
  rw [decide_eq_true hk] at HV
  have hYX : Y = X := ByteArray.ext (Array.toList_inj.1 (by rw [hXl, hY, str_list, hb0, ht]))
  subst hYX
  have HBS := hid hbs
  rw [← hb0]
  have HR := hid (Blk.new w 35 #[.int .i64 0, .bool false, .int .i64 0, .string ByteArray.empty])
  have HB := hid (bel_alloc (Below.refl _ w) (.cells #[.int .i64 0, .bool false, .int .i64 0, .string ByteArray.empty] 35))
  obtain ⟨rb, hrb⟩ : ∃ rb, rb = w.heap.size := ⟨_, rfl⟩
  have HLo := hid (show w.heap.size ≤ rb by omega)
  rw [← hrb] at HR
  obtain ⟨r0, r1, r2, r3⟩ := HR.out.cells4y
  have rf0 := HR.out.frozen 0
  have rf1 := HR.out.frozen 1
  have rf2 := HR.out.frozen 2
  have rf3 := HR.out.frozen 3
  clear hT hTl hX6 hX2 hX4 hbb hbn hbz hbn2 hbz2 hb0 ht hY hX hXl hk hbs
  go_enter Tryd.func19, Tryd.ntmps19
  go_wp2_with fail
  refine (HP6.out _).mono ?_
  rintro e w1 ⟨rfl, hb1⟩
  replace HR := hid (HR.out.on hb1)
  replace HB := hid (bel_trans HB.out hb1)
  clear hb1 r0 r1 r2 r3 rf0 rf1 rf2 rf3
  obtain ⟨r0, r1, r2, r3⟩ := HR.out.cells4y
  have rf0 := HR.out.frozen 0
  have rf1 := HR.out.frozen 1
  have rf2 := HR.out.frozen 2
  have rf3 := HR.out.frozen 3
  rw [← hrb]
  clear hrb
  go_wp2_with fail
  have hltr : rb < w1.heap.size := HR.out.lt
  have hS1 : w1.cell? ⟨rb, 0, none⟩ = some (.int .i64 0) ∧ Below w1.heap.size w1 w1 := ⟨HR.out.cell 0, Below.refl _ _⟩
  refine wp_region_noPanic ?_
  refine wp_region_held_drew (S := (fun v => v.cell? ⟨rb, 0, none⟩ = some (.int .i64 0) ∧ Below w1.heap.size w1 v)) (by kernel_rfl) (s1_drew hS1) (fun hHeld => ?_)
  refine tk 0 ?_
  refine tk 1 ?_
  refine tk 2 ?_
  refine tk 3 ?_
  refine tk 4 ?_
  refine tk 5 ?_
  refine tk 7 ?_
  refine tk 8 ?_
  refine tk 9 ?_
  refine tk 10 ?_
  refine tk 11 ?_
  refine tk 12 ?_
  refine tk 13 ?_
  refine tk 14 ?_
  refine tk 15 ?_
  refine tk 16 ?_
  refine tk 17 ?_
  refine tk 19 ?_
  refine tk 20 ?_
  refine tk 21 ?_
  refine tk 22 ?_
  refine tk 23 ?_
  refine tk 24 ?_
  refine tk 25 ?_
  refine tk 26 ?_
  refine wpAnyH_ready (rs := [6, 28]) (by kernel_rfl) (by simp) ?_
  refine AllReadyH.cons (o := ?or3_6) ?ir3_6 (fun K hK => ?sr3_6) (AllReadyH.cons (o := ?or3_28) ?ir3_28 (fun K hK => ?sr3_28) AllReadyH.nil)
  case ir3_6 => (simp only [List.getElem?_toArray, List.getElem?_cons_succ, List.getElem?_cons_zero]; rfl)
  case ir3_28 => (simp only [List.getElem?_toArray, List.getElem?_cons_succ, List.getElem?_cons_zero]; rfl)
  case' sr3_6 =>
    (go_simp; (go_at_call 28; refine (HP2.out _).mono ?_; rintro e wK ⟨rfl, hbK⟩; (try have hN := hN.on hbK)))
    refine hK.out _ _ ?kr3_6 (fun hHeld => ?_)
    case kr3_6 => (try dsimp only); (first | with_reducible assumption | with_reducible exact s1_eqA hV (by assumption) | with_reducible exact s1_eqS hV hltr hgl (by assumption) | exact s1_bel (by assumption) (by assumption) | assumption | exact s1_alloc (by assumption) _ | exact s1_eqA hV (by assumption) | exact s1_eqS hV hltr hgl (by assumption))
    clear hK K
    try simp only [Act.put, List.setIfInBounds_toArray, List.set_cons_zero, List.set_cons_succ]
    refine wpAnyH_ready (rs := [18, 28]) (by kernel_rfl) (by simp) ?_
    refine AllReadyH.cons (o := ?or3b1_18) ?ir3b1_18 (fun K hK => ?sr3b1_18) (AllReadyH.cons (o := ?or3b1_28) ?ir3b1_28 (fun K hK => ?sr3b1_28) AllReadyH.nil)
    case ir3b1_18 => (simp only [List.getElem?_toArray, List.getElem?_cons_succ, List.getElem?_cons_zero]; rfl)
    case ir3b1_28 => (simp only [List.getElem?_toArray, List.getElem?_cons_succ, List.getElem?_cons_zero]; rfl)
    case' sr3b1_18 =>
      (go_simp; (go_at_call 28; refine (HP4.out _).mono ?_; rintro e wK ⟨rfl, hbK⟩; (try have hN := hN.on hbK)))
      refine hK.out _ _ ?kr3b1_18 (fun hHeld => ?_)
      case kr3b1_18 => (try dsimp only); (first | with_reducible assumption | with_reducible exact s1_eqA hV (by assumption) | with_reducible exact s1_eqS hV hltr hgl (by assumption) | exact s1_bel (by assumption) (by assumption) | assumption | exact s1_alloc (by assumption) _ | exact s1_eqA hV (by assumption) | exact s1_eqS hV hltr hgl (by assumption))
      clear hK K
      try simp only [Act.put, List.setIfInBounds_toArray, List.set_cons_zero, List.set_cons_succ]
      refine tk 27 ?_
      refine wpAnyH_ready (rs := [28]) (by kernel_rfl) (by simp) ?_
      refine AllReadyH.cons (o := ?or3b1b2_28) ?ir3b1b2_28 (fun K hK => ?sr3b1b2_28) AllReadyH.nil
      case ir3b1b2_28 => (simp only [List.getElem?_toArray, List.getElem?_cons_succ, List.getElem?_cons_zero]; rfl)
      ((have hgl := hHeld.2.size; go_simp; first | refine Fresh.learn (fun hN => ?_) | refine Fresh.learnd (fun hN => ?_)))
      refine hK.out _ _ ?kr3b1b2_28 (fun hHeld => ?_)
      case kr3b1b2_28 => (try dsimp only); (first | with_reducible assumption | with_reducible exact s1_eqA hV (by assumption) | with_reducible exact s1_eqS hV hltr hgl (by assumption) | exact s1_bel (by assumption) (by assumption) | assumption | exact s1_alloc (by assumption) _ | exact s1_eqA hV (by assumption) | exact s1_eqS hV hltr hgl (by assumption))
      clear hK K
      try simp only [Act.put, List.setIfInBounds_toArray, List.set_cons_zero, List.set_cons_succ]
      refine wpAnyH_ready (rs := [29]) (by kernel_rfl) (by simp) ?_
      refine AllReadyH.cons (o := ?or3b1b2_29) ?ir3b1b2_29 (fun K hK => ?sr3b1b2_29) AllReadyH.nil
      case ir3b1b2_29 => (simp only [List.getElem?_toArray, List.getElem?_cons_succ, List.getElem?_cons_zero]; rfl)
      ((have n0 := hN.cell 0; have n1 := hN.cell 1; have n2 := hN.cell 2; have n3 := hN.cell 3; have nf0 := hN.frozen 0; have nf1 := hN.frozen 1; have nf2 := hN.frozen 2; have nf3 := hN.frozen 3; go_simp; first | refine Fresh.nameA (fun V hBV hV => ?_) | refine Fresh.nameS hN (fun V hBV hV => ?_)))
      refine hK.out _ _ ?kr3b1b2_29 (fun hHeld => ?_)
      case kr3b1b2_29 => (try dsimp only); (first | with_reducible assumption | with_reducible exact s1_eqA hV (by assumption) | with_reducible exact s1_eqS hV hltr hgl (by assumption) | exact s1_bel (by assumption) (by assumption) | assumption | exact s1_alloc (by assumption) _ | exact s1_eqA hV (by assumption) | exact s1_eqS hV hltr hgl (by assumption))
      clear hK K
      try simp only [Act.put, List.setIfInBounds_toArray, List.set_cons_zero, List.set_cons_succ]
      refine wpAnyH_done (by kernel_rfl) ?_ _
      refine NoPanic.normal ?_
    case' sr3b1_28 =>
      ((have hgl := hHeld.2.size; go_simp; first | refine Fresh.learn (fun hN => ?_) | refine Fresh.learnd (fun hN => ?_)))
      refine hK.out _ _ ?kr3b1_28 (fun hHeld => ?_)
      case kr3b1_28 => (try dsimp only); (first | with_reducible assumption | with_reducible exact s1_eqA hV (by assumption) | with_reducible exact s1_eqS hV hltr hgl (by assumption) | exact s1_bel (by assumption) (by assumption) | assumption | exact s1_alloc (by assumption) _ | exact s1_eqA hV (by assumption) | exact s1_eqS hV hltr hgl (by assumption))
      clear hK K
      try simp only [Act.put, List.setIfInBounds_toArray, List.set_cons_zero, List.set_cons_succ]
      refine wpAnyH_ready (rs := [18]) (by kernel_rfl) (by simp) ?_
      refine AllReadyH.cons (o := ?or3b1b3_18) ?ir3b1b3_18 (fun K hK => ?sr3b1b3_18) AllReadyH.nil
      case ir3b1b3_18 => (simp only [List.getElem?_toArray, List.getElem?_cons_succ, List.getElem?_cons_zero]; rfl)
      (go_simp; (go_at_call 28; refine (HP4.out _).mono ?_; rintro e wK ⟨rfl, hbK⟩; (try have hN := hN.on hbK)))
      refine hK.out _ _ ?kr3b1b3_18 (fun hHeld => ?_)
      case kr3b1b3_18 => (try dsimp only); (first | with_reducible assumption | with_reducible exact s1_eqA hV (by assumption) | with_reducible exact s1_eqS hV hltr hgl (by assumption) | exact s1_bel (by assumption) (by assumption) | assumption | exact s1_alloc (by assumption) _ | exact s1_eqA hV (by assumption) | exact s1_eqS hV hltr hgl (by assumption))
      clear hK K
      try simp only [Act.put, List.setIfInBounds_toArray, List.set_cons_zero, List.set_cons_succ]
      refine tk 27 ?_
      refine wpAnyH_ready (rs := [29]) (by kernel_rfl) (by simp) ?_
      refine AllReadyH.cons (o := ?or3b1b3_29) ?ir3b1b3_29 (fun K hK => ?sr3b1b3_29) AllReadyH.nil
      case ir3b1b3_29 => (simp only [List.getElem?_toArray, List.getElem?_cons_succ, List.getElem?_cons_zero]; rfl)
      ((have n0 := hN.cell 0; have n1 := hN.cell 1; have n2 := hN.cell 2; have n3 := hN.cell 3; have nf0 := hN.frozen 0; have nf1 := hN.frozen 1; have nf2 := hN.frozen 2; have nf3 := hN.frozen 3; go_simp; first | refine Fresh.nameA (fun V hBV hV => ?_) | refine Fresh.nameS hN (fun V hBV hV => ?_)))
      refine hK.out _ _ ?kr3b1b3_29 (fun hHeld => ?_)
      case kr3b1b3_29 => (try dsimp only); (first | with_reducible assumption | with_reducible exact s1_eqA hV (by assumption) | with_reducible exact s1_eqS hV hltr hgl (by assumption) | exact s1_bel (by assumption) (by assumption) | assumption | exact s1_alloc (by assumption) _ | exact s1_eqA hV (by assumption) | exact s1_eqS hV hltr hgl (by assumption))
      clear hK K
      try simp only [Act.put, List.setIfInBounds_toArray, List.set_cons_zero, List.set_cons_succ]
      refine wpAnyH_done (by kernel_rfl) ?_ _
      refine NoPanic.normal ?_
  case' sr3_28 =>
    ((have hgl := hHeld.2.size; go_simp; first | refine Fresh.learn (fun hN => ?_) | refine Fresh.learnd (fun hN => ?_)))
    refine hK.out _ _ ?kr3_28 (fun hHeld => ?_)
    case kr3_28 => (try dsimp only); (first | with_reducible assumption | with_reducible exact s1_eqA hV (by assumption) | with_reducible exact s1_eqS hV hltr hgl (by assumption) | exact s1_bel (by assumption) (by assumption) | assumption | exact s1_alloc (by assumption) _ | exact s1_eqA hV (by assumption) | exact s1_eqS hV hltr hgl (by assumption))
    clear hK K
    try simp only [Act.put, List.setIfInBounds_toArray, List.set_cons_zero, List.set_cons_succ]
    refine wpAnyH_ready (rs := [6]) (by kernel_rfl) (by simp) ?_
    refine AllReadyH.cons (o := ?or3b4_6) ?ir3b4_6 (fun K hK => ?sr3b4_6) AllReadyH.nil
    case ir3b4_6 => (simp only [List.getElem?_toArray, List.getElem?_cons_succ, List.getElem?_cons_zero]; rfl)
    (go_simp; (go_at_call 28; refine (HP2.out _).mono ?_; rintro e wK ⟨rfl, hbK⟩; (try have hN := hN.on hbK)))
    refine hK.out _ _ ?kr3b4_6 (fun hHeld => ?_)
    case kr3b4_6 => (try dsimp only); (first | with_reducible assumption | with_reducible exact s1_eqA hV (by assumption) | with_reducible exact s1_eqS hV hltr hgl (by assumption) | exact s1_bel (by assumption) (by assumption) | assumption | exact s1_alloc (by assumption) _ | exact s1_eqA hV (by assumption) | exact s1_eqS hV hltr hgl (by assumption))
    clear hK K
    try simp only [Act.put, List.setIfInBounds_toArray, List.set_cons_zero, List.set_cons_succ]
    refine wpAnyH_ready (rs := [18]) (by kernel_rfl) (by simp) ?_
    refine AllReadyH.cons (o := ?or3b4_18) ?ir3b4_18 (fun K hK => ?sr3b4_18) AllReadyH.nil
    case ir3b4_18 => (simp only [List.getElem?_toArray, List.getElem?_cons_succ, List.getElem?_cons_zero]; rfl)
    (go_simp; (go_at_call 28; refine (HP4.out _).mono ?_; rintro e wK ⟨rfl, hbK⟩; (try have hN := hN.on hbK)))
    refine hK.out _ _ ?kr3b4_18 (fun hHeld => ?_)
    case kr3b4_18 => (try dsimp only); (first | with_reducible assumption | with_reducible exact s1_eqA hV (by assumption) | with_reducible exact s1_eqS hV hltr hgl (by assumption) | exact s1_bel (by assumption) (by assumption) | assumption | exact s1_alloc (by assumption) _ | exact s1_eqA hV (by assumption) | exact s1_eqS hV hltr hgl (by assumption))
    clear hK K
    try simp only [Act.put, List.setIfInBounds_toArray, List.set_cons_zero, List.set_cons_succ]
    refine tk 27 ?_
    refine wpAnyH_ready (rs := [29]) (by kernel_rfl) (by simp) ?_
    refine AllReadyH.cons (o := ?or3b4_29) ?ir3b4_29 (fun K hK => ?sr3b4_29) AllReadyH.nil
    case ir3b4_29 => (simp only [List.getElem?_toArray, List.getElem?_cons_succ, List.getElem?_cons_zero]; rfl)
    ((have n0 := hN.cell 0; have n1 := hN.cell 1; have n2 := hN.cell 2; have n3 := hN.cell 3; have nf0 := hN.frozen 0; have nf1 := hN.frozen 1; have nf2 := hN.frozen 2; have nf3 := hN.frozen 3; go_simp; first | refine Fresh.nameA (fun V hBV hV => ?_) | refine Fresh.nameS hN (fun V hBV hV => ?_)))
    refine hK.out _ _ ?kr3b4_29 (fun hHeld => ?_)
    case kr3b4_29 => (try dsimp only); (first | with_reducible assumption | with_reducible exact s1_eqA hV (by assumption) | with_reducible exact s1_eqS hV hltr hgl (by assumption) | exact s1_bel (by assumption) (by assumption) | assumption | exact s1_alloc (by assumption) _ | exact s1_eqA hV (by assumption) | exact s1_eqS hV hltr hgl (by assumption))
    clear hK K
    try simp only [Act.put, List.setIfInBounds_toArray, List.set_cons_zero, List.set_cons_succ]
    refine wpAnyH_done (by kernel_rfl) ?_ _
    refine NoPanic.normal ?_
  all_goals
    have KB := hid hBV
    have hbV := hHeld.2
    replace HR := hid (HR.out.on hbV)
    replace HB := hid (bel_trans HB.out hbV)
    have hS4 := s4_of hBV
    clear r0 r1 r2 r3 rf0 rf1 rf2 rf3 hS1 hltr hBV hV hHeld hbV
    go_wp2_with fail
    refine qB (S := (fun v => v.cell? ⟨_, 0, none⟩ = some (.int .i64 b.n) ∧ v.cell? ⟨_, 1, none⟩ = some (.bool b.raw) ∧ v.cell? ⟨_, 2, none⟩ = some (.int .i64 b.z) ∧ v.cell? ⟨_, 3, none⟩ = some (.string b.body) ∧ Below V.heap.size V v)) (by kernel_rfl) (by kernel_rfl) (s4_drew hS4) ?_
    refine qK ?_
    refine qC (fun wq hSq => HV.out wq) (fun wq wr hbr hSq => s4_bel hbr hSq) ?_
    refine qK ?_
    refine qK ?_
    refine qK ?_
    refine qC (fun wq hSq => HY.out wq) (fun wq wr hbr hSq => s4_bel hbr hSq) ?_
    refine qK ?_
    refine qK ?_
    refine qK ?_
    refine qK ?_
    refine qK ?_
    refine qK ?_
    refine qN ?_
    intro wq hSq
    (try dsimp only at hSq)
    have hbq := hSq.2.2.2.2
    replace HR := hid (HR.out.on hbq)
    replace KB := hid (KB.out.on hbq)
    replace HB := hid (bel_trans HB.out hbq)
    clear hSq hS4 hbq
    obtain ⟨r0, r1, r2, r3⟩ := HR.out.cells4y
    have rf0 := HR.out.frozen 0
    have rf1 := HR.out.frozen 1
    have rf2 := HR.out.frozen 2
    have rf3 := HR.out.frozen 3
    have hltr : rb < wq.heap.size := HR.out.lt
    obtain ⟨n0, n1, n2, n3⟩ := KB.out.cells4y
    go_wp2_with fail
    obtain ⟨Wz, hWz⟩ : ∃ Wz, Wz = ((((wq.setCell ⟨rb, 0, none⟩ (.int .i64 b.n)).setCell ⟨rb, 1, none⟩ (.bool b.raw)).setCell ⟨rb, 2, none⟩ (.int .i64 b.z)).setCell ⟨rb, 3, none⟩ (.string b.body)) := ⟨_, rfl⟩
    rw [← hWz]
    have HZ : Blk Wz rb 35 #[.int .i64 b.n, .bool b.raw, .int .i64 b.z, .string b.body] := by rw [hWz]; exact HR.out.put4y _ _ _ _
    have HBz : Below w.heap.size w Wz := by rw [hWz]; exact bel_set (bel_set (bel_set (bel_set HB.out HLo.out _) HLo.out _) HLo.out _) HLo.out _
    obtain ⟨z0, z1, z2, z3⟩ := HZ.cells4y
    clear hWz n0 n1 n2 n3 r0 r1 r2 r3
    exact bodyPost_ret (v := .tuple #[.agg #[.int .i64 b.n, .bool b.raw, .int .i64 b.z, .string b.body], .int .i64 ((A : Int) + 10 + ((pat2 T 6 : Nat) : Int)), .bool true]) (by simp [results, Tryd.results19, go_sem, z0, z1, z2, z3]) rfl ⟨by rw [HBS.out], HBz⟩
end Go.Proofs.YtepbjmpbcobfpaaDoor
