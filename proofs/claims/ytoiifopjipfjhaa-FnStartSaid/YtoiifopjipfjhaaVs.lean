/- The walk of the law on Start. -/
import Derived.Test.YtoiifopjipfjhaaDraw9
import Derived.Test.YtoiifopjipfjhaaSo
import Derived.Test.YtoiifopjipfjhaaBc
import Derived.Test.YtoiifopjipfjhaaBe
import Derived.Test.YtoiifopjipfjhaaFm
import Derived.Test.YtoiifopjipfjhaaUs
import Derived.Test.YtoiifopjipfjhaaVk
namespace Go.Proofs.Ytoiifopjipfjhaa
open Go.ChangeShapes Go.WideShapes Go.ChangeAt Go.RowKit Go.Joins
set_option linter.unusedVariables false

set_option maxRecDepth 100000 in
theorem c_DrawStart (A' : Option Addr) (n cap : Nat) (w : World) (L : Nat) (hL : L ≤ w.heap.size) (hc : CodeAt w L A' n cap) : Calls Try.prog 31 #[.slice A' n cap] w (ASetting w) := by
  go_enter Try.func31, Try.ntmps31
  go_wp2_with fail
  obtain ⟨W1, hW1⟩ : ∃ W1, W1 = w.alloc (.cells #[.int .i64 0, .int .i64 0, .int .i64 0] 24) := ⟨_, rfl⟩
  rw [← hW1]
  have hc1 : CodeAt W1 L A' n cap := by rw [hW1]; exact hc.keep (fun k hk => Below.heap_alloc w _ k (by omega))
  have hb1 : Below w.heap.size w W1 := by rw [hW1]; exact bel_alloc (Below.refl _ _) _
  have k1 : Blk W1 w.heap.size 24 #[.int .i64 0, .int .i64 0, .int .i64 0] := by rw [hW1]; exact Blk.new w _ _
  have z1 : w.heap.size + 1 ≤ W1.heap.size := by rw [hW1, alloc_size]; omega
  clear hW1 hc
  refine (c_DrawSettingValid _ _ _ _ L (by omega) hc1).mono ?_
  rintro e w3 ⟨o, l, m, rfl, ho, hl, hm, hb2⟩
  have k4 := k1.below hb2 (by omega)
  have b4 : Below w.heap.size w w3 := hb1.trans (hb2.mono (by omega))
  clear k1 hb1 hb2
  obtain ⟨q0, q1, q2⟩ := k4.cells3
  have f0 := k4.frozen 0
  have f1 := k4.frozen 1
  have f2 := k4.frozen 2
  have k5 : Blk (((w3.setCell ⟨w.heap.size, 0, none⟩ (.int .i64 o)).setCell ⟨w.heap.size, 1, none⟩ (.int .i64 l)).setCell ⟨w.heap.size, 2, none⟩ (.int .i64 m)) w.heap.size 24 #[.int .i64 o, .int .i64 l, .int .i64 m] := ((k4.set_ 0 _).set_ 1 _).set_ 2 _
  obtain ⟨j0, j1, j2⟩ := k5.cells3
  clear k4 k5
  go_wp2
  (try simp only [Exit.inBlock, Exit.then])
  exact bodyPost_ret (v := .agg #[.int .i64 o, .int .i64 l, .int .i64 m]) (by simp [results, Try.results31, go_sem, j0, j1, j2]) rfl ⟨o, l, m, rfl, ho, hl, hm, by (repeat (first | with_reducible (first | assumption | exact Below.refl _ _ | refine bel_alloc ?_ _ | refine bel_drew ?_ | refine bel_drewN ?_ _ | refine bel_set ?_ (by first | omega | (simp; done) | (simp; omega)) _ | refine bel_trans ?_ (by assumption)) | assumption | refine bel_trans ?_ (by assumption)))⟩

theorem start_ok {o l m : Int} (hset : setOk o l m = true) : Kn.Ok ⟨o, l, m, [], 0, -1⟩ := by
  obtain ⟨s1, ⟨s2, s3⟩, s4, s5⟩ := setOk_iff.1 hset
  refine ⟨hset, ?_, fun i p hp => by simp at hp, Int.le_refl _, by simp, .inr ⟨rfl, rfl⟩⟩
  have e1 : ∀ a : Int, 0 ≤ a → pow2 a = ((2 ^ a.toNat : Nat) : Int) := fun a _ => by simp [pow2]
  have hm : (2 : Nat) ^ (l.toNat + 2) ≤ 2 ^ m.toNat := Nat.pow_le_pow_right (by omega) (by omega)
  have hl : (2 : Nat) ^ 1 ≤ 2 ^ l.toNat := Nat.pow_le_pow_right (by omega) (by omega)
  rw [Nat.pow_add] at hm
  show ((0 : Nat) : Int) ≤ pow2 m - 1 - (pow2 l + 1)
  rw [e1 _ (by omega), e1 _ (by omega)]
  omega
theorem nd_pow (k : Nat) (h1 : 1 ≤ k) (h2 : k ≤ 20) : nd (2 ^ k + 1) = k + 1 := by
  have h3 := nd_up (x := 2 ^ k + 1) (k := k + 1) (by omega) (by
    have : 2 ^ 1 ≤ 2 ^ k := Nat.pow_le_pow_right (by omega) h1
    rw [Nat.pow_succ]; omega) (by omega)
  have h4 := nd_down (x := 2 ^ k + 1) (by
    have : 2 ^ k ≤ 2 ^ 20 := Nat.pow_le_pow_right (by omega) h2
    omega)
  have h5 : ¬ nd (2 ^ k + 1) ≤ k := fun h => by
    have : 2 ^ nd (2 ^ k + 1) ≤ 2 ^ k := Nat.pow_le_pow_right (by omega) h
    omega
  omega
theorem start_facts {o l m : Int} (hset : setOk o l m = true) : (⟨o, l, m, [], 0, -1⟩ : Kn).next = pow2 l + 1 + 1 ∧ (⟨o, l, m, [], 0, -1⟩ : Kn).grows = false ∧ (⟨o, l, m, [], 0, -1⟩ : Kn).great = pow2 l + 1 ∧ (⟨o, l, m, [], 0, -1⟩ : Kn).width = l + 1 := by
  obtain ⟨s1, ⟨s2, s3⟩, s4, s5⟩ := setOk_iff.1 hset
  have h1 : (⟨o, l, m, [], 0, -1⟩ : Kn).next = pow2 l + 1 + 1 := by show pow2 l + 2 + ((0 : Nat) : Int) = _; omega
  have h2 : (⟨o, l, m, [], 0, -1⟩ : Kn).grows = false := by simp [Kn.grows]
  have h3 : (⟨o, l, m, [], 0, -1⟩ : Kn).great = pow2 l + 1 := by rw [Kn.great, h2, h1]; simp
  refine ⟨h1, h2, h3, ?_⟩
  have e : (pow2 l + 1).toNat = 2 ^ l.toNat + 1 := by rw [pow2_nat]; generalize 2 ^ l.toNat = N; omega
  rw [Kn.width, h3, e, nd_pow _ (by omega) (by omega)]
  show max (l + 1) (((l.toNat + 1 : Nat) : Int)) = l + 1
  omega
/-- BEHIND -/
theorem cell_keep {v v' : World} (hb : Below v.heap.size v v') (a : Addr) (ha : v.cell? a ≠ none) : v'.cell? a = v.cell? a := by
  have hlt : a.block < v.heap.size := by
    apply Classical.byContradiction
    intro h
    apply ha
    unfold World.cell?
    rw [Array.getElem?_eq_none (by omega)]
  exact World.cell?_of_block (hb.block _ hlt)
theorem t9_of {v v' : World} {a0 a1 a2 a3 a4 a5 a6 a7 a8 : Addr} {x0 x1 x2 x3 x4 x5 x6 x7 x8 : Value} (hk : ∀ a, v.cell? a ≠ none → v'.cell? a = v.cell? a) (h : v.cell? a0 = some x0 ∧ v.cell? a1 = some x1 ∧ v.cell? a2 = some x2 ∧ v.cell? a3 = some x3 ∧ v.cell? a4 = some x4 ∧ v.cell? a5 = some x5 ∧ v.cell? a6 = some x6 ∧ v.cell? a7 = some x7 ∧ v.cell? a8 = some x8 ∧ True) : v'.cell? a0 = some x0 ∧ v'.cell? a1 = some x1 ∧ v'.cell? a2 = some x2 ∧ v'.cell? a3 = some x3 ∧ v'.cell? a4 = some x4 ∧ v'.cell? a5 = some x5 ∧ v'.cell? a6 = some x6 ∧ v'.cell? a7 = some x7 ∧ v'.cell? a8 = some x8 ∧ True := by
  obtain ⟨h0, h1, h2, h3, h4, h5, h6, h7, h8, _⟩ := h
  exact ⟨(hk _ (by simp [h0])).trans h0, (hk _ (by simp [h1])).trans h1, (hk _ (by simp [h2])).trans h2, (hk _ (by simp [h3])).trans h3, (hk _ (by simp [h4])).trans h4, (hk _ (by simp [h5])).trans h5, (hk _ (by simp [h6])).trans h6, (hk _ (by simp [h7])).trans h7, (hk _ (by simp [h8])).trans h8, trivial⟩
theorem t9_mk {v : World} {a0 a1 a2 a3 a4 a5 a6 a7 a8 : Addr} {x0 x1 x2 x3 x4 x5 x6 x7 x8 : Value} (h : v.cell? a0 = some x0 ∧ v.cell? a1 = some x1 ∧ v.cell? a2 = some x2 ∧ v.cell? a3 = some x3 ∧ v.cell? a4 = some x4 ∧ v.cell? a5 = some x5) (k : v.cell? a6 = some x6 ∧ v.cell? a7 = some x7 ∧ v.cell? a8 = some x8) : v.cell? a0 = some x0 ∧ v.cell? a1 = some x1 ∧ v.cell? a2 = some x2 ∧ v.cell? a3 = some x3 ∧ v.cell? a4 = some x4 ∧ v.cell? a5 = some x5 ∧ v.cell? a6 = some x6 ∧ v.cell? a7 = some x7 ∧ v.cell? a8 = some x8 ∧ True :=
  ⟨h.1, h.2.1, h.2.2.1, h.2.2.2.1, h.2.2.2.2.1, h.2.2.2.2.2, k.1, k.2.1, k.2.2, trivial⟩
theorem t9_bel {v v' : World} {a0 a1 a2 a3 a4 a5 a6 a7 a8 : Addr} {x0 x1 x2 x3 x4 x5 x6 x7 x8 : Value} (hb : Below v.heap.size v v') (h : v.cell? a0 = some x0 ∧ v.cell? a1 = some x1 ∧ v.cell? a2 = some x2 ∧ v.cell? a3 = some x3 ∧ v.cell? a4 = some x4 ∧ v.cell? a5 = some x5 ∧ v.cell? a6 = some x6 ∧ v.cell? a7 = some x7 ∧ v.cell? a8 = some x8 ∧ True) : v'.cell? a0 = some x0 ∧ v'.cell? a1 = some x1 ∧ v'.cell? a2 = some x2 ∧ v'.cell? a3 = some x3 ∧ v'.cell? a4 = some x4 ∧ v'.cell? a5 = some x5 ∧ v'.cell? a6 = some x6 ∧ v'.cell? a7 = some x7 ∧ v'.cell? a8 = some x8 ∧ True := t9_of (fun a ha => cell_keep hb a ha) h
theorem t9_drew {v : World} {a0 a1 a2 a3 a4 a5 a6 a7 a8 : Addr} {x0 x1 x2 x3 x4 x5 x6 x7 x8 : Value} (h : v.cell? a0 = some x0 ∧ v.cell? a1 = some x1 ∧ v.cell? a2 = some x2 ∧ v.cell? a3 = some x3 ∧ v.cell? a4 = some x4 ∧ v.cell? a5 = some x5 ∧ v.cell? a6 = some x6 ∧ v.cell? a7 = some x7 ∧ v.cell? a8 = some x8 ∧ True) : v.drew.cell? a0 = some x0 ∧ v.drew.cell? a1 = some x1 ∧ v.drew.cell? a2 = some x2 ∧ v.drew.cell? a3 = some x3 ∧ v.drew.cell? a4 = some x4 ∧ v.drew.cell? a5 = some x5 ∧ v.drew.cell? a6 = some x6 ∧ v.drew.cell? a7 = some x7 ∧ v.drew.cell? a8 = some x8 ∧ True := h
theorem t9_alloc {v : World} {a0 a1 a2 a3 a4 a5 a6 a7 a8 : Addr} {x0 x1 x2 x3 x4 x5 x6 x7 x8 : Value} (h : v.cell? a0 = some x0 ∧ v.cell? a1 = some x1 ∧ v.cell? a2 = some x2 ∧ v.cell? a3 = some x3 ∧ v.cell? a4 = some x4 ∧ v.cell? a5 = some x5 ∧ v.cell? a6 = some x6 ∧ v.cell? a7 = some x7 ∧ v.cell? a8 = some x8 ∧ True) (o : Obj) : (v.alloc o).cell? a0 = some x0 ∧ (v.alloc o).cell? a1 = some x1 ∧ (v.alloc o).cell? a2 = some x2 ∧ (v.alloc o).cell? a3 = some x3 ∧ (v.alloc o).cell? a4 = some x4 ∧ (v.alloc o).cell? a5 = some x5 ∧ (v.alloc o).cell? a6 = some x6 ∧ (v.alloc o).cell? a7 = some x7 ∧ (v.alloc o).cell? a8 = some x8 ∧ True := t9_bel (bel_alloc (Below.refl _ _) o) h

set_option maxHeartbeats 4000000 in
set_option maxRecDepth 100000 in
theorem walk_FnStart (A' : Option Addr) (n cap : Nat) (w : World) (hc : CodeAt w w.heap.size A' n cap) : Calls Try.prog 3 #[.slice A' n cap] w fun e w' => e = .returned (.bool true) ∧ Below w.heap.size w w' := by
  by_cases big : 1048576 < n
  · have h1 := hc.1
    have h2 := hc.2.1
    unfold maxLen at h2
    go_enter Try.func3, Try.ntmps3
    go_wp2_with fail
    go_ret
    exact ⟨rfl, by (repeat (first | with_reducible (first | assumption | exact Below.refl _ _ | refine bel_alloc ?_ _ | refine bel_drew ?_ | refine bel_drewN ?_ _ | refine bel_set ?_ (by first | omega | (simp; done) | (simp; omega)) _ | refine bel_trans ?_ (by assumption)) | assumption | refine bel_trans ?_ (by assumption)))⟩
  · go_enter Try.func3, Try.ntmps3
    go_wp2_with fail
    refine (c_DrawStart _ _ _ _ _ (Nat.le_refl _) hc).mono ?_
    rintro e w1 ⟨o, l, m, rfl, ho, hl, hm, b1⟩
    go_wp2_with fail
    cases h : setOk o l m with
    | true =>
      obtain ⟨s1, ⟨s2, s3⟩, s4, s5⟩ := setOk_iff.1 h
      obtain ⟨f1, f2, f3, f4⟩ := start_facts h
      have hok := start_ok h
      have H1 := hid (show ∀ v : World, Calls Try.prog 32 #[.agg #[.int .i64 o, .int .i64 l, .int .i64 m]] v fun e w' => e = .returned (.tuple #[.agg #[.int .i64 o, .int .i64 l, .int .i64 m, .slice none 0 0, .int .i64 0, .int .i64 (-1)], .bool true]) ∧ Below v.heap.size v w' from fun v => c_Start_yes o l m v h)
      have H2 := hid (show ∀ v : World, Calls Try.prog 33 #[.agg #[.int .i64 o, .int .i64 l, .int .i64 m]] v fun e w' => e = .returned (.tuple #[.agg #[.int .i64 o, .int .i64 l, .int .i64 m, .slice none 0 0, .int .i64 0, .int .i64 (-1)], .bool true]) ∧ Below v.heap.size v w' from fun v => c_sStart_yes o l m v h)
      have HQ := hid (show ∀ v : World, Calls Try.prog 34 #[.agg #[.int .i64 o, .int .i64 l, .int .i64 m, .slice none 0 0, .int .i64 0, .int .i64 (-1)], .agg #[.int .i64 o, .int .i64 l, .int .i64 m, .slice none 0 0, .int .i64 0, .int .i64 (-1)]] v fun e w' => e = .returned (.bool true) ∧ Below v.heap.size v w' from fun v => c_soKnown (⟨o, l, m, [], 0, -1⟩ : Kn) none none 0 0 0 0 v (PsAt.nil v 0) (PsAt.nil v 0) (Nat.zero_le _) (Nat.zero_le _) (by simp))
      have HV := hid (show ∀ v : World, Calls Try.prog 35 #[.agg #[.int .i64 o, .int .i64 l, .int .i64 m]] v fun e w' => e = .returned (.bool true) ∧ Below v.heap.size v w' from fun v => by have := c_SettingValid o l m v; rw [h] at this; exact this)
      have HK := hid (show ∀ v : World, Calls Try.prog 36 #[.agg #[.int .i64 o, .int .i64 l, .int .i64 m, .slice none 0 0, .int .i64 0, .int .i64 (-1)]] v fun e w' => e = .returned (.bool true) ∧ Below v.heap.size v w' from fun v => by have := c_KnownValid_yes (⟨o, l, m, [], 0, -1⟩ : Kn) none 0 0 v (PsAt.nil v 0) (Nat.zero_le _) hok hok.wf; exact this)
      have HN := hid (show ∀ v : World, Calls Try.prog 37 #[.agg #[.int .i64 o, .int .i64 l, .int .i64 m, .slice none 0 0, .int .i64 0, .int .i64 (-1)]] v fun e w' => e = .returned (.int .i64 (pow2 l + 1 + 1)) ∧ Below v.heap.size v w' from fun v => by have := c_NextWord_yes (⟨o, l, m, [], 0, -1⟩ : Kn) none 0 0 v (PsAt.nil v 0) (Nat.zero_le _) hok hok.wf; rw [f1] at this; exact this)
      have HG := hid (show ∀ v : World, Calls Try.prog 39 #[.agg #[.int .i64 o, .int .i64 l, .int .i64 m, .slice none 0 0, .int .i64 0, .int .i64 (-1)]] v fun e w' => e = .returned (.bool false) ∧ Below v.heap.size v w' from fun v => by have := c_Grows_yes (⟨o, l, m, [], 0, -1⟩ : Kn) none 0 0 v (PsAt.nil v 0) (Nat.zero_le _) hok hok.wf; rw [f2] at this; exact this)
      have HD := hid (show ∀ v : World, Calls Try.prog 40 #[.agg #[.int .i64 o, .int .i64 l, .int .i64 m, .slice none 0 0, .int .i64 0, .int .i64 (-1)]] v fun e w' => e = .returned (.int .i64 (l + 1)) ∧ Below v.heap.size v w' from fun v => by have := c_Width_yes (⟨o, l, m, [], 0, -1⟩ : Kn) none 0 0 v (PsAt.nil v 0) (Nat.zero_le _) hok hok.wf; rw [f4] at this; exact this)
      have HT := hid (show ∀ v : World, Calls Try.prog 41 #[.agg #[.int .i64 o, .int .i64 l, .int .i64 m, .slice none 0 0, .int .i64 0, .int .i64 (-1)]] v fun e w' => e = .returned (.int .i64 (pow2 l + 1)) ∧ Below v.heap.size v w' from fun v => by have := c_Greatest_yes (⟨o, l, m, [], 0, -1⟩ : Kn) none 0 0 v (PsAt.nil v 0) (Nat.zero_le _) hok hok.wf; rw [f3] at this; exact this)
      have HE := hid (show ∀ v : World, Calls Try.prog 38 #[.agg #[.int .i64 o, .int .i64 l, .int .i64 m]] v fun e w' => e = .returned (.int .i64 (pow2 l + 1)) ∧ Below v.heap.size v w' from fun v => c_EndCode_yes o l m v h)
      obtain ⟨C, hC⟩ : ∃ C, C = pow2 l := ⟨_, rfl⟩
      have hCb : 0 ≤ C ∧ C ≤ 256 := by have : 2 ≤ pow2 l ∧ pow2 l ≤ 256 ∧ _ := hok.cbd; omega
      simp only [← hC] at HN HT HE
      have ew1 : IntKind.i64.wrap (C + 1 + 1) = C + 1 + 1 := IntWalk.i64_in _ (by omega)
      have ew2 : IntKind.i64.wrap (l + 1) = l + 1 := IntWalk.i64_in _ (by omega)
      clear h f1 f2 f3 f4 hok hC
      have HB0 := hid (Blk.new w1 24 #[.int .i64 o, .int .i64 l, .int .i64 m])
      have hb0 := bel_alloc b1 (.cells #[.int .i64 o, .int .i64 l, .int .i64 m] 24)
      clear b1 hc
      obtain ⟨p0, p1, p2⟩ := HB0.out.cells3
      refine (H1.out _).mono ?_
      rintro e w2 ⟨rfl, hq⟩
      replace HB0 := hid (HB0.out.on hq)
      replace hb0 := bel_trans hb0 hq
      clear hq p0 p1 p2
      obtain ⟨p0, p1, p2⟩ := HB0.out.cells3
      clear p0 p1 p2
      replace HB0 := hid (HB0.out.alloc (.cells #[.int .i64 o, .int .i64 l, .int .i64 m, .slice none 0 0, .int .i64 0, .int .i64 (-1)] 28))
      obtain ⟨p0, p1, p2⟩ := HB0.out.cells3
      have HB1 := hid (Blk.new w2 28 #[.int .i64 o, .int .i64 l, .int .i64 m, .slice none 0 0, .int .i64 0, .int .i64 (-1)])
      obtain ⟨q0, q1, q2, q3, q4, q5⟩ := HB1.out.cells6
      replace hb0 := bel_alloc hb0 (.cells #[.int .i64 o, .int .i64 l, .int .i64 m, .slice none 0 0, .int .i64 0, .int .i64 (-1)] 28)
      go_wp2_with fail
      refine (H2.out _).mono ?_
      rintro e w3 ⟨rfl, hq⟩
      replace HB0 := hid (HB0.out.on hq)
      clear p0 p1 p2
      obtain ⟨p0, p1, p2⟩ := HB0.out.cells3
      replace HB1 := hid (HB1.out.on hq)
      clear q0 q1 q2 q3 q4 q5
      obtain ⟨q0, q1, q2, q3, q4, q5⟩ := HB1.out.cells6
      replace hb0 := bel_trans hb0 hq
      clear hq
      clear p0 p1 p2
      replace HB0 := hid (HB0.out.alloc (.cells #[.int .i64 o, .int .i64 l, .int .i64 m, .slice none 0 0, .int .i64 0, .int .i64 (-1)] 28))
      obtain ⟨p0, p1, p2⟩ := HB0.out.cells3
      clear q0 q1 q2 q3 q4 q5
      replace HB1 := hid (HB1.out.alloc (.cells #[.int .i64 o, .int .i64 l, .int .i64 m, .slice none 0 0, .int .i64 0, .int .i64 (-1)] 28))
      obtain ⟨q0, q1, q2, q3, q4, q5⟩ := HB1.out.cells6
      have HB2 := hid (Blk.new w3 28 #[.int .i64 o, .int .i64 l, .int .i64 m, .slice none 0 0, .int .i64 0, .int .i64 (-1)])
      obtain ⟨r0, r1, r2, r3, r4, r5⟩ := HB2.out.cells6
      replace hb0 := bel_alloc hb0 (.cells #[.int .i64 o, .int .i64 l, .int .i64 m, .slice none 0 0, .int .i64 0, .int .i64 (-1)] 28)
      go_wp2_with fail
      refine (HQ.out _).mono ?_
      rintro e w4 ⟨rfl, hq⟩
      replace HB0 := hid (HB0.out.on hq)
      clear p0 p1 p2
      obtain ⟨p0, p1, p2⟩ := HB0.out.cells3
      replace HB1 := hid (HB1.out.on hq)
      clear q0 q1 q2 q3 q4 q5
      obtain ⟨q0, q1, q2, q3, q4, q5⟩ := HB1.out.cells6
      replace HB2 := hid (HB2.out.on hq)
      clear r0 r1 r2 r3 r4 r5
      obtain ⟨r0, r1, r2, r3, r4, r5⟩ := HB2.out.cells6
      replace hb0 := bel_trans hb0 hq
      clear hq
      go_wp2_with fail
      refine (HV.out _).mono ?_
      rintro e w5 ⟨rfl, hq⟩
      replace HB0 := hid (HB0.out.on hq)
      clear p0 p1 p2
      obtain ⟨p0, p1, p2⟩ := HB0.out.cells3
      replace HB1 := hid (HB1.out.on hq)
      clear q0 q1 q2 q3 q4 q5
      obtain ⟨q0, q1, q2, q3, q4, q5⟩ := HB1.out.cells6
      replace HB2 := hid (HB2.out.on hq)
      clear r0 r1 r2 r3 r4 r5
      obtain ⟨r0, r1, r2, r3, r4, r5⟩ := HB2.out.cells6
      replace hb0 := bel_trans hb0 hq
      clear hq
      have hS := t9_mk HB1.out.cells6 HB0.out.cells3
      go_wp2_with fail
      clear p0 p1 p2 q0 q1 q2 q3 q4 q5 r0 r1 r2 r3 r4 r5
      replace HB0 := hid (HB0.out.on (bel_drew (Below.refl w5.heap.size w5)))
      replace HB1 := hid (HB1.out.on (bel_drew (Below.refl w5.heap.size w5)))
      replace hb0 := bel_drew hb0
      refine wp_region_noPanic ?_
      refine wp_region_held_drew (S := (fun v => v.cell? ⟨w2.heap.size, 0, none⟩ = some (.int .i64 o) ∧ v.cell? ⟨w2.heap.size, 1, none⟩ = some (.int .i64 l) ∧ v.cell? ⟨w2.heap.size, 2, none⟩ = some (.int .i64 m) ∧ v.cell? ⟨w2.heap.size, 3, none⟩ = some (.slice none 0 0) ∧ v.cell? ⟨w2.heap.size, 4, none⟩ = some (.int .i64 0) ∧ v.cell? ⟨w2.heap.size, 5, none⟩ = some (.int .i64 (-1)) ∧ v.cell? ⟨w1.heap.size, 0, none⟩ = some (.int .i64 o) ∧ v.cell? ⟨w1.heap.size, 1, none⟩ = some (.int .i64 l) ∧ v.cell? ⟨w1.heap.size, 2, none⟩ = some (.int .i64 m) ∧ True)) (by kernel_rfl) (t9_drew hS) (fun hHeld => ?_)
      refine tk 0 ?_
      refine wpAnyH_ready (rs := [1]) (by kernel_rfl) (by simp) ?_
      refine AllReadyH.cons (o := ?or1_1) ?ir1_1 (fun K hK => ?sr1_1) AllReadyH.nil
      case ir1_1 => (simp only [List.getElem?_toArray, List.getElem?_cons_succ, List.getElem?_cons_zero]; rfl)
      (first | (go_simp; (first | (go_at_call 36; refine (HK.out _).mono ?_; rintro e wQ ⟨rfl, hbQ⟩; replace HB0 := hid (HB0.out.on hbQ); replace HB1 := hid (HB1.out.on hbQ); replace hb0 := bel_trans hb0 hbQ; clear hbQ) | (go_at_call 37; refine (HN.out _).mono ?_; rintro e wQ ⟨rfl, hbQ⟩; replace HB0 := hid (HB0.out.on hbQ); replace HB1 := hid (HB1.out.on hbQ); replace hb0 := bel_trans hb0 hbQ; clear hbQ) | (go_at_call 38; refine (HE.out _).mono ?_; rintro e wQ ⟨rfl, hbQ⟩; replace HB0 := hid (HB0.out.on hbQ); replace HB1 := hid (HB1.out.on hbQ); replace hb0 := bel_trans hb0 hbQ; clear hbQ) | (go_at_call 39; refine (HG.out _).mono ?_; rintro e wQ ⟨rfl, hbQ⟩; replace HB0 := hid (HB0.out.on hbQ); replace HB1 := hid (HB1.out.on hbQ); replace hb0 := bel_trans hb0 hbQ; clear hbQ) | (go_at_call 40; refine (HD.out _).mono ?_; rintro e wQ ⟨rfl, hbQ⟩; replace HB0 := hid (HB0.out.on hbQ); replace HB1 := hid (HB1.out.on hbQ); replace hb0 := bel_trans hb0 hbQ; clear hbQ) | (go_at_call 41; refine (HT.out _).mono ?_; rintro e wQ ⟨rfl, hbQ⟩; replace HB0 := hid (HB0.out.on hbQ); replace HB1 := hid (HB1.out.on hbQ); replace hb0 := bel_trans hb0 hbQ; clear hbQ) | skip)))
      refine hK.out _ _ ?kr1_1 (fun hHeld => ?_)
      case kr1_1 => (try dsimp only); (first | with_reducible assumption | with_reducible exact t9_mk HB1.out.cells6 HB0.out.cells3 | exact t9_bel (by assumption) (by assumption) | assumption | exact t9_alloc (by assumption) _ | exact t9_mk HB1.out.cells6 HB0.out.cells3)
      clear hK K
      try simp only [Act.put, List.setIfInBounds_toArray, List.set_cons_zero, List.set_cons_succ]
      refine tk 2 ?_
      refine tk 3 ?_
      refine tk 5 ?_
      refine wpAnyH_ready (rs := [4]) (by kernel_rfl) (by simp) ?_
      refine AllReadyH.cons (o := ?or1_4) ?ir1_4 (fun K hK => ?sr1_4) AllReadyH.nil
      case ir1_4 => (simp only [List.getElem?_toArray, List.getElem?_cons_succ, List.getElem?_cons_zero]; rfl)
      (first | (go_simp; (first | (go_at_call 36; refine (HK.out _).mono ?_; rintro e wQ ⟨rfl, hbQ⟩; replace HB0 := hid (HB0.out.on hbQ); replace HB1 := hid (HB1.out.on hbQ); replace hb0 := bel_trans hb0 hbQ; clear hbQ) | (go_at_call 37; refine (HN.out _).mono ?_; rintro e wQ ⟨rfl, hbQ⟩; replace HB0 := hid (HB0.out.on hbQ); replace HB1 := hid (HB1.out.on hbQ); replace hb0 := bel_trans hb0 hbQ; clear hbQ) | (go_at_call 38; refine (HE.out _).mono ?_; rintro e wQ ⟨rfl, hbQ⟩; replace HB0 := hid (HB0.out.on hbQ); replace HB1 := hid (HB1.out.on hbQ); replace hb0 := bel_trans hb0 hbQ; clear hbQ) | (go_at_call 39; refine (HG.out _).mono ?_; rintro e wQ ⟨rfl, hbQ⟩; replace HB0 := hid (HB0.out.on hbQ); replace HB1 := hid (HB1.out.on hbQ); replace hb0 := bel_trans hb0 hbQ; clear hbQ) | (go_at_call 40; refine (HD.out _).mono ?_; rintro e wQ ⟨rfl, hbQ⟩; replace HB0 := hid (HB0.out.on hbQ); replace HB1 := hid (HB1.out.on hbQ); replace hb0 := bel_trans hb0 hbQ; clear hbQ) | (go_at_call 41; refine (HT.out _).mono ?_; rintro e wQ ⟨rfl, hbQ⟩; replace HB0 := hid (HB0.out.on hbQ); replace HB1 := hid (HB1.out.on hbQ); replace hb0 := bel_trans hb0 hbQ; clear hbQ) | skip)))
      refine hK.out _ _ ?kr1_4 (fun hHeld => ?_)
      case kr1_4 => (try dsimp only); (first | with_reducible assumption | with_reducible exact t9_mk HB1.out.cells6 HB0.out.cells3 | exact t9_bel (by assumption) (by assumption) | assumption | exact t9_alloc (by assumption) _ | exact t9_mk HB1.out.cells6 HB0.out.cells3)
      clear hK K
      try simp only [Act.put, List.setIfInBounds_toArray, List.set_cons_zero, List.set_cons_succ]
      refine wpAnyH_ready (rs := [6]) (by kernel_rfl) (by simp) ?_
      refine AllReadyH.cons (o := ?or1_6) ?ir1_6 (fun K hK => ?sr1_6) AllReadyH.nil
      case ir1_6 => (simp only [List.getElem?_toArray, List.getElem?_cons_succ, List.getElem?_cons_zero]; rfl)
      (first | (go_simp; (first | (go_at_call 36; refine (HK.out _).mono ?_; rintro e wQ ⟨rfl, hbQ⟩; replace HB0 := hid (HB0.out.on hbQ); replace HB1 := hid (HB1.out.on hbQ); replace hb0 := bel_trans hb0 hbQ; clear hbQ) | (go_at_call 37; refine (HN.out _).mono ?_; rintro e wQ ⟨rfl, hbQ⟩; replace HB0 := hid (HB0.out.on hbQ); replace HB1 := hid (HB1.out.on hbQ); replace hb0 := bel_trans hb0 hbQ; clear hbQ) | (go_at_call 38; refine (HE.out _).mono ?_; rintro e wQ ⟨rfl, hbQ⟩; replace HB0 := hid (HB0.out.on hbQ); replace HB1 := hid (HB1.out.on hbQ); replace hb0 := bel_trans hb0 hbQ; clear hbQ) | (go_at_call 39; refine (HG.out _).mono ?_; rintro e wQ ⟨rfl, hbQ⟩; replace HB0 := hid (HB0.out.on hbQ); replace HB1 := hid (HB1.out.on hbQ); replace hb0 := bel_trans hb0 hbQ; clear hbQ) | (go_at_call 40; refine (HD.out _).mono ?_; rintro e wQ ⟨rfl, hbQ⟩; replace HB0 := hid (HB0.out.on hbQ); replace HB1 := hid (HB1.out.on hbQ); replace hb0 := bel_trans hb0 hbQ; clear hbQ) | (go_at_call 41; refine (HT.out _).mono ?_; rintro e wQ ⟨rfl, hbQ⟩; replace HB0 := hid (HB0.out.on hbQ); replace HB1 := hid (HB1.out.on hbQ); replace hb0 := bel_trans hb0 hbQ; clear hbQ) | skip)))
      refine hK.out _ _ ?kr1_6 (fun hHeld => ?_)
      case kr1_6 => (try dsimp only); (first | with_reducible assumption | with_reducible exact t9_mk HB1.out.cells6 HB0.out.cells3 | exact t9_bel (by assumption) (by assumption) | assumption | exact t9_alloc (by assumption) _ | exact t9_mk HB1.out.cells6 HB0.out.cells3)
      clear hK K
      try simp only [Act.put, List.setIfInBounds_toArray, List.set_cons_zero, List.set_cons_succ]
      refine tk 7 ?_
      refine tk 8 ?_
      refine tk 9 ?_
      refine tk 10 ?_
      refine tk 11 ?_
      refine wpAnyH_ready (rs := [12]) (by kernel_rfl) (by simp) ?_
      refine AllReadyH.cons (o := ?or1_12) ?ir1_12 (fun K hK => ?sr1_12) AllReadyH.nil
      case ir1_12 => (simp only [List.getElem?_toArray, List.getElem?_cons_succ, List.getElem?_cons_zero]; rfl)
      (first | (go_simp; (first | (go_at_call 36; refine (HK.out _).mono ?_; rintro e wQ ⟨rfl, hbQ⟩; replace HB0 := hid (HB0.out.on hbQ); replace HB1 := hid (HB1.out.on hbQ); replace hb0 := bel_trans hb0 hbQ; clear hbQ) | (go_at_call 37; refine (HN.out _).mono ?_; rintro e wQ ⟨rfl, hbQ⟩; replace HB0 := hid (HB0.out.on hbQ); replace HB1 := hid (HB1.out.on hbQ); replace hb0 := bel_trans hb0 hbQ; clear hbQ) | (go_at_call 38; refine (HE.out _).mono ?_; rintro e wQ ⟨rfl, hbQ⟩; replace HB0 := hid (HB0.out.on hbQ); replace HB1 := hid (HB1.out.on hbQ); replace hb0 := bel_trans hb0 hbQ; clear hbQ) | (go_at_call 39; refine (HG.out _).mono ?_; rintro e wQ ⟨rfl, hbQ⟩; replace HB0 := hid (HB0.out.on hbQ); replace HB1 := hid (HB1.out.on hbQ); replace hb0 := bel_trans hb0 hbQ; clear hbQ) | (go_at_call 40; refine (HD.out _).mono ?_; rintro e wQ ⟨rfl, hbQ⟩; replace HB0 := hid (HB0.out.on hbQ); replace HB1 := hid (HB1.out.on hbQ); replace hb0 := bel_trans hb0 hbQ; clear hbQ) | (go_at_call 41; refine (HT.out _).mono ?_; rintro e wQ ⟨rfl, hbQ⟩; replace HB0 := hid (HB0.out.on hbQ); replace HB1 := hid (HB1.out.on hbQ); replace hb0 := bel_trans hb0 hbQ; clear hbQ) | skip)))
      refine hK.out _ _ ?kr1_12 (fun hHeld => ?_)
      case kr1_12 => (try dsimp only); (first | with_reducible assumption | with_reducible exact t9_mk HB1.out.cells6 HB0.out.cells3 | exact t9_bel (by assumption) (by assumption) | assumption | exact t9_alloc (by assumption) _ | exact t9_mk HB1.out.cells6 HB0.out.cells3)
      clear hK K
      try simp only [Act.put, List.setIfInBounds_toArray, List.set_cons_zero, List.set_cons_succ]
      refine tk 13 ?_
      refine tk 14 ?_
      refine tk 15 ?_
      refine tk 16 ?_
      refine tk 18 ?_
      refine tk 19 ?_
      refine tk 20 ?_
      refine wpAnyH_ready (rs := [17]) (by kernel_rfl) (by simp) ?_
      refine AllReadyH.cons (o := ?or1_17) ?ir1_17 (fun K hK => ?sr1_17) AllReadyH.nil
      case ir1_17 => (simp only [List.getElem?_toArray, List.getElem?_cons_succ, List.getElem?_cons_zero]; rfl)
      (first | (go_simp; (first | (go_at_call 36; refine (HK.out _).mono ?_; rintro e wQ ⟨rfl, hbQ⟩; replace HB0 := hid (HB0.out.on hbQ); replace HB1 := hid (HB1.out.on hbQ); replace hb0 := bel_trans hb0 hbQ; clear hbQ) | (go_at_call 37; refine (HN.out _).mono ?_; rintro e wQ ⟨rfl, hbQ⟩; replace HB0 := hid (HB0.out.on hbQ); replace HB1 := hid (HB1.out.on hbQ); replace hb0 := bel_trans hb0 hbQ; clear hbQ) | (go_at_call 38; refine (HE.out _).mono ?_; rintro e wQ ⟨rfl, hbQ⟩; replace HB0 := hid (HB0.out.on hbQ); replace HB1 := hid (HB1.out.on hbQ); replace hb0 := bel_trans hb0 hbQ; clear hbQ) | (go_at_call 39; refine (HG.out _).mono ?_; rintro e wQ ⟨rfl, hbQ⟩; replace HB0 := hid (HB0.out.on hbQ); replace HB1 := hid (HB1.out.on hbQ); replace hb0 := bel_trans hb0 hbQ; clear hbQ) | (go_at_call 40; refine (HD.out _).mono ?_; rintro e wQ ⟨rfl, hbQ⟩; replace HB0 := hid (HB0.out.on hbQ); replace HB1 := hid (HB1.out.on hbQ); replace hb0 := bel_trans hb0 hbQ; clear hbQ) | (go_at_call 41; refine (HT.out _).mono ?_; rintro e wQ ⟨rfl, hbQ⟩; replace HB0 := hid (HB0.out.on hbQ); replace HB1 := hid (HB1.out.on hbQ); replace hb0 := bel_trans hb0 hbQ; clear hbQ) | skip)))
      refine hK.out _ _ ?kr1_17 (fun hHeld => ?_)
      case kr1_17 => (try dsimp only); (first | with_reducible assumption | with_reducible exact t9_mk HB1.out.cells6 HB0.out.cells3 | exact t9_bel (by assumption) (by assumption) | assumption | exact t9_alloc (by assumption) _ | exact t9_mk HB1.out.cells6 HB0.out.cells3)
      clear hK K
      try simp only [Act.put, List.setIfInBounds_toArray, List.set_cons_zero, List.set_cons_succ]
      refine tk 21 ?_
      refine tk 22 ?_
      refine tk 23 ?_
      refine tk 24 ?_
      refine tk 26 ?_
      refine wpAnyH_ready (rs := [25]) (by kernel_rfl) (by simp) ?_
      refine AllReadyH.cons (o := ?or1_25) ?ir1_25 (fun K hK => ?sr1_25) AllReadyH.nil
      case ir1_25 => (simp only [List.getElem?_toArray, List.getElem?_cons_succ, List.getElem?_cons_zero]; rfl)
      (first | (go_simp; (first | (go_at_call 36; refine (HK.out _).mono ?_; rintro e wQ ⟨rfl, hbQ⟩; replace HB0 := hid (HB0.out.on hbQ); replace HB1 := hid (HB1.out.on hbQ); replace hb0 := bel_trans hb0 hbQ; clear hbQ) | (go_at_call 37; refine (HN.out _).mono ?_; rintro e wQ ⟨rfl, hbQ⟩; replace HB0 := hid (HB0.out.on hbQ); replace HB1 := hid (HB1.out.on hbQ); replace hb0 := bel_trans hb0 hbQ; clear hbQ) | (go_at_call 38; refine (HE.out _).mono ?_; rintro e wQ ⟨rfl, hbQ⟩; replace HB0 := hid (HB0.out.on hbQ); replace HB1 := hid (HB1.out.on hbQ); replace hb0 := bel_trans hb0 hbQ; clear hbQ) | (go_at_call 39; refine (HG.out _).mono ?_; rintro e wQ ⟨rfl, hbQ⟩; replace HB0 := hid (HB0.out.on hbQ); replace HB1 := hid (HB1.out.on hbQ); replace hb0 := bel_trans hb0 hbQ; clear hbQ) | (go_at_call 40; refine (HD.out _).mono ?_; rintro e wQ ⟨rfl, hbQ⟩; replace HB0 := hid (HB0.out.on hbQ); replace HB1 := hid (HB1.out.on hbQ); replace hb0 := bel_trans hb0 hbQ; clear hbQ) | (go_at_call 41; refine (HT.out _).mono ?_; rintro e wQ ⟨rfl, hbQ⟩; replace HB0 := hid (HB0.out.on hbQ); replace HB1 := hid (HB1.out.on hbQ); replace hb0 := bel_trans hb0 hbQ; clear hbQ) | skip)))
      refine hK.out _ _ ?kr1_25 (fun hHeld => ?_)
      case kr1_25 => (try dsimp only); (first | with_reducible assumption | with_reducible exact t9_mk HB1.out.cells6 HB0.out.cells3 | exact t9_bel (by assumption) (by assumption) | assumption | exact t9_alloc (by assumption) _ | exact t9_mk HB1.out.cells6 HB0.out.cells3)
      clear hK K
      try simp only [Act.put, List.setIfInBounds_toArray, List.set_cons_zero, List.set_cons_succ]
      refine wpAnyH_ready (rs := [27]) (by kernel_rfl) (by simp) ?_
      refine AllReadyH.cons (o := ?or1_27) ?ir1_27 (fun K hK => ?sr1_27) AllReadyH.nil
      case ir1_27 => (simp only [List.getElem?_toArray, List.getElem?_cons_succ, List.getElem?_cons_zero]; rfl)
      (first | (go_simp; (first | (go_at_call 36; refine (HK.out _).mono ?_; rintro e wQ ⟨rfl, hbQ⟩; replace HB0 := hid (HB0.out.on hbQ); replace HB1 := hid (HB1.out.on hbQ); replace hb0 := bel_trans hb0 hbQ; clear hbQ) | (go_at_call 37; refine (HN.out _).mono ?_; rintro e wQ ⟨rfl, hbQ⟩; replace HB0 := hid (HB0.out.on hbQ); replace HB1 := hid (HB1.out.on hbQ); replace hb0 := bel_trans hb0 hbQ; clear hbQ) | (go_at_call 38; refine (HE.out _).mono ?_; rintro e wQ ⟨rfl, hbQ⟩; replace HB0 := hid (HB0.out.on hbQ); replace HB1 := hid (HB1.out.on hbQ); replace hb0 := bel_trans hb0 hbQ; clear hbQ) | (go_at_call 39; refine (HG.out _).mono ?_; rintro e wQ ⟨rfl, hbQ⟩; replace HB0 := hid (HB0.out.on hbQ); replace HB1 := hid (HB1.out.on hbQ); replace hb0 := bel_trans hb0 hbQ; clear hbQ) | (go_at_call 40; refine (HD.out _).mono ?_; rintro e wQ ⟨rfl, hbQ⟩; replace HB0 := hid (HB0.out.on hbQ); replace HB1 := hid (HB1.out.on hbQ); replace hb0 := bel_trans hb0 hbQ; clear hbQ) | (go_at_call 41; refine (HT.out _).mono ?_; rintro e wQ ⟨rfl, hbQ⟩; replace HB0 := hid (HB0.out.on hbQ); replace HB1 := hid (HB1.out.on hbQ); replace hb0 := bel_trans hb0 hbQ; clear hbQ) | skip)))
      refine hK.out _ _ ?kr1_27 (fun hHeld => ?_)
      case kr1_27 => (try dsimp only); (first | with_reducible assumption | with_reducible exact t9_mk HB1.out.cells6 HB0.out.cells3 | exact t9_bel (by assumption) (by assumption) | assumption | exact t9_alloc (by assumption) _ | exact t9_mk HB1.out.cells6 HB0.out.cells3)
      clear hK K
      try simp only [Act.put, List.setIfInBounds_toArray, List.set_cons_zero, List.set_cons_succ]
      refine tk 28 ?_
      refine tk 29 ?_
      refine tk 30 ?_
      refine wpAnyH_done (by kernel_rfl) ?_ _
      refine NoPanic.normal ?_
      go_wp2
      go_ret
      exact ⟨rfl, hb0⟩
    | false =>
      have H1 := hid (show ∀ v : World, Calls Try.prog 32 #[.agg #[.int .i64 o, .int .i64 l, .int .i64 m]] v fun e w' => e = .returned (.tuple #[.agg #[.int .i64 0, .int .i64 0, .int .i64 0, .slice none 0 0, .int .i64 0, .int .i64 0], .bool false]) ∧ Below v.heap.size v w' from fun v => c_Start_no o l m v h)
      have H2 := hid (show ∀ v : World, Calls Try.prog 33 #[.agg #[.int .i64 o, .int .i64 l, .int .i64 m]] v fun e w' => e = .returned (.tuple #[.agg #[.int .i64 0, .int .i64 0, .int .i64 0, .slice none 0 0, .int .i64 0, .int .i64 0], .bool false]) ∧ Below v.heap.size v w' from fun v => c_sStart_no o l m v h)
      have HQ := hid (show ∀ v : World, Calls Try.prog 34 #[.agg #[.int .i64 0, .int .i64 0, .int .i64 0, .slice none 0 0, .int .i64 0, .int .i64 0], .agg #[.int .i64 0, .int .i64 0, .int .i64 0, .slice none 0 0, .int .i64 0, .int .i64 0]] v fun e w' => e = .returned (.bool true) ∧ Below v.heap.size v w' from fun v => c_soKnown (⟨0, 0, 0, [], 0, 0⟩ : Kn) none none 0 0 0 0 v (PsAt.nil v 0) (PsAt.nil v 0) (Nat.zero_le _) (Nat.zero_le _) (by simp))
      have HV := hid (show ∀ v : World, Calls Try.prog 35 #[.agg #[.int .i64 o, .int .i64 l, .int .i64 m]] v fun e w' => e = .returned (.bool false) ∧ Below v.heap.size v w' from fun v => by have := c_SettingValid o l m v; rw [h] at this; exact this)
      clear h
      have HB0 := hid (Blk.new w1 24 #[.int .i64 o, .int .i64 l, .int .i64 m])
      have hb0 := bel_alloc b1 (.cells #[.int .i64 o, .int .i64 l, .int .i64 m] 24)
      clear b1 hc
      obtain ⟨p0, p1, p2⟩ := HB0.out.cells3
      refine (H1.out _).mono ?_
      rintro e w2 ⟨rfl, hq⟩
      replace HB0 := hid (HB0.out.on hq)
      replace hb0 := bel_trans hb0 hq
      clear hq p0 p1 p2
      obtain ⟨p0, p1, p2⟩ := HB0.out.cells3
      clear p0 p1 p2
      replace HB0 := hid (HB0.out.alloc (.cells #[.int .i64 0, .int .i64 0, .int .i64 0, .slice none 0 0, .int .i64 0, .int .i64 0] 28))
      obtain ⟨p0, p1, p2⟩ := HB0.out.cells3
      have HB1 := hid (Blk.new w2 28 #[.int .i64 0, .int .i64 0, .int .i64 0, .slice none 0 0, .int .i64 0, .int .i64 0])
      obtain ⟨q0, q1, q2, q3, q4, q5⟩ := HB1.out.cells6
      replace hb0 := bel_alloc hb0 (.cells #[.int .i64 0, .int .i64 0, .int .i64 0, .slice none 0 0, .int .i64 0, .int .i64 0] 28)
      go_wp2_with fail
      refine (H2.out _).mono ?_
      rintro e w3 ⟨rfl, hq⟩
      replace HB0 := hid (HB0.out.on hq)
      clear p0 p1 p2
      obtain ⟨p0, p1, p2⟩ := HB0.out.cells3
      replace HB1 := hid (HB1.out.on hq)
      clear q0 q1 q2 q3 q4 q5
      obtain ⟨q0, q1, q2, q3, q4, q5⟩ := HB1.out.cells6
      replace hb0 := bel_trans hb0 hq
      clear hq
      clear p0 p1 p2
      replace HB0 := hid (HB0.out.alloc (.cells #[.int .i64 0, .int .i64 0, .int .i64 0, .slice none 0 0, .int .i64 0, .int .i64 0] 28))
      obtain ⟨p0, p1, p2⟩ := HB0.out.cells3
      clear q0 q1 q2 q3 q4 q5
      replace HB1 := hid (HB1.out.alloc (.cells #[.int .i64 0, .int .i64 0, .int .i64 0, .slice none 0 0, .int .i64 0, .int .i64 0] 28))
      obtain ⟨q0, q1, q2, q3, q4, q5⟩ := HB1.out.cells6
      have HB2 := hid (Blk.new w3 28 #[.int .i64 0, .int .i64 0, .int .i64 0, .slice none 0 0, .int .i64 0, .int .i64 0])
      obtain ⟨r0, r1, r2, r3, r4, r5⟩ := HB2.out.cells6
      replace hb0 := bel_alloc hb0 (.cells #[.int .i64 0, .int .i64 0, .int .i64 0, .slice none 0 0, .int .i64 0, .int .i64 0] 28)
      go_wp2_with fail
      refine (HQ.out _).mono ?_
      rintro e w4 ⟨rfl, hq⟩
      replace HB0 := hid (HB0.out.on hq)
      clear p0 p1 p2
      obtain ⟨p0, p1, p2⟩ := HB0.out.cells3
      replace HB1 := hid (HB1.out.on hq)
      clear q0 q1 q2 q3 q4 q5
      obtain ⟨q0, q1, q2, q3, q4, q5⟩ := HB1.out.cells6
      replace HB2 := hid (HB2.out.on hq)
      clear r0 r1 r2 r3 r4 r5
      obtain ⟨r0, r1, r2, r3, r4, r5⟩ := HB2.out.cells6
      replace hb0 := bel_trans hb0 hq
      clear hq
      go_wp2_with fail
      refine (HV.out _).mono ?_
      rintro e w5 ⟨rfl, hq⟩
      replace HB0 := hid (HB0.out.on hq)
      clear p0 p1 p2
      obtain ⟨p0, p1, p2⟩ := HB0.out.cells3
      replace HB1 := hid (HB1.out.on hq)
      clear q0 q1 q2 q3 q4 q5
      obtain ⟨q0, q1, q2, q3, q4, q5⟩ := HB1.out.cells6
      replace HB2 := hid (HB2.out.on hq)
      clear r0 r1 r2 r3 r4 r5
      obtain ⟨r0, r1, r2, r3, r4, r5⟩ := HB2.out.cells6
      replace hb0 := bel_trans hb0 hq
      clear hq
      go_wp2_with fail
      refine (HQ.out _).mono ?_
      rintro e w6 ⟨rfl, hq⟩
      replace HB0 := hid (HB0.out.on hq)
      clear p0 p1 p2
      obtain ⟨p0, p1, p2⟩ := HB0.out.cells3
      replace HB1 := hid (HB1.out.on hq)
      clear q0 q1 q2 q3 q4 q5
      obtain ⟨q0, q1, q2, q3, q4, q5⟩ := HB1.out.cells6
      replace HB2 := hid (HB2.out.on hq)
      clear r0 r1 r2 r3 r4 r5
      obtain ⟨r0, r1, r2, r3, r4, r5⟩ := HB2.out.cells6
      replace hb0 := bel_trans hb0 hq
      clear hq
      go_wp2_with fail
      refine (HV.out _).mono ?_
      rintro e w7 ⟨rfl, hq⟩
      replace HB0 := hid (HB0.out.on hq)
      clear p0 p1 p2
      obtain ⟨p0, p1, p2⟩ := HB0.out.cells3
      replace HB1 := hid (HB1.out.on hq)
      clear q0 q1 q2 q3 q4 q5
      obtain ⟨q0, q1, q2, q3, q4, q5⟩ := HB1.out.cells6
      replace HB2 := hid (HB2.out.on hq)
      clear r0 r1 r2 r3 r4 r5
      obtain ⟨r0, r1, r2, r3, r4, r5⟩ := HB2.out.cells6
      replace hb0 := bel_trans hb0 hq
      clear hq
      go_wp2
      go_ret
      exact ⟨rfl, hb0⟩
end Go.Proofs.Ytoiifopjipfjhaa
