/- Contracts of the model's own drawing of arguments: what a source of numbers answers. -/
import Derived.Test.YtlekjmgjnnljcaaChecked
import Derived.Test.YtlekjmgjnnljcaaBa
namespace Go.Proofs.Ytlekjmgjnnljcaa
open Go.ChangeShapes Go.WideShapes Go.ChangeAt Go.RowKit Go.Joins
set_option linter.unusedVariables false

/-- In world w block B is the source: a readable slice of bytes below block L, and a position not greater than q. -/
def Rd (T : TypeId) (w : World) (L B q : Nat) : Prop := ∃ A n cap p, Blk w B T #[.slice A n cap, .int .i64 p] ∧ CodeAt w L A n cap ∧ n ≤ 2000 ∧ L ≤ B ∧ 0 ≤ p ∧ p ≤ q

theorem CodeAt.cut {w : World} {L n cap : Nat} {A : Option Addr} (h : CodeAt w L A n cap) (m : Nat) (hm : m ≤ n) : CodeAt w L A m cap :=
  ⟨by have := h.1; omega, h.2.1, fun h0 => by
    obtain ⟨b, off, e, hb, hc⟩ := h.2.2 (by omega)
    exact ⟨b, off, e, hb, fun i hi => hc i (by omega)⟩⟩

theorem c_l9Open (A' : Option Addr) (n cap L : Nat) (w : World) (hc : CodeAt w L A' n cap) (hL : L ≤ w.heap.size) : Calls Try.prog 17 #[.slice A' n cap] w fun e w' => e = .returned (.pointer (some ⟨w.heap.size, 0, none⟩)) ∧ Rd 51 w' L w.heap.size 0 ∧ Below w.heap.size w w' ∧ w.heap.size < w'.heap.size := by
  have h1 := hc.1
  have h2 := hc.2.1
  unfold maxLen at h2
  by_cases h : 2000 < n
  · go_enter Try.func17, Try.ntmps17
    go_wp2
    go_ret
    exact ⟨rfl, ⟨_, _, _, _, Blk.new _ _ _, (hc.cut 2000 (by omega)).keep (fun k hk => Below.heap_alloc w _ k (by omega)), by omega, hL, by omega, by omega⟩, by (repeat (first | with_reducible (first | assumption | exact Below.refl _ _ | refine bel_alloc ?_ _ | refine bel_drew ?_ | refine bel_drewN ?_ _ | refine bel_set ?_ (by first | omega | (simp; done) | (simp; omega)) _ | refine bel_trans ?_ (by assumption)) | assumption | refine bel_trans ?_ (by assumption))), by simp⟩
  · go_enter Try.func17, Try.ntmps17
    go_wp2
    go_ret
    exact ⟨rfl, ⟨_, _, _, _, Blk.new _ _ _, hc.keep (fun k hk => Below.heap_alloc w _ k (by omega)), by omega, hL, by omega, by omega⟩, by (repeat (first | with_reducible (first | assumption | exact Below.refl _ _ | refine bel_alloc ?_ _ | refine bel_drew ?_ | refine bel_drewN ?_ _ | refine bel_set ?_ (by first | omega | (simp; done) | (simp; omega)) _ | refine bel_trans ?_ (by assumption)) | assumption | refine bel_trans ?_ (by assumption))), by simp⟩

theorem tmod_bd (z n : Int) (h0 : 0 ≤ z) (h1 : 1 ≤ n) : 0 ≤ z.tmod n ∧ z.tmod n < n := by
  rw [Int.tmod_eq_emod_of_nonneg h0]; exact ⟨Int.emod_nonneg _ (by omega), Int.emod_lt_of_pos _ (by omega)⟩
theorem xor_nn (a b : Int) (ha : 0 ≤ a) (ha2 : a ≤ 9223372036854775807) (hb : 0 ≤ b) (hb2 : b ≤ 9223372036854775807) : 0 ≤ bits .xor .i64 a b ∧ bits .xor .i64 a b ≤ 9223372036854775807 := by
  have e1 : (BitVec.ofInt 64 a).toNat = a.toNat := by rw [BitVec.toNat_ofInt]; omega
  have e2 : (BitVec.ofInt 64 b).toNat = b.toNat := by rw [BitVec.toNat_ofInt]; omega
  have e : bits .xor .i64 a b = IntKind.i64.wrap (((BitVec.ofInt 64 a ^^^ BitVec.ofInt 64 b).toNat : Nat) : Int) := rfl
  have h := Nat.xor_lt_two_pow (x := a.toNat) (y := b.toNat) (n := 63) (by omega) (by omega)
  rw [e, BitVec.toNat_xor, e1, e2, IntWalk.i64_in _ (by omega)]; omega

theorem pick_bd (v1 v2 P m n : Int) (a0 : 0 ≤ v1) (a1 : v1 ≤ 255) (b0 : 0 ≤ v2) (b1 : v2 ≤ 255) (p0 : 0 ≤ P) (p1 : P ≤ 1000000000000) (m1 : 1 ≤ m) (n1 : 1 ≤ n) :
    0 ≤ (bits .xor .i64 (wrap64 (v1 * 131 + v2 * 1117 + P * 29 + wrap64 (wrap64 (P / m) * 53))) (wrap64 ((wrap64 (v1 * 131 + v2 * 1117 + P * 29 + wrap64 (wrap64 (P / m) * 53))).tdiv 64))).tmod n ∧
    (bits .xor .i64 (wrap64 (v1 * 131 + v2 * 1117 + P * 29 + wrap64 (wrap64 (P / m) * 53))) (wrap64 ((wrap64 (v1 * 131 + v2 * 1117 + P * 29 + wrap64 (wrap64 (P / m) * 53))).tdiv 64))).tmod n < n := by
  have hd0 : 0 ≤ P / m := Int.ediv_nonneg p0 (by omega)
  have hd1 : P / m ≤ P := Int.ediv_le_self _ p0
  generalize P / m = D at *
  rw [IntWalk.wrap64_in D (by omega), IntWalk.wrap64_in (D * 53) (by omega), IntWalk.wrap64_in (v1 * 131 + v2 * 1117 + P * 29 + D * 53) (by omega)]
  have hZ : 0 ≤ v1 * 131 + v2 * 1117 + P * 29 + D * 53 ∧ v1 * 131 + v2 * 1117 + P * 29 + D * 53 ≤ 100000000000000 := by omega
  generalize v1 * 131 + v2 * 1117 + P * 29 + D * 53 = Z at *
  rw [Int.tdiv_eq_ediv_of_nonneg hZ.1, IntWalk.wrap64_in (Z / 64) (by omega)]
  exact tmod_bd _ _ (xor_nn _ _ hZ.1 (by omega) (by omega) (by omega)).1 n1

/-- what a draw of a number below n answers -/
def Pick (T : TypeId) (w : World) (L B q : Nat) (n : Int) (e : Ending) (w' : World) : Prop := ∃ r : Int, e = .returned (.int .i64 r) ∧ 0 ≤ r ∧ (1 ≤ n → r < n) ∧ (n < 1 → r = 0) ∧ Rd T w' L B (q + 1) ∧ w.grownBy w' (some B)

theorem rd_step {T : TypeId} {w : World} {L B q : Nat} {A : Option Addr} {n cap : Nat} {p : Int} (hb : Blk w B T #[.slice A n cap, .int .i64 p]) (hc : CodeAt w L A n cap) (hn : n ≤ 2000) (hL : L ≤ B) (h0 : 0 ≤ p) (h1 : p ≤ q) (k : Nat) :
    Rd T ((w.setCell ⟨B, 1, none⟩ (.int .i64 (p + 1))).drewN k) L B (q + 1) ∧ w.grownBy ((w.setCell ⟨B, 1, none⟩ (.int .i64 (p + 1))).drewN k) (some B) := by
  refine ⟨⟨A, n, cap, p + 1, (hb.set_ 1 (.int .i64 (p + 1))).drewN k, ?_, hn, hL, by omega, by omega⟩, grown_drewN (grown_set (grown_refl w _) 1 _) k⟩
  exact CodeAt.keep hc (fun j hj => Below.heap_setCell w _ _ j (by simp; try omega))

theorem c_pick (L B q : Nat) (n : Int) (w : World) (hr : Rd 51 w L B q) (hq : q ≤ 1000000000000) (hn : n ≤ 9223372036854775807) :
    Calls Try.prog 21 #[.pointer (some ⟨B, 0, none⟩), .int .i64 n] w (Pick 51 w L B q n) := by
  obtain ⟨A', m, cap, p, hb, hc, hm, hL, h0, h1⟩ := hr
  obtain ⟨P, rfl⟩ := Int.eq_ofNat_of_zero_le h0
  have hS := hid (rd_step hb hc hm hL h0 h1)
  obtain ⟨c0, c1⟩ := hb.cells2
  have f0 := hb.frozen 1
  have hP : P ≤ 1000000000000 := by omega
  have hlt := hb.lt
  by_cases hn1 : n < 1
  · clear hb
    go_enter Try.func21, Try.ntmps21
    go_wp2
    go_ret
    exact ⟨0, rfl, by omega, by omega, fun _ => rfl, (hS.out 0).1, (hS.out 0).2⟩
  · by_cases hm0 : m = 0
    · subst hm0
      clear hb
      go_enter Try.func21, Try.ntmps21
      go_wp2
      go_ret
      exact ⟨0, rfl, by omega, by omega, fun _ => rfl, (hS.out 0).1, (hS.out 0).2⟩
    · obtain ⟨cb, off, rfl, hcb, hcells⟩ := hc.2.2 (by omega)
      have hne : (((m : Int)) == 0) = false := eq_no (by omega)
      by_cases hk : P < m
      · obtain ⟨v, hv, hv0, hv1⟩ := hcells P hk
        have hv2 : (w.setCell ⟨B, 1, none⟩ (.int .i64 ((P : Int) + 1))).cell? ⟨cb, off + P, none⟩ = some (.int .u8 v) := by
          rw [World.cell?_setCell_other _ _ _ _ (by simp; try omega)]; exact hv
        clear hb hcells hv
        go_enter Try.func21, Try.ntmps21
        go_wp2
        go_ret
        exact ⟨v % n, rfl, Int.emod_nonneg _ (by omega), fun _ => Int.emod_lt_of_pos _ (by omega), fun h => absurd h (by omega), (hS.out 0).1, (hS.out 0).2⟩
      · have hi1 : P % m < m := Nat.mod_lt _ (by omega)
        have hi2 : (P * 7 + 3) % m < m := Nat.mod_lt _ (by omega)
        obtain ⟨v1, hv1, hv10, hv11⟩ := hcells _ hi1
        obtain ⟨v2, hv2, hv20, hv21⟩ := hcells _ hi2
        have ho1 : (w.setCell ⟨B, 1, none⟩ (.int .i64 ((P : Int) + 1))).cell? ⟨cb, off + P % m, none⟩ = some (.int .u8 v1) := by
          rw [World.cell?_setCell_other _ _ _ _ (by simp; try omega)]; exact hv1
        have ho2 : (w.setCell ⟨B, 1, none⟩ (.int .i64 ((P : Int) + 1))).cell? ⟨cb, off + (P * 7 + 3) % m, none⟩ = some (.int .u8 v2) := by
          rw [World.cell?_setCell_other _ _ _ _ (by simp; try omega)]; exact hv2
        have hi3 : (P : Int) % (m : Int) < (m : Int) := by omega
        have hi4 : ((P : Int) * 7 + 3) % (m : Int) < (m : Int) := Int.emod_lt_of_pos _ (by omega)
        have hi5 : 0 ≤ ((P : Int) * 7 + 3) % (m : Int) := Int.emod_nonneg _ (by omega)
        have hi6 : 0 ≤ (P : Int) % (m : Int) := Int.emod_nonneg _ (by omega)
        clear hb hcells hv1 hv2
        go_enter Try.func21, Try.ntmps21
        go_wp2_with fail
        go_quiet (fail)
        go_wp2
        go_ret
        have hz := pick_bd v1 v2 (P : Int) (m : Int) n hv10 hv11 hv20 hv21 (by omega) (by omega) (by omega) (by omega)
        exact ⟨_, rfl, hz.1, fun _ => hz.2, fun h => absurd h (by omega), (hS.out _).1, (hS.out _).2⟩
end Go.Proofs.Ytlekjmgjnnljcaa
