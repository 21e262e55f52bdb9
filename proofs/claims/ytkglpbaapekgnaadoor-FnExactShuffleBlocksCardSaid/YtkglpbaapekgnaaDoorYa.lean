/- ContainerSize and CountRaw in the model. -/
import Derived.Test.YtkglpbaapekgnaaDoorYb
namespace Go.Proofs.YtkglpbaapekgnaaDoor
open Go.ChangeShapes Go.WideShapes Go.ChangeAt Go.RowKit Go.Joins
set_option linter.unusedVariables false
set_option linter.unusedSimpArgs false

theorem zs_take_succ (l : List Bl) (k : Nat) (h : k < l.length) : zs (l.take (k + 1)) = zs (l.take k) + l[k].z.toNat := by
  rw [List.take_succ_eq_append_getElem h, zs_snoc]
/-- how many of some blocks are raw -/
def raws : List Bl → Nat
  | [] => 0
  | b :: l => (if b.raw then 1 else 0) + raws l
theorem raws_app (l r : List Bl) : raws (l ++ r) = raws l + raws r := by
  induction l with
  | nil => simp [raws]
  | cons b l ih => simp only [List.cons_append, raws, ih]; omega
theorem raws_take_succ (l : List Bl) (k : Nat) (h : k < l.length) : raws (l.take (k + 1)) = raws (l.take k) + (if l[k].raw then 1 else 0) := by
  rw [List.take_succ_eq_append_getElem h, raws_app]; simp [raws]
theorem raws_le (l : List Bl) : raws l ≤ l.length := by
  induction l with
  | nil => simp [raws]
  | cons b l ih => simp only [raws, List.length_cons]; split <;> omega

theorem c_l5Size (A : Option Addr) (cap : Nat) (l : List Bl) (L : Nat) (w : World) (h : BlsAt w L A cap l) (hn : l.length ≤ 40) (hz : ∀ b ∈ l, 1 ≤ b.z ∧ b.z ≤ 64) : Calls Tryd.prog 50 #[.slice A l.length cap] w (Same (.int .i64 ((zs l : Nat) : Int)) w) := by
  obtain ⟨N, hN⟩ : ∃ N, N = l.length := ⟨_, rfl⟩
  have HN := hid hN
  rw [← hN] at hn ⊢
  clear hN
  have HH := hid h
  clear h
  go_enter Tryd.func50, Tryd.ntmps50
  go_wp2_with fail
  go_loop [3, 4] (fun t i => ∃ (k : Nat) (s : Nat), k ≤ N ∧ i = .int .i64 k ∧ t = .int .i64 (s : Int) ∧ Hid (s = zs (l.take k)) ∧ s ≤ 64 * k) (fun _ i => N - (intOf i).toNat)
  case atStart => exact ⟨0, 0, Nat.zero_le _, rfl, rfl, hid rfl, by omega⟩
  case round =>
    obtain ⟨k, s, hk, rfl, rfl, HS, hs⟩ := hrel
    by_cases hlt : k < N
    · have hlt2 : k < l.length := by have := HN.out; omega
      obtain ⟨b, off, rfl, hb, hc0, hc1, hc2, hc3⟩ := bl_at HH.out k hlt2
      have hzk := hz _ (List.getElem_mem hlt2)
      obtain ⟨z, hzz⟩ : ∃ z, z = l[k].z := ⟨_, rfl⟩
      rw [← hzz] at hc2 hzk
      obtain ⟨m, rfl⟩ := Int.eq_ofNat_of_zero_le (show 0 ≤ z by omega)
      have HS2 := hid (show s + m = zs (l.take (k + 1)) by rw [zs_take_succ l k hlt2, ← HS.out, ← hzz]; rfl)
      clear hzz hc0 hc1 hc3
      go_wp2
      go_round
      case rel => exact ⟨k + 1, s + m, by omega, by go_num, by go_num, HS2, by omega⟩
      case measure => simp [intOf]; omega
    · have HE := hid (show s = zs l by rw [HS.out, List.take_of_length_le (by have := HN.out; omega)])
      go_wp2
      go_ret
      exact ⟨by rw [HE.out]; rfl, rfl⟩

theorem Rdg.zOk {L : List UInt8} {bs : List Bl} (h : Rdg L bs) : ∀ b ∈ bs, 1 ≤ b.z ∧ b.z ≤ 64 := fun b hb => by
  obtain ⟨i, hi, rfl⟩ := List.getElem_of_mem hb
  exact (h.1 i bs[i] (List.getElem?_eq_getElem hi)).1.2.1

theorem c_sContainerSize (S : ByteArray) (L : List UInt8) (bs : List Bl) (c : Nat) (w : World) (hS : S.size ≤ 1000000000000) (hL : L = S.data.toList) (hst : Stop L bs c) : Calls Tryd.prog 17 #[.string S] w fun e w' => e = .returned (.int .i64 (if c = 0 then ((zs bs : Nat) : Int) else -1)) ∧ Below w.heap.size w w' := by
  have HB := hid (c_l5Blocks S L bs c w hS hL hst)
  by_cases hc : c = 0
  · rw [if_pos hc, decide_eq_true hc] at HB
    rw [if_pos hc]
    have HK := hid (fun (A : Option Addr) (cap L : Nat) (v : World) (h : BlsAt v L A cap bs) => c_l5Size A cap bs L v h hst.brd.len_le hst.brd.zOk)
    clear hst hc
    go_enter Tryd.func17, Tryd.ntmps17
    go_wp2_with fail
    refine (HB.out).mono ?_
    rintro e w1 ⟨v, rfl, hown, hb1⟩
    obtain ⟨A, cap, rfl, hat, hq⟩ := own_bls hown
    clear hown hq
    go_wp2_with fail
    refine (HK.out _ _ _ _ hat).mono ?_
    rintro e w' ⟨rfl, rfl⟩
    go_wp2_with fail
    go_ret
    exact ⟨rfl, by (repeat (first | with_reducible (first | assumption | exact Below.refl _ _ | refine bel_alloc ?_ _ | refine bel_drew ?_ | refine bel_drewN ?_ _ | refine bel_set ?_ (by first | omega | (simp; done) | (simp; omega)) _ | refine bel_trans ?_ (by assumption)) | assumption | refine bel_trans ?_ (by assumption)))⟩
  · rw [if_neg hc] at HB ⊢
    rw [decide_eq_false hc] at HB
    clear hst hc
    go_enter Tryd.func17, Tryd.ntmps17
    go_wp2_with fail
    refine (HB.out).mono ?_
    rintro e w1 ⟨v, rfl, hown, hb1⟩
    clear hown
    go_wp2_with fail
    go_ret
    exact ⟨rfl, by (repeat (first | with_reducible (first | assumption | exact Below.refl _ _ | refine bel_alloc ?_ _ | refine bel_drew ?_ | refine bel_drewN ?_ _ | refine bel_set ?_ (by first | omega | (simp; done) | (simp; omega)) _ | refine bel_trans ?_ (by assumption)) | assumption | refine bel_trans ?_ (by assumption)))⟩

theorem c_sCountRaw (S : ByteArray) (L : List UInt8) (bs : List Bl) (c : Nat) (w : World) (hS : S.size ≤ 1000000000000) (hL : L = S.data.toList) (hst : Stop L bs c) : Calls Tryd.prog 19 #[.string S] w fun e w' => e = .returned (.int .i64 (if c = 0 then ((raws bs : Nat) : Int) else -1)) ∧ Below w.heap.size w w' := by
  obtain ⟨R, hR⟩ : ∃ R, R = (if c = 0 then bs else []) := ⟨_, rfl⟩
  have HB := hid (c_l5Blocks S L bs c w hS hL hst)
  rw [← hR] at HB
  have hR40 : R.length ≤ 40 := by
    rw [hR]; split
    · exact hst.brd.len_le
    · simp
  obtain ⟨q, hq⟩ : ∃ q, q = decide (c = 0) := ⟨_, rfl⟩
  rw [← hq] at HB
  have HV := hid (show (if c = 0 then ((raws bs : Nat) : Int) else -1) = if q = true then ((raws R : Nat) : Int) else -1 by
    rw [hq, hR]
    by_cases hc : c = 0 <;> simp [hc])
  rw [HV.out]
  obtain ⟨N, hN⟩ : ∃ N, N = R.length := ⟨_, rfl⟩
  have HN := hid hN
  rw [← hN] at hR40
  clear hst hR hq hN
  go_enter Tryd.func19, Tryd.ntmps19
  go_wp2_with fail
  refine (HB.out).mono ?_
  rintro e w1 ⟨v, rfl, hown, hb1⟩
  obtain ⟨A, cap, rfl, hat, hq9⟩ := own_bls hown
  have HT := hid hat
  rw [← HN.out]
  clear hown hq9 hat
  go_wp2_with fail
  go_loopw [5, 6] (fun t i wr => ∃ (k : Nat) (s : Nat), k ≤ N ∧ i = .int .i64 k ∧ t = .int .i64 (s : Int) ∧ Hid (s = raws (R.take k)) ∧ s ≤ k ∧ Below w1.heap.size w1 wr) (fun _ i _ => N - (intOf i).toNat)
  case atStart => exact ⟨0, 0, Nat.zero_le _, rfl, rfl, hid rfl, by omega, by (repeat (first | with_reducible (first | assumption | exact Below.refl _ _ | refine bel_alloc ?_ _ | refine bel_drew ?_ | refine bel_drewN ?_ _ | refine bel_set ?_ (by first | omega | (simp; done) | (simp; omega)) _ | refine bel_trans ?_ (by assumption)) | assumption | refine bel_trans ?_ (by assumption)))⟩
  case round =>
    obtain ⟨k, s, hk, rfl, rfl, HS, hs, hbl⟩ := hrel
    by_cases hlt : k < N
    · have hlt2 : k < R.length := by have := HN.out; omega
      obtain ⟨b, off, rfl, hb, hc0, hc1, hc2, hc3⟩ := bl_at (HT.out.below hbl (Nat.le_refl _)) k hlt2
      obtain ⟨z, hzz⟩ : ∃ z, z = R[k].raw := ⟨_, rfl⟩
      rw [← hzz] at hc1
      have HS2 := hid (show s + (if z = true then 1 else 0) = raws (R.take (k + 1)) by rw [raws_take_succ R k hlt2, ← HS.out, ← hzz])
      clear hzz hc0 hc2 hc3
      cases z with
      | true =>
        go_wp2_with fail
        go_roundw
        case rel => exact ⟨k + 1, s + 1, by omega, by go_num, by go_num, HS2, by omega, hbl⟩
        case measure => simp [intOf]; omega
      | false =>
        go_wp2_with fail
        go_roundw
        case rel => exact ⟨k + 1, s, by omega, by go_num, rfl, HS2, by omega, hbl⟩
        case measure => simp [intOf]; omega
    · have HE := hid (show s = raws R by rw [HS.out, List.take_of_length_le (by have := HN.out; omega)])
      have hb9 := hb1.trans (hbl.mono hb1.size)
      cases q with
      | true =>
        go_wp2_with fail
        go_ret
        exact ⟨by rw [HE.out]; rfl, hb9⟩
      | false =>
        go_wp2_with fail
        go_ret
        exact ⟨rfl, hb9⟩
end Go.Proofs.YtkglpbaapekgnaaDoor
