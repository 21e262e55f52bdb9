/- The walk of the law on DataFits. -/
import Derived.Test.YtgfclblooadomaaDraw11
import Derived.Test.YtgfclblooadomaaFit
import Derived.Test.YtgfclblooadomaaWfn2
namespace Go.Proofs.Ytgfclblooadomaa
open Go.ChangeShapes Go.WideShapes Go.ChangeAt Go.RowKit Go.Joins
set_option linter.unusedVariables false

theorem all_take (s : ByteArray) (p : UInt8 → Bool) (k : Nat) (h : (s.data.toList.take k).all p = false) : s.data.toList.all p = false := by
  rw [← List.take_append_drop k s.data.toList, List.all_append, h, Bool.false_and]

set_option maxRecDepth 100000 in
set_option maxHeartbeats 1000000 in
theorem walk_FnDataFits (A' : Option Addr) (n cap : Nat) (w : World) (hc : CodeAt w w.heap.size A' n cap) : Calls Try.prog 4 #[.slice A' n cap] w fun e w' => e = .returned (.bool true) ∧ Below w.heap.size w w' := by
  have hbig := big_code hc
  by_cases big : 1048576 < n
  · go_enter Try.func4, Try.ntmps4
    go_wp2_with fail
    go_ret
    exact ⟨rfl, by (repeat (first | exact Below.refl _ _ | assumption | refine bel_alloc ?_ _ | refine bel_drew ?_ | refine bel_drewN ?_ _ | refine bel_set ?_ (by first | omega | (simp; done) | (simp; omega)) _ | refine bel_trans ?_ (by assumption)))⟩
  · go_enter Try.func4, Try.ntmps4
    go_wp2_with fail
    refine (c_DrawDataFits _ _ _ _ hc).mono ?_
    rintro e w1 ⟨o, l, m, s, rfl, ho, hl, hm, hs, b1⟩
    have hsm : s.size ≤ maxLen := by unfold maxLen; omega
    obtain ⟨F, hF⟩ : ∃ F, F = dataFits o l m s := ⟨_, rfl⟩
    have H1 := hid (show ∀ w, Calls Try.prog 21 #[.agg #[.int .i64 o, .int .i64 l, .int .i64 m], .string s] w fun e w' => e = .returned (.bool F) ∧ Below w.heap.size w w' by intro w; rw [hF]; exact c_DataFits o l m s w hsm)
    have H2 := hid (show ∀ w, Calls Try.prog 23 #[.agg #[.int .i64 o, .int .i64 l, .int .i64 m], .string s] w fun e w' => e = .returned (.bool F) ∧ Below w.heap.size w w' by intro w; rw [hF]; exact c_sDataFits o l m s w hsm)
    have hFF : (F != F) = false := by simp
    have HFd := hid hF
    clear hF
    obtain ⟨G, hG⟩ : ∃ G, G = setOk o l m := ⟨_, rfl⟩
    have H3 := hid (show ∀ w, Calls Try.prog 17 #[.agg #[.int .i64 o, .int .i64 l, .int .i64 m]] w fun e w' => e = .returned (.bool G) ∧ Below w.heap.size w w' by intro w; rw [hG]; exact c_SettingValid o l m w)
    have HGd := hid hG
    clear hG
    go_wp2_with fail
    obtain ⟨N, hN⟩ : ∃ N, N = w1.heap.size := ⟨_, rfl⟩
    obtain ⟨W1, hW1⟩ : ∃ W1, W1 = w1.alloc (.cells #[.int .i64 o, .int .i64 l, .int .i64 m] 24) := ⟨_, rfl⟩
    rw [← hW1, ← hN]
    have k1 : Blk W1 N 24 #[.int .i64 o, .int .i64 l, .int .i64 m] := by rw [hW1, hN]; exact Blk.new w1 _ _
    have c1 : Below w.heap.size w W1 := by rw [hW1]; exact bel_alloc b1 _
    clear hW1 hN b1 hc
    refine (H1.out _).mono ?_
    rintro e W2 ⟨rfl, hb2⟩
    have k2 := k1.on hb2
    have c2 := bel_trans c1 hb2
    obtain ⟨x2, y2, z2⟩ := k2.cells3
    clear hb2 c1 k1
    go_wp2_with fail
    refine (H2.out _).mono ?_
    rintro e W3 ⟨rfl, hb3⟩
    have k3 := k2.on hb3
    have c3 := bel_trans c2 hb3
    obtain ⟨x3, y3, z3⟩ := k3.cells3
    clear hb3 c2 k2 x2 y2 z2
    go_wp2_with fail
    refine (H3.out _).mono ?_
    rintro e W4 ⟨rfl, hb4⟩
    have k4 := k3.on hb4
    have c4 := bel_trans c3 hb4
    clear hb4 c3 k3 x3 y3 z3 H1 H2 H3
    have hG := HGd.out
    by_cases hg : G = true ∧ s.size ≤ 2000
    · obtain ⟨rfl, h2⟩ := hg
      obtain ⟨_, ⟨l1, l2⟩, _⟩ := setOk_iff.1 hG.symm
      have hp := pow2_bd (n := l) (by omega)
      obtain ⟨C, hC⟩ : ∃ C, C = pow2 l := ⟨_, rfl⟩
      have HF := hid (show F = s.data.toList.all (ltc C) by rw [HFd.out, dataFits, ← hG, hC]; simp [h2])
      have H4 := hid (show ∀ w, Calls Try.prog 15 #[.agg #[.int .i64 o, .int .i64 l, .int .i64 m]] w fun e w' => e = .returned (.int .i64 C) ∧ Below w.heap.size w w' by intro w; rw [hC]; exact c_ClearCode_yes o l m w hG.symm)
      rw [← hC] at hp
      clear hC hG hFF HFd
      go_wp2_with fail
      go_loopw [6, 7] (fun g i wr => ∃ k : Nat, k ≤ s.size ∧ i = .int .i64 k ∧ g = .bool ((s.data.toList.take k).all (ltc C)) ∧ Blk wr N 24 #[.int .i64 o, .int .i64 l, .int .i64 m] ∧ Below w.heap.size w wr) (fun _ i _ => (s.size - intOf i).toNat)
      case atStart => exact ⟨0, Nat.zero_le _, rfl, by rw [List.take_zero]; simp; omega, k4, c4⟩
      case round =>
        obtain ⟨k, hk, rfl, hgd, kr, cr⟩ := hrel
        obtain ⟨gd, hgd2⟩ : ∃ gd, gd = (s.data.toList.take k).all (ltc C) := ⟨_, rfl⟩
        rw [← hgd2] at hgd
        subst hgd
        have HG := hid hgd2
        obtain ⟨xr, yr, zr⟩ := kr.cells3
        clear hgd2
        by_cases hlt : k < s.size
        · cases gd with
          | true =>
            have hb8 := byte_le s k hlt
            have hi0 : (0 : Int) ≤ (k : Int) := by omega
            have hi1 : (k : Int) < (s.size : Int) := by omega
            have HN := hid (show ((s.data.toList.take (k + 1)).all (ltc C)) = decide (((s[k]).toNat : Int) < C) by rw [all_snoc s _ k hlt, ← HG.out]; rfl)
            go_wp2_with fail
            go_region_with (go_at_call 15; refine (H4.out _).mono ?_; rintro e w5 ⟨rfl, hb5⟩; have hc5 := bcell hb5)
            all_goals
              go_wp2
              go_roundw
              case rel => exact ⟨k + 1, by omega, by go_num, by rw [HN.out], kr.drew.on hb5, bel_trans (bel_drew cr) hb5⟩
              case measure => simp [intOf]; omega
          | false =>
            have HE := hid (show F = false by rw [HF.out]; exact all_take s _ k HG.out.symm)
            go_wp2
            go_ret
            exact ⟨by rw [HE.out]; rfl, cr⟩
        · have HE := hid (show F = gd by rw [HF.out, HG.out, all_whole s _ k (by omega)])
          go_wp2
          go_ret
          exact ⟨by rw [HE.out]; simp, cr⟩
    · cases G with
      | false =>
        have hF0 : F = false := by rw [HFd.out, dataFits, ← hG]; rfl
        subst hF0
        clear HFd hG hFF hg
        go_wp2_with fail
        go_loopw [6, 7] (fun g i wr => g = .bool false ∧ i = .int .i64 0 ∧ Below w.heap.size w wr) (fun _ _ _ => 0)
        case atStart => exact ⟨rfl, rfl, c4⟩
        case round =>
          obtain ⟨rfl, rfl, cr⟩ := hrel
          by_cases hs0 : s.size = 0
          · have hs1 : (s.size : Int) = 0 := by omega
            go_wp2
            go_ret
            exact ⟨rfl, cr⟩
          · have hs1 : 0 < (s.size : Int) := by omega
            go_wp2
            go_ret
            exact ⟨rfl, cr⟩
      | true =>
        have h2 : ¬ s.size ≤ 2000 := fun h => hg ⟨rfl, h⟩
        have hF0 : F = false := by rw [HFd.out, dataFits, ← hG]; simp [h2]
        subst hF0
        clear HFd hG hFF hg
        go_wp2_with fail
        go_loopw [6, 7] (fun g i wr => g = .bool false ∧ i = .int .i64 0 ∧ Below w.heap.size w wr) (fun _ _ _ => 0)
        case atStart => exact ⟨by simp; omega, rfl, c4⟩
        case round =>
          obtain ⟨rfl, rfl, cr⟩ := hrel
          by_cases hs0 : s.size = 0
          · have hs1 : (s.size : Int) = 0 := by omega
            go_wp2
            go_ret
            exact ⟨rfl, cr⟩
          · have hs1 : 0 < (s.size : Int) := by omega
            go_wp2
            go_ret
            exact ⟨rfl, cr⟩
end Go.Proofs.Ytgfclblooadomaa
