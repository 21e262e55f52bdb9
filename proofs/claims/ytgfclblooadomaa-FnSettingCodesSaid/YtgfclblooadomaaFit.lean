/- Contracts of DataFits and BitsValid in both programs. No condition but that a string has a length. -/
import Derived.Test.YtgfclblooadomaaCode
import Derived.Test.YtgfclblooadomaaStr
namespace Go.Proofs.Ytgfclblooadomaa
open Go.ChangeShapes Go.WideShapes Go.ChangeAt Go.RowKit Go.Joins
set_option linter.unusedVariables false

def ltc (c : Int) (x : UInt8) : Bool := decide ((x.toNat : Int) < c)
def dataFits (o l m : Int) (s : ByteArray) : Bool := setOk o l m && decide (s.size ≤ 2000) && s.data.toList.all (ltc (pow2 l))

def isBit (x : UInt8) : Bool := x == 48 || x == 49
def bitsOk (s : ByteArray) : Bool := decide (s.size ≤ 32000) && s.data.toList.all isBit

theorem isBit_yes {x : UInt8} (h : ((x.toNat : Int) = 48 ∨ (x.toNat : Int) = 49)) : isBit x = true := by
  have : x = 48 ∨ x = 49 := by
    rcases h with h | h
    · left; apply UInt8.toNat_inj.1; simp; omega
    · right; apply UInt8.toNat_inj.1; simp; omega
  rcases this with rfl | rfl <;> rfl
theorem isBit_no {x : UInt8} (h : ¬((x.toNat : Int) = 48 ∨ (x.toNat : Int) = 49)) : isBit x = false := by
  have h1 : x ≠ 48 := fun e => h (by subst e; left; rfl)
  have h2 : x ≠ 49 := fun e => h (by subst e; right; rfl)
  simp [isBit, h1, h2]

theorem c_DataFits (o l m : Int) (s : ByteArray) (w : World) (hs : s.size ≤ maxLen) : Calls Try.prog 21 #[.agg #[.int .i64 o, .int .i64 l, .int .i64 m], .string s] w fun e w' => e = .returned (.bool (dataFits o l m s)) ∧ Below w.heap.size w w' := by
  unfold maxLen at hs
  cases h : setOk o l m with
  | false =>
    go_enter Try.func21, Try.ntmps21
    go_wp2_with (go_at_call 17; refine (c_SettingValid _ _ _ _).mono ?_; rintro e w1 ⟨rfl, hb1⟩; have hc1 := bcell hb1; have hz1_0 : w.heap.size < w1.heap.size := (by have := hb1.size; first | omega | (simp at this; omega)))
    go_ret
    exact ⟨ret_bool (by simp [dataFits, h]), by (repeat (first | exact Below.refl _ _ | assumption | refine bel_alloc ?_ _ | refine bel_drew ?_ | refine bel_drewN ?_ _ | refine bel_set ?_ (by first | omega | (simp; done) | (simp; omega)) _ | refine bel_trans ?_ (by assumption)))⟩
  | true =>
    by_cases h2 : s.size ≤ 2000
    · obtain ⟨_, ⟨h3, h4⟩, _⟩ := setOk_iff.1 h
      have hp := pow2_bd (n := l) (by omega)
      have HF := hid (show dataFits o l m s = s.data.toList.all (ltc (pow2 l)) by simp [dataFits, h, h2])
      have hd : decide ((2000 : Int) < (s.size : Int)) = false := by simp; omega
      go_enter Try.func21, Try.ntmps21
      go_wp2_with (first | (go_at_call 17; refine (c_SettingValid _ _ _ _).mono ?_; rintro e w1 ⟨rfl, hb1⟩; have hc1 := bcell hb1; have hz1_0 : w.heap.size < w1.heap.size := (by have := hb1.size; first | omega | (simp at this; omega))) | (go_at_call 15; refine (c_ClearCode_yes _ _ _ _ h).mono ?_; rintro e w2 ⟨rfl, hb2⟩; have hc2 := bcell hb2))
      go_loop [19] (fun i => ∃ k : Nat, k ≤ s.size ∧ i = .int .i64 k ∧ Hid ((s.data.toList.take k).all (ltc (pow2 l)) = true)) (fun i => s.size - (intOf i).toNat)
      case atStart => exact ⟨0, Nat.zero_le _, rfl, hid rfl⟩
      case round =>
        obtain ⟨k, hk, rfl, HK⟩ := hrel
        by_cases hlt : k < s.size
        · have hb8 := byte_le s k hlt
          by_cases hb : ((s[k]).toNat : Int) < pow2 l
          · go_wp2
            go_round
            case rel => exact ⟨k + 1, by omega, by go_num, hid (by rw [all_snoc s _ k hlt, HK.out]; simp [ltc, hb])⟩
            case measure => simp [intOf]; omega
          · go_wp2
            go_ret
            exact ⟨ret_bool (by rw [HF.out, all_not s _ k hlt (by simp [ltc]; omega)]), by (repeat (first | exact Below.refl _ _ | assumption | refine bel_alloc ?_ _ | refine bel_drew ?_ | refine bel_drewN ?_ _ | refine bel_set ?_ (by first | omega | (simp; done) | (simp; omega)) _ | refine bel_trans ?_ (by assumption)))⟩
        · go_wp2
          go_ret
          exact ⟨ret_bool (by rw [HF.out, ← all_whole s _ k (by omega), HK.out]), by (repeat (first | exact Below.refl _ _ | assumption | refine bel_alloc ?_ _ | refine bel_drew ?_ | refine bel_drewN ?_ _ | refine bel_set ?_ (by first | omega | (simp; done) | (simp; omega)) _ | refine bel_trans ?_ (by assumption)))⟩
    · go_enter Try.func21, Try.ntmps21
      go_wp2_with (go_at_call 17; refine (c_SettingValid _ _ _ _).mono ?_; rintro e w1 ⟨rfl, hb1⟩; have hc1 := bcell hb1; have hz1_0 : w.heap.size < w1.heap.size := (by have := hb1.size; first | omega | (simp at this; omega)))
      go_ret
      exact ⟨ret_bool (by simp [dataFits]; omega), by (repeat (first | exact Below.refl _ _ | assumption | refine bel_alloc ?_ _ | refine bel_drew ?_ | refine bel_drewN ?_ _ | refine bel_set ?_ (by first | omega | (simp; done) | (simp; omega)) _ | refine bel_trans ?_ (by assumption)))⟩

set_option maxHeartbeats 1000000 in
theorem c_l1Fits (o l m : Int) (s : ByteArray) (w : World) (hs : s.size ≤ maxLen) (h3 : 1 ≤ l) (h4 : l ≤ 8) : Calls Try.prog 64 #[.agg #[.int .i64 o, .int .i64 l, .int .i64 m], .string s] w fun e w' => e = .returned (.bool (s.data.toList.all (ltc (pow2 l)))) ∧ Below w.heap.size w w' := by
  unfold maxLen at hs
  have hp := pow2_bd (n := l) (by omega)
  go_enter Try.func64, Try.ntmps64
  go_wp2_with fail
  go_loopw [5] (fun i wr => ∃ k : Nat, k ≤ s.size ∧ i = .int .i64 k ∧ Hid ((s.data.toList.take k).all (ltc (pow2 l)) = true) ∧ Blk wr w.heap.size 24 #[.int .i64 o, .int .i64 l, .int .i64 m] ∧ Below w.heap.size w wr) (fun i _ => s.size - (intOf i).toNat)
  case atStart => exact ⟨0, Nat.zero_le _, rfl, hid rfl, Blk.new _ _ _, by (repeat (first | exact Below.refl _ _ | assumption | refine bel_alloc ?_ _ | refine bel_drew ?_ | refine bel_drewN ?_ _ | refine bel_set ?_ (by first | omega | (simp; done) | (simp; omega)) _ | refine bel_trans ?_ (by assumption)))⟩
  case round =>
    obtain ⟨k, hk, rfl, HK, hblk, hbl⟩ := hrel
    obtain ⟨q0, q1, q2⟩ := hblk.cells3
    by_cases hlt : k < s.size
    · have hb8 := byte_le s k hlt
      have ew := IntWalk.i64_in ((s[k]).toNat : Int) (by omega)
      by_cases hb : ((s[k]).toNat : Int) < pow2 l
      · go_wp2_with fail
        go_region_with (go_at_call 56; refine (c_l1Clear _ _ _ _ (by omega) (by omega)).mono ?_; rintro e w2 ⟨rfl, hb2⟩; have hc2 := bcell hb2)
        all_goals
          go_wp2
          go_roundw
          case rel => exact ⟨k + 1, by omega, by go_num, hid (by rw [all_snoc s _ k hlt, HK.out]; simp [ltc, hb]), Blk.on (w := wr.drew) hblk hb2, by (repeat (first | exact Below.refl _ _ | assumption | refine bel_alloc ?_ _ | refine bel_drew ?_ | refine bel_drewN ?_ _ | refine bel_set ?_ (by first | omega | (simp; done) | (simp; omega)) _ | refine bel_trans ?_ (by assumption)))⟩
          case measure => simp [intOf]; omega
      · go_wp2_with fail
        go_region_with (go_at_call 56; refine (c_l1Clear _ _ _ _ (by omega) (by omega)).mono ?_; rintro e w2 ⟨rfl, hb2⟩; have hc2 := bcell hb2)
        all_goals
          go_wp2
          go_ret
          exact ⟨ret_bool (by rw [all_not s _ k hlt (by simp [ltc]; omega)]), by (repeat (first | exact Below.refl _ _ | assumption | refine bel_alloc ?_ _ | refine bel_drew ?_ | refine bel_drewN ?_ _ | refine bel_set ?_ (by first | omega | (simp; done) | (simp; omega)) _ | refine bel_trans ?_ (by assumption)))⟩
    · go_wp2
      go_ret
      exact ⟨ret_bool (by rw [← all_whole s _ k (by omega), HK.out]), by (repeat (first | exact Below.refl _ _ | assumption | refine bel_alloc ?_ _ | refine bel_drew ?_ | refine bel_drewN ?_ _ | refine bel_set ?_ (by first | omega | (simp; done) | (simp; omega)) _ | refine bel_trans ?_ (by assumption)))⟩

theorem c_BitsValid (s : ByteArray) (w : World) (hs : s.size ≤ maxLen) : Calls Try.prog 71 #[.string s] w (Same (.bool (bitsOk s)) w) := by
  unfold maxLen at hs
  by_cases h : s.size ≤ 32000
  · have hd : decide ((32000 : Int) < (s.size : Int)) = false := by simp; omega
    have HF := hid (show bitsOk s = s.data.toList.all isBit by simp [bitsOk, h])
    go_enter Try.func71, Try.ntmps71
    go_wp2
    go_loop [9] (fun i => ∃ k : Nat, k ≤ s.size ∧ i = .int .i64 k ∧ Hid ((s.data.toList.take k).all isBit = true)) (fun i => s.size - (intOf i).toNat)
    case atStart => exact ⟨0, Nat.zero_le _, rfl, hid rfl⟩
    case round =>
      obtain ⟨k, hk, rfl, HK⟩ := hrel
      by_cases hlt : k < s.size
      · have hb8 := byte_le s k hlt
        rcases (show ((48 : Int) ≤ ((s[k]).toNat : Int) ∧ ((s[k]).toNat : Int) ≤ 48) ∨ ((49 : Int) ≤ ((s[k]).toNat : Int) ∧ ((s[k]).toNat : Int) ≤ 49) ∨ ((s[k]).toNat : Int) < 48 ∨ (49 : Int) < ((s[k]).toNat : Int) from by omega) with hb | hb | hb | hb
        · have b1 : (((s[k]).toNat : Int) != 48) = false := ne_no (by omega)
          go_wp2
          go_round
          case rel => exact ⟨k + 1, by omega, by go_num, hid (by rw [all_snoc s _ k hlt, HK.out, isBit_yes (by omega)]; rfl)⟩
          case measure => simp [intOf]; omega
        · have b1 : (((s[k]).toNat : Int) != 48) = true := ne_yes (by omega)
          have b2 : (((s[k]).toNat : Int) != 49) = false := ne_no (by omega)
          go_wp2
          go_round
          case rel => exact ⟨k + 1, by omega, by go_num, hid (by rw [all_snoc s _ k hlt, HK.out, isBit_yes (by omega)]; rfl)⟩
          case measure => simp [intOf]; omega
        · have b1 : (((s[k]).toNat : Int) != 48) = true := ne_yes (by omega)
          have b2 : (((s[k]).toNat : Int) != 49) = true := ne_yes (by omega)
          go_wp2
          go_ret
          exact ⟨ret_bool (by rw [HF.out, all_not s _ k hlt (isBit_no (by omega))]), rfl⟩
        · have b1 : (((s[k]).toNat : Int) != 48) = true := ne_yes (by omega)
          have b2 : (((s[k]).toNat : Int) != 49) = true := ne_yes (by omega)
          go_wp2
          go_ret
          exact ⟨ret_bool (by rw [HF.out, all_not s _ k hlt (isBit_no (by omega))]), rfl⟩
      · go_wp2
        go_ret
        exact ⟨ret_bool (by rw [HF.out, ← all_whole s _ k (by omega), HK.out]), rfl⟩
  · go_enter Try.func71, Try.ntmps71
    go_wp2
    go_ret
    exact ⟨ret_bool (by simp [bitsOk]; omega), rfl⟩

theorem c_sBitsValid (s : ByteArray) (w : World) (hs : s.size ≤ maxLen) : Calls Try.prog 74 #[.string s] w (Same (.bool (bitsOk s)) w) := by
  unfold maxLen at hs
  go_enter Try.func74, Try.ntmps74
  go_wp2_with fail
  go_loop [3] (fun i => ∃ k : Nat, k ≤ s.size ∧ i = .int .i64 k ∧ Hid ((s.data.toList.take k).all isBit = true)) (fun i => s.size - (intOf i).toNat)
  case atStart => exact ⟨0, Nat.zero_le _, rfl, hid rfl⟩
  case round =>
    obtain ⟨k, hk, rfl, HK⟩ := hrel
    by_cases hlt : k < s.size
    · have hb8 := byte_le s k hlt
      rcases (show ((48 : Int) ≤ ((s[k]).toNat : Int) ∧ ((s[k]).toNat : Int) ≤ 48) ∨ ((49 : Int) ≤ ((s[k]).toNat : Int) ∧ ((s[k]).toNat : Int) ≤ 49) ∨ ((s[k]).toNat : Int) < 48 ∨ (49 : Int) < ((s[k]).toNat : Int) from by omega) with hb | hb | hb | hb
      · have b1 : (((s[k]).toNat : Int) != 48) = false := ne_no (by omega)
        go_wp2
        go_round
        case rel => exact ⟨k + 1, by omega, by go_num, hid (by rw [all_snoc s _ k hlt, HK.out, isBit_yes (by omega)]; rfl)⟩
        case measure => simp [intOf]; omega
      · have b1 : (((s[k]).toNat : Int) != 48) = true := ne_yes (by omega)
        have b2 : (((s[k]).toNat : Int) != 49) = false := ne_no (by omega)
        go_wp2
        go_round
        case rel => exact ⟨k + 1, by omega, by go_num, hid (by rw [all_snoc s _ k hlt, HK.out, isBit_yes (by omega)]; rfl)⟩
        case measure => simp [intOf]; omega
      · have b1 : (((s[k]).toNat : Int) != 48) = true := ne_yes (by omega)
        have b2 : (((s[k]).toNat : Int) != 49) = true := ne_yes (by omega)
        go_wp2
        go_ret
        exact ⟨ret_bool (by rw [bitsOk, all_not s _ k hlt (isBit_no (by omega))]; simp), rfl⟩
      · have b1 : (((s[k]).toNat : Int) != 48) = true := ne_yes (by omega)
        have b2 : (((s[k]).toNat : Int) != 49) = true := ne_yes (by omega)
        go_wp2
        go_ret
        exact ⟨ret_bool (by rw [bitsOk, all_not s _ k hlt (isBit_no (by omega))]; simp), rfl⟩
    · go_wp2
      go_ret
      exact ⟨ret_bool (by rw [bitsOk, ← all_whole s _ k (by omega), HK.out, Bool.and_true]; rw [Bool.eq_iff_iff]; simp; omega), rfl⟩

theorem c_sDataFits (o l m : Int) (s : ByteArray) (w : World) (hs : s.size ≤ maxLen) : Calls Try.prog 23 #[.agg #[.int .i64 o, .int .i64 l, .int .i64 m], .string s] w fun e w' => e = .returned (.bool (dataFits o l m s)) ∧ Below w.heap.size w w' := by
  have hs2 := hs
  unfold maxLen at hs2
  cases h : setOk o l m with
  | false =>
    go_enter Try.func23, Try.ntmps23
    go_wp2_with (go_at_call 53; refine (c_sSettingValid _ _ _ _).mono ?_; rintro e w1 ⟨rfl, hb1⟩; have hc1 := bcell hb1; have hz1_0 : w.heap.size < w1.heap.size := (by have := hb1.size; first | omega | (simp at this; omega)))
    go_ret
    exact ⟨ret_bool (by simp [dataFits, h]), by (repeat (first | exact Below.refl _ _ | assumption | refine bel_alloc ?_ _ | refine bel_drew ?_ | refine bel_drewN ?_ _ | refine bel_set ?_ (by first | omega | (simp; done) | (simp; omega)) _ | refine bel_trans ?_ (by assumption)))⟩
  | true =>
    by_cases h2 : s.size ≤ 2000
    · obtain ⟨_, ⟨h3, h4⟩, _⟩ := setOk_iff.1 h
      go_enter Try.func23, Try.ntmps23
      go_wp2_with (first | (go_at_call 53; refine (c_sSettingValid _ _ _ _).mono ?_; rintro e w1 ⟨rfl, hb1⟩; have hc1 := bcell hb1; have hz1_0 : w.heap.size < w1.heap.size := (by have := hb1.size; first | omega | (simp at this; omega))) | (go_at_call 64; refine (c_l1Fits _ _ _ _ _ hs (by omega) (by omega)).mono ?_; rintro e w2 ⟨rfl, hb2⟩; have hc2 := bcell hb2))
      go_ret
      exact ⟨ret_bool (by simp [dataFits, h, h2]), by (repeat (first | exact Below.refl _ _ | assumption | refine bel_alloc ?_ _ | refine bel_drew ?_ | refine bel_drewN ?_ _ | refine bel_set ?_ (by first | omega | (simp; done) | (simp; omega)) _ | refine bel_trans ?_ (by assumption)))⟩
    · go_enter Try.func23, Try.ntmps23
      go_wp2_with (first | (go_at_call 53; refine (c_sSettingValid _ _ _ _).mono ?_; rintro e w1 ⟨rfl, hb1⟩; have hc1 := bcell hb1; have hz1_0 : w.heap.size < w1.heap.size := (by have := hb1.size; first | omega | (simp at this; omega))) | (go_at_call 64; refine (c_l1Fits _ _ _ _ _ hs (by omega) (by omega)).mono ?_; rintro e w2 ⟨rfl, hb2⟩; have hc2 := bcell hb2))
      go_ret
      exact ⟨ret_bool (by simp [dataFits, h, h2]), by (repeat (first | exact Below.refl _ _ | assumption | refine bel_alloc ?_ _ | refine bel_drew ?_ | refine bel_drewN ?_ _ | refine bel_set ?_ (by first | omega | (simp; done) | (simp; omega)) _ | refine bel_trans ?_ (by assumption)))⟩
end Go.Proofs.Ytgfclblooadomaa
