/- The walk of the law on BitsCode. -/
import Derived.Test.YtlocmgibmclgnaaDraw7
import Derived.Test.YtlocmgibmclgnaaBj
import Derived.Test.YtlocmgibmclgnaaBa
import Derived.Test.YtlocmgibmclgnaaWfn2
namespace Go.Proofs.Ytlocmgibmclgnaa
open Go.ChangeShapes Go.WideShapes Go.ChangeAt Go.RowKit Go.Joins
set_option linter.unusedVariables false

theorem nd_lt (k x : Nat) (h1 : 1 ≤ k) (hx : x < 2 ^ k) (hk : k ≤ 64) : nd x ≤ k := by
  induction k generalizing x with
  | zero => omega
  | succ k ih =>
    by_cases h : 2 ≤ x
    · have hp : (2 : Nat) ^ (k + 1) ≤ 2 ^ 64 := Nat.pow_le_pow_right (by omega) (by omega)
      rw [nd_half h (by omega)]
      rw [Nat.pow_succ] at hx
      have hk1 : 1 ≤ k := by
        rcases Nat.eq_zero_or_pos k with e | e
        · subst e; simp at hx; omega
        · exact e
      have := ih (x / 2) hk1 (by omega) (by omega)
      omega
    · rw [nd_small (by omega)]; omega

theorem bitsCodeV_lt (o : Int) (s : ByteArray) : bitsCodeV o s < 2 ^ s.size := by
  have h := M.num_lt (M.dir (o == 1) (bitsL s))
  rw [M.dir_length, bitsL_len] at h; exact h
theorem bitsCodeV_ok {o : Int} {s : ByteArray} (h : bitsCodeOk o s = true) : codeOk o (bitsCodeV o s : Int) (s.size : Int) = true := by
  obtain ⟨h1, h2, h3⟩ := bitsCodeOk_iff.1 h
  have h4 := inB_iff.1 h2
  have hlt := bitsCodeV_lt o s
  rw [codeOk, h1, Bool.true_and]
  refine codeFits_iff.2 ⟨h4, by omega, ?_⟩
  unfold pow2
  rw [Int.toNat_natCast]
  have h5 : ((bitsCodeV o s : Nat) : Int) < ((2 ^ s.size : Nat) : Int) := Int.ofNat_lt.2 hlt
  push_cast at h5; exact h5
theorem asc_bitsL {s : ByteArray} (h : bitsOk s = true) : M.asc (bitsL s) = s.data.toList := M.asc_bits _ (bitsOk_all h)
theorem bitsCodeV_back {o : Int} {s : ByteArray} (h : bitsOk s = true) : codeBitsS o (bitsCodeV o s : Int) (s.size : Int) = s := by
  have e := M.bitsOf_num (M.dir (o == 1) (bitsL s))
  rw [M.dir_length, bitsL_len] at e
  rw [codeBitsS, M.codeBits, Int.toNat_natCast, Int.toNat_natCast, bitsCodeV, e, M.dir_dir, asc_bitsL h, str_self]

def revS (s : ByteArray) : ByteArray := str s.data.toList.reverse
theorem revS_size (s : ByteArray) : (revS s).size = s.size := by rw [revS, str_size]; simp
theorem revS_ok {o : Int} {s : ByteArray} (h : bitsCodeOk o s = true) : bitsCodeOk (1 - o) (revS s) = true := by
  obtain ⟨h1, h2, h3⟩ := bitsCodeOk_iff.1 h
  have h4 := orderOk_iff.1 h1
  refine bitsCodeOk_iff.2 ⟨orderOk_iff.2 (by omega), by rw [revS_size]; exact h2, ?_⟩
  have ha := bitsOk_all h3
  have h5 := inB_iff.1 h2
  have hs : (revS s).size ≤ 10 := by rw [revS_size]; omega
  have hb : (revS s).data.toList.all isBit = true := by rw [revS, str_list, List.all_reverse]; exact ha
  simp only [bitsOk, hb, Bool.and_true, decide_eq_true_eq]; omega
theorem revS_val {o : Int} {s : ByteArray} (h : orderOk o = true) : bitsCodeV (1 - o) (revS s) = bitsCodeV o s := by
  have e : bitsL (revS s) = (bitsL s).reverse := by rw [bitsL, revS, str_list, bitsL, List.map_reverse]
  rw [bitsCodeV, bitsCodeV, e]
  rcases orderOk_iff.1 h with rfl | rfl
  · show M.num (bitsL s).reverse.reverse = M.num (bitsL s)
    rw [List.reverse_reverse]
  · rfl
theorem revS_snoc (s : ByteArray) (k : Nat) (hk : k < s.size) : (s.data.toList.drop k).reverse = (s.data.toList.drop (k + 1)).reverse ++ [s[k]] := by
  rw [List.drop_eq_getElem_cons (by simpa using hk), List.reverse_cons]; rfl

theorem c_soTurned (s : ByteArray) (w : World) (hs : s.size ≤ 100000) : Calls Try.prog 36 #[.string s] w fun e w' => e = .returned (.string (revS s)) ∧ Below w.heap.size w w' := by
  go_enter Try.func36, Try.ntmps36
  go_wp2_with (at_make; refine make_bytes0 rfl _ _ 22 rfl w.heap.size 5 Try.underlying22 Try.info_u8d .i64 .i64 _ s.size rfl rfl (by omega) (by omega) (Nat.le_refl _) ?_; rintro v1 w1 rfl hown1 hb1 hg1)
  go_loopw [3, 4] (fun v i wr => ∃ k : Nat, k ≤ s.size ∧ i = .int .i64 ((k : Int) - 1) ∧ wr.ownsRow w.heap.size 5 1 v (s.size - k) (((s.data.toList.drop k).reverse).map vb) ∧ Below w.heap.size w wr) (fun _ i _ => (intOf i + 1).toNat)
  case atStart => exact ⟨s.size, Nat.le_refl _, rfl, by rw [List.drop_of_length_le (by simp)]; simpa using hown1, by (repeat (first | with_reducible (first | assumption | exact Below.refl _ _ | refine bel_alloc ?_ _ | refine bel_drew ?_ | refine bel_drewN ?_ _ | refine bel_set ?_ (by first | omega | (simp; done) | (simp; omega)) _ | refine bel_trans ?_ (by assumption)) | assumption | refine bel_trans ?_ (by assumption)))⟩
  case round =>
    obtain ⟨k, hk, rfl, hown, hbl⟩ := hrel
    have hsz := hbl.size
    by_cases hz : k = 0
    · subst hz
      have hcv := run_str Try.underlying22 Try.underlying5 Try.underlying9 hown
      go_wp2
      go_ret
      exact ⟨by rw [revS, str]; rfl, by (repeat (first | with_reducible (first | assumption | exact Below.refl _ _ | refine bel_alloc ?_ _ | refine bel_drew ?_ | refine bel_drewN ?_ _ | refine bel_set ?_ (by first | omega | (simp; done) | (simp; omega)) _ | refine bel_trans ?_ (by assumption)) | assumption | refine bel_trans ?_ (by assumption)))⟩
    · obtain ⟨j, rfl⟩ : ∃ j, k = j + 1 := ⟨k - 1, by omega⟩
      have hj : j < s.size := by omega
      have hb8 := byte_le s j hj
      have e1 : (((j + 1 : Nat) : Int) - 1) = (j : Int) := by omega
      rw [e1]
      have HS := hid (revS_snoc s j hj)
      have hn : s.size - (j + 1) + 1 = s.size - j := by omega
      go_wp2_with (at_builtin; refine app_byte rfl _ _ 22 rfl w.heap.size 5 Try.underlying22 Try.info_u8d _ _ _ rfl hown (s[j]) _ rfl 1 rfl (by omega) (by omega) ?_; intro v4 w4 hown4 hb4 hg4)
      go_roundw
      case rel => exact ⟨j, by omega, by go_num, by rw [HS.out, ← hn]; exact hown4, hbl.trans hb4⟩
      case measure => simp [intOf]
end Go.Proofs.Ytlocmgibmclgnaa
