/- Contracts of UnpackBits in both programs, and of what they call. -/
import Derived.Test.YtgfclblooadomaaPack
namespace Go.Proofs.Ytgfclblooadomaa
open Go.ChangeShapes Go.WideShapes Go.ChangeAt Go.RowKit Go.Joins
set_option linter.unusedVariables false

def stOk (o : Int) (s : ByteArray) : Bool := orderOk o && decide (s.size ≤ 4000)
theorem stOk_iff {o : Int} {s : ByteArray} : stOk o s = true ↔ orderOk o = true ∧ s.size ≤ 4000 := by simp [stOk]

theorem c_streamReadable (o : Int) (s : ByteArray) (w : World) (hs : s.size ≤ maxLen) : Calls Try.prog 84 #[.int .i64 o, .string s] w (Same (.bool (stOk o s)) w) := by
  unfold maxLen at hs
  cases h1 : orderOk o with
  | false =>
    go_enter Try.func84, Try.ntmps84
    go_wp2_with (go_at_call 57; refine (c_valid _ _).mono ?_; rintro e w' ⟨rfl, rfl⟩)
    go_ret
    exact ⟨ret_bool (by simp [stOk, h1]), rfl⟩
  | true =>
    go_enter Try.func84, Try.ntmps84
    go_wp2_with (go_at_call 57; refine (c_valid _ _).mono ?_; rintro e w' ⟨rfl, rfl⟩)
    go_ret
    exact ⟨ret_bool (by rw [Bool.eq_iff_iff]; simp [stOk, h1]; omega), rfl⟩

theorem c_l1Stream (o : Int) (s : ByteArray) (w : World) (hs : s.size ≤ maxLen) : Calls Try.prog 85 #[.int .i64 o, .string s] w (Same (.bool (stOk o s)) w) := by
  unfold maxLen at hs
  cases h1 : orderOk o with
  | false =>
    go_enter Try.func85, Try.ntmps85
    go_wp2_with (go_at_call 73; refine (c_l1Order _ _).mono ?_; rintro e w' ⟨rfl, rfl⟩)
    go_ret
    exact ⟨ret_bool (by simp [stOk, h1]), rfl⟩
  | true =>
    go_enter Try.func85, Try.ntmps85
    go_wp2_with (go_at_call 73; refine (c_l1Order _ _).mono ?_; rintro e w' ⟨rfl, rfl⟩)
    go_ret
    exact ⟨ret_bool (by rw [Bool.eq_iff_iff]; simp [stOk, h1]; omega), rfl⟩

def unpackL (o : Int) (s : ByteArray) : List UInt8 := M.asc (M.unpack (o == 1) s.data.toList)
theorem unpack_snoc (h : Bool) (s : ByteArray) (k : Nat) (hk : k < s.size) : M.asc (M.unpack h (s.data.toList.take (k + 1))) = M.asc (M.unpack h (s.data.toList.take k)) ++ M.codeBits h (s[k]).toNat 8 := by
  rw [take_snoc s k hk]; simp [M.unpack, M.asc, M.codeBits, M.byteBits]

theorem c_UnpackBits_no (o : Int) (s : ByteArray) (w : World) (hs : s.size ≤ maxLen) (h : stOk o s = false) : Calls Try.prog 35 #[.int .i64 o, .string s] w fun e w' => e = .returned (.tuple #[.string ByteArray.empty, .bool false]) ∧ Below w.heap.size w w' := by
  go_enter Try.func35, Try.ntmps35
  go_wp2_with (go_at_call 84; refine (c_streamReadable _ _ _ hs).mono ?_; rintro e w' ⟨rfl, rfl⟩)
  go_ret2
  exact ⟨rfl, by (repeat (first | exact Below.refl _ _ | assumption | refine bel_alloc ?_ _ | refine bel_drew ?_ | refine bel_drewN ?_ _ | refine bel_set ?_ (by first | omega | (simp; done) | (simp; omega)) _ | refine bel_trans ?_ (by assumption)))⟩

set_option maxHeartbeats 1000000 in
theorem c_UnpackBits_yes (o : Int) (s : ByteArray) (w : World) (hs : s.size ≤ maxLen) (h : stOk o s = true) : Calls Try.prog 35 #[.int .i64 o, .string s] w fun e w' => e = .returned (.tuple #[.string (str (unpackL o s)), .bool true]) ∧ Below w.heap.size w w' := by
  obtain ⟨h1, h2⟩ := stOk_iff.1 h
  have HO := hid (orderOk_iff.1 h1)
  go_enter Try.func35, Try.ntmps35
  go_wp2_with (first | (go_at_call 84; refine (c_streamReadable _ _ _ hs).mono ?_; rintro e w' ⟨rfl, rfl⟩) | (at_make; refine make_bytes0 rfl _ _ 22 rfl w.heap.size 5 Try.underlying22 Try.info_u8b .i64 .i64 _ (s.size * 8) rfl rfl (by omega) (by omega) (Nat.le_refl _) ?_; rintro v1 w1 rfl hown1 hb1 hg1))
  go_loopw [6, 18] (fun v i wr => ∃ k : Nat, k ≤ s.size ∧ i = .int .i64 k ∧ wr.ownsRow w.heap.size 5 1 v (8 * k) ((M.asc (M.unpack (o == 1) (s.data.toList.take k))).map vb) ∧ Below w.heap.size w wr) (fun _ i _ => (s.size - intOf i).toNat)
  case atStart => exact ⟨0, Nat.zero_le _, rfl, by simpa [M.unpack, M.asc] using hown1, by (repeat (first | exact Below.refl _ _ | assumption | refine bel_alloc ?_ _ | refine bel_drew ?_ | refine bel_drewN ?_ _ | refine bel_set ?_ (by first | omega | (simp; done) | (simp; omega)) _ | refine bel_trans ?_ (by assumption)))⟩
  case round =>
    obtain ⟨k, hk, rfl, hown, hbl⟩ := hrel
    have hsz := hbl.size
    by_cases hlt : k < s.size
    · have hb8 := byte_le s k hlt
      have HU := hid (unpack_snoc (o == 1) s k hlt)
      have HD := hid (show dl o ((s[k]).toNat : Int) 8 8 = M.codeBits (o == 1) (s[k]).toNat 8 from dl_codeBits o ((s[k]).toNat : Int) 8 HO.out (by omega))
      go_wp2_with (go_at_call 78; refine (c_appendNumber o _ 8 w.heap.size _ (8 * k) _ _ (by omega) (by omega) (by decide) (by decide) (by omega) (by omega) hown).mono ?_; rintro e w2 ⟨v2, rfl, hown2, hb2⟩)
      go_roundw
      case rel => exact ⟨k + 1, by omega, by go_num, by rw [HU.out, ← HD.out]; exact hown2, hbl.trans hb2⟩
      case measure => simp [intOf]; omega
    · have hcv := run_str Try.underlying22 Try.underlying5 Try.underlying9 hown
      have HK := hid (show M.asc (M.unpack (o == 1) (s.data.toList.take k)) = unpackL o s by rw [List.take_of_length_le (by simp; omega)]; rfl)
      go_wp2
      go_ret2
      exact ⟨by rw [← HK.out]; rfl, by (repeat (first | exact Below.refl _ _ | assumption | refine bel_alloc ?_ _ | refine bel_drew ?_ | refine bel_drewN ?_ _ | refine bel_set ?_ (by first | omega | (simp; done) | (simp; omega)) _ | refine bel_trans ?_ (by assumption)))⟩

set_option maxHeartbeats 1000000 in
theorem c_l1Unpack (o : Int) (s : ByteArray) (w : World) (ho : o = 0 ∨ o = 1) (hs : s.size ≤ 4000) : Calls Try.prog 86 #[.int .i64 o, .string s] w fun e w' => e = .returned (.string (str (unpackL o s))) ∧ Below w.heap.size w w' := by
  have HO := hid ho
  clear ho
  go_enter Try.func86, Try.ntmps86
  go_wp2_with (at_make; refine make_bytes0 rfl _ _ 22 rfl w.heap.size 5 Try.underlying22 Try.info_u8b .i64 .i64 _ (8 * s.size) rfl rfl (by omega) (by omega) (Nat.le_refl _) ?_; rintro v1 w1 rfl hown1 hb1 hg1)
  go_loopw [5, 6] (fun v i wr => ∃ k : Nat, k ≤ s.size ∧ i = .int .i64 k ∧ wr.ownsRow w.heap.size 5 1 v (8 * k) ((M.asc (M.unpack (o == 1) (s.data.toList.take k))).map vb) ∧ Below w.heap.size w wr) (fun _ i _ => (s.size - intOf i).toNat)
  case atStart => exact ⟨0, Nat.zero_le _, rfl, by simpa [M.unpack, M.asc] using hown1, by (repeat (first | exact Below.refl _ _ | assumption | refine bel_alloc ?_ _ | refine bel_drew ?_ | refine bel_drewN ?_ _ | refine bel_set ?_ (by first | omega | (simp; done) | (simp; omega)) _ | refine bel_trans ?_ (by assumption)))⟩
  case round =>
    obtain ⟨k, hk, rfl, hown, hbl⟩ := hrel
    have hsz := hbl.size
    by_cases hlt : k < s.size
    · have hb8 := byte_le s k hlt
      have HU := hid (unpack_snoc (o == 1) s k hlt)
      obtain ⟨C, hC⟩ : ∃ C, C = codeBitsS o ((s[k]).toNat : Int) 8 := ⟨_, rfl⟩
      have hCs : C.size = 8 := by rw [hC, codeBitsS, str_size, codeBits_len]; rfl
      have HC := hid (show ∀ w, Calls Try.prog 89 #[.int .i64 o, .int .i64 ((s[k]).toNat : Int), .int .i64 8] w fun e w' => e = .returned (.string C) ∧ Below w.heap.size w w' by intro w; rw [hC]; exact c_l1Code o _ 8 w HO.out (by omega) (by omega) (by decide) (by decide))
      have HE := hid (show C.data.toList = M.codeBits (o == 1) (s[k]).toNat 8 by rw [hC, codeBitsS, str_list]; rfl)
      have HS := hid hCs
      have hCs2 : C.size ≤ 8 := by omega
      clear hC hCs
      go_wp2_with (first | (go_at_call 89; refine (HC.out _).mono ?_; rintro e w2 ⟨rfl, hb2⟩; have hown2 := own_below hown hb2; have hsz2 := hb2.size) | (at_builtin; refine app_str rfl _ _ 22 9 rfl w.heap.size 5 Try.underlying22 Try.underlying9 Try.info_u8b _ _ _ rfl hown2 C rfl (by omega) (by omega) ?_; intro v3 w3 hown3 hb3 hg3))
      go_roundw
      case rel => exact ⟨k + 1, by omega, by go_num, by rw [HU.out, ← HE.out]; have := hown3; rw [HS.out] at this; exact this, (hbl.trans (hb2.mono (by omega))).trans hb3⟩
      case measure => simp [intOf]; omega
    · have hcv := run_str Try.underlying22 Try.underlying5 Try.underlying9 hown
      have HK := hid (show M.asc (M.unpack (o == 1) (s.data.toList.take k)) = unpackL o s by rw [List.take_of_length_le (by simp; omega)]; rfl)
      go_wp2
      go_ret
      exact ⟨by rw [← HK.out]; rfl, by (repeat (first | exact Below.refl _ _ | assumption | refine bel_alloc ?_ _ | refine bel_drew ?_ | refine bel_drewN ?_ _ | refine bel_set ?_ (by first | omega | (simp; done) | (simp; omega)) _ | refine bel_trans ?_ (by assumption)))⟩
end Go.Proofs.Ytgfclblooadomaa
