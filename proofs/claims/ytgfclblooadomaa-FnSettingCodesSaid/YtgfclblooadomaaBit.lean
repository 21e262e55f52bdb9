/- Contracts of UnpackBits by the model, BitAt and SpanBits in both programs. -/
import Derived.Test.YtgfclblooadomaaUnp
namespace Go.Proofs.Ytgfclblooadomaa
open Go.ChangeShapes Go.WideShapes Go.ChangeAt Go.RowKit Go.Joins
set_option linter.unusedVariables false

theorem c_sUnpackBits_no (o : Int) (s : ByteArray) (w : World) (hs : s.size ≤ maxLen) (h : stOk o s = false) : Calls Try.prog 36 #[.int .i64 o, .string s] w fun e w' => e = .returned (.tuple #[.string ByteArray.empty, .bool false]) ∧ Below w.heap.size w w' := by
  go_enter Try.func36, Try.ntmps36
  go_wp2_with (go_at_call 85; refine (c_l1Stream _ _ _ hs).mono ?_; rintro e w' ⟨rfl, rfl⟩)
  go_ret2
  exact ⟨rfl, by (repeat (first | exact Below.refl _ _ | assumption | refine bel_alloc ?_ _ | refine bel_drew ?_ | refine bel_drewN ?_ _ | refine bel_set ?_ (by first | omega | (simp; done) | (simp; omega)) _ | refine bel_trans ?_ (by assumption)))⟩

theorem c_sUnpackBits_yes (o : Int) (s : ByteArray) (w : World) (hs : s.size ≤ maxLen) (h : stOk o s = true) : Calls Try.prog 36 #[.int .i64 o, .string s] w fun e w' => e = .returned (.tuple #[.string (str (unpackL o s)), .bool true]) ∧ Below w.heap.size w w' := by
  obtain ⟨h1, h2⟩ := stOk_iff.1 h
  have HO := hid (orderOk_iff.1 h1)
  go_enter Try.func36, Try.ntmps36
  go_wp2_with (first | (go_at_call 85; refine (c_l1Stream _ _ _ hs).mono ?_; rintro e w' ⟨rfl, rfl⟩) | (go_at_call 86; refine (c_l1Unpack _ _ _ HO.out h2).mono ?_; rintro e w1 ⟨rfl, hb1⟩; have hc1 := bcell hb1))
  go_ret2
  exact ⟨rfl, by (repeat (first | exact Below.refl _ _ | assumption | refine bel_alloc ?_ _ | refine bel_drew ?_ | refine bel_drewN ?_ _ | refine bel_set ?_ (by first | omega | (simp; done) | (simp; omega)) _ | refine bel_trans ?_ (by assumption)))⟩

/-- the bit with an index, of a stream that has it -/
def bitV (o : Int) (s : ByteArray) (a : Nat) : Int := dgI (((s.data.toList[a / 8]?.getD 0).toNat : Nat) : Int) (place o ((a % 8 : Nat) : Int) 8)
theorem bitV_bd (o : Int) (s : ByteArray) (a : Nat) : 0 ≤ bitV o s a ∧ bitV o s a ≤ 1 := dgI_bd _ _
theorem byte_getD (s : ByteArray) (k : Nat) (h : k < s.size) : s.data.toList[k]?.getD 0 = s[k] := by
  rw [List.getElem?_eq_getElem (by simpa using h)]; rfl

theorem c_bitAt (o : Int) (s : ByteArray) (a : Nat) (A : Int) (hA : A = (a : Int)) (w : World) (ha : a < 8 * s.size) (hs : s.size ≤ 4000) : Calls Try.prog 88 #[.int .i64 o, .string s, .int .i64 A] w (Same (.int .i64 (bitV o s a)) w) := by
  subst hA
  have h8 : a / 8 < s.size := by omega
  have hb8 := byte_le s (a / 8) h8
  have HV := hid (show bitV o s a = dgI ((s[a / 8]).toNat : Int) (place o ((a : Int) % 8) 8) by rw [bitV, byte_getD s _ h8]; rfl)
  go_enter Try.func88, Try.ntmps88
  go_wp2_with (go_at_call 98; refine (c_digit _ _ _ _ _ (by omega) (by omega) (by omega) (by omega) (by decide)).mono ?_; rintro e w' ⟨rfl, rfl⟩)
  go_ret
  exact ⟨ret_int (by rw [HV.out]), rfl⟩

def bitAtV (o : Int) (s : ByteArray) (at' : Int) : Int := if stOk o s = true ∧ 0 ≤ at' ∧ at' < 8 * s.size then bitV o s at'.toNat else -1

theorem c_BitAt (o : Int) (s : ByteArray) (i : Int) (w : World) (hs : s.size ≤ maxLen) (hi : -9223372036854775808 ≤ i ∧ i ≤ 9223372036854775807) : Calls Try.prog 42 #[.int .i64 o, .string s, .int .i64 i] w (Same (.int .i64 (bitAtV o s i)) w) := by
  cases h : stOk o s with
  | false =>
    go_enter Try.func42, Try.ntmps42
    go_wp2_with (go_at_call 84; refine (c_streamReadable _ _ _ hs).mono ?_; rintro e w' ⟨rfl, rfl⟩)
    go_ret
    exact ⟨ret_int (by rw [bitAtV, if_neg (by simp [h])]), rfl⟩
  | true =>
    have h4 := (stOk_iff.1 h).2
    by_cases h0 : i < 0
    · go_enter Try.func42, Try.ntmps42
      go_wp2_with (go_at_call 84; refine (c_streamReadable _ _ _ hs).mono ?_; rintro e w' ⟨rfl, rfl⟩)
      go_ret
      exact ⟨ret_int (by rw [bitAtV, if_neg (by omega)]), rfl⟩
    · by_cases h1 : i < 8 * (s.size : Int)
      · go_enter Try.func42, Try.ntmps42
        go_wp2_with (first | (go_at_call 84; refine (c_streamReadable _ _ _ hs).mono ?_; rintro e w' ⟨rfl, rfl⟩) | (go_at_call 88; refine (c_bitAt o s i.toNat i (by omega) _ (by omega) (by omega)).mono ?_; rintro e w' ⟨rfl, rfl⟩))
        go_ret
        exact ⟨ret_int (by rw [bitAtV, if_pos ⟨h, by omega, by omega⟩]), rfl⟩
      · go_enter Try.func42, Try.ntmps42
        go_wp2_with (go_at_call 84; refine (c_streamReadable _ _ _ hs).mono ?_; rintro e w' ⟨rfl, rfl⟩)
        go_ret
        exact ⟨ret_int (by rw [bitAtV, if_neg (by omega)]), rfl⟩

theorem codeBits_at (o : Int) (c : Nat) (i : Nat) (ho : o = 0 ∨ o = 1) (hi : i < 8) (h : i < (codeBitsS o c 8).size) : (((codeBitsS o c 8)[i]'h).toNat : Int) = 48 + dgI c (place o i 8) := by
  have e : (codeBitsS o c 8).data.toList = dl o c 8 8 := by rw [codeBitsS, str_list]; exact (dl_codeBits o c 8 ho (by omega)).symm
  have e1 : (codeBitsS o c 8)[i]'h = (codeBitsS o c 8).data.toList[i]'(by simpa using h) := rfl
  have e2 : (codeBitsS o c 8).data.toList[i]? = some (M.chr (dgI c (place o i 8) == 1)) := by
    rw [e]; simp [dl, hi]
  rw [List.getElem?_eq_getElem (by simpa using h)] at e2
  rw [e1, Option.some.inj e2, chr_dg]

theorem c_sBitAt (o : Int) (s : ByteArray) (i : Int) (w : World) (hs : s.size ≤ maxLen) (hi : -9223372036854775808 ≤ i ∧ i ≤ 9223372036854775807) : Calls Try.prog 43 #[.int .i64 o, .string s, .int .i64 i] w fun e w' => e = .returned (.int .i64 (bitAtV o s i)) ∧ Below w.heap.size w w' := by
  cases h : stOk o s with
  | false =>
    go_enter Try.func43, Try.ntmps43
    go_wp2_with (go_at_call 85; refine (c_l1Stream _ _ _ hs).mono ?_; rintro e w' ⟨rfl, rfl⟩)
    go_ret
    exact ⟨ret_int (by rw [bitAtV, if_neg (by simp [h])]), by (repeat (first | exact Below.refl _ _ | assumption | refine bel_alloc ?_ _ | refine bel_drew ?_ | refine bel_drewN ?_ _ | refine bel_set ?_ (by first | omega | (simp; done) | (simp; omega)) _ | refine bel_trans ?_ (by assumption)))⟩
  | true =>
    have h4 := (stOk_iff.1 h).2
    by_cases h0 : i < 0
    · go_enter Try.func43, Try.ntmps43
      go_wp2_with (go_at_call 85; refine (c_l1Stream _ _ _ hs).mono ?_; rintro e w' ⟨rfl, rfl⟩)
      go_ret
      exact ⟨ret_int (by rw [bitAtV, if_neg (by omega)]), by (repeat (first | exact Below.refl _ _ | assumption | refine bel_alloc ?_ _ | refine bel_drew ?_ | refine bel_drewN ?_ _ | refine bel_set ?_ (by first | omega | (simp; done) | (simp; omega)) _ | refine bel_trans ?_ (by assumption)))⟩
    · by_cases h1 : i < 8 * (s.size : Int)
      · obtain ⟨a, rfl⟩ := Int.eq_ofNat_of_zero_le (by omega : 0 ≤ i)
        have HO := hid (orderOk_iff.1 (stOk_iff.1 h).1)
        have h8 : a / 8 < s.size := by omega
        have hb8 := byte_le s (a / 8) h8
        obtain ⟨C, hC⟩ : ∃ C, C = codeBitsS o ((s[a / 8]).toNat : Int) 8 := ⟨_, rfl⟩
        have hCs : C.size = 8 := by rw [hC, codeBitsS, str_size, codeBits_len]; rfl
        have hCa : a % 8 < C.size := by omega
        have hat : ((C[a % 8]'hCa).toNat : Int) = 48 + bitV o s a := by
          subst hC; rw [codeBits_at o _ _ HO.out (by omega), bitV, byte_getD s _ h8]
        have hbd := bitV_bd o s a
        have HV := hid (show bitAtV o s a = bitV o s a by rw [bitAtV, if_pos ⟨h, by omega, by omega⟩]; rfl)
        have HC := hid (show ∀ w, Calls Try.prog 89 #[.int .i64 o, .int .i64 ((s[a / 8]).toNat : Int), .int .i64 8] w fun e w' => e = .returned (.string C) ∧ Below w.heap.size w w' by intro w; rw [hC]; exact c_l1Code o _ 8 w HO.out (by omega) (by omega) (by decide) (by decide))
        have HA := hid hat
        have hb2 : 48 ≤ ((C[a % 8]'hCa).toNat : Int) ∧ ((C[a % 8]'hCa).toNat : Int) ≤ 49 := by omega
        clear hC hat
        go_enter Try.func43, Try.ntmps43
        go_wp2_with (first | (go_at_call 85; refine (c_l1Stream _ _ _ hs).mono ?_; rintro e w' ⟨rfl, rfl⟩) | (go_at_call 89; refine (HC.out _).mono ?_; rintro e w1 ⟨rfl, hb1⟩; have hc1 := bcell hb1))
        go_ret
        exact ⟨ret_int (by rw [HV.out, HA.out]; omega), by (repeat (first | exact Below.refl _ _ | assumption | refine bel_alloc ?_ _ | refine bel_drew ?_ | refine bel_drewN ?_ _ | refine bel_set ?_ (by first | omega | (simp; done) | (simp; omega)) _ | refine bel_trans ?_ (by assumption)))⟩
      · go_enter Try.func43, Try.ntmps43
        go_wp2_with (go_at_call 85; refine (c_l1Stream _ _ _ hs).mono ?_; rintro e w' ⟨rfl, rfl⟩)
        go_ret
        exact ⟨ret_int (by rw [bitAtV, if_neg (by omega)]), by (repeat (first | exact Below.refl _ _ | assumption | refine bel_alloc ?_ _ | refine bel_drew ?_ | refine bel_drewN ?_ _ | refine bel_set ?_ (by first | omega | (simp; done) | (simp; omega)) _ | refine bel_trans ?_ (by assumption)))⟩

theorem unpackL_len (o : Int) (s : ByteArray) : (unpackL o s).length = 8 * s.size := by simp [unpackL, M.asc, M.unpack_length]
theorem unpackL_get (o : Int) (s : ByteArray) (j : Nat) (ho : o = 0 ∨ o = 1) (hj : j < 8 * s.size) : (unpackL o s)[j]? = some (M.chr (bitV o s j == 1)) := by
  have e : dl o (((s.data.toList[j / 8]?.getD 0).toNat : Nat) : Int) 8 8 = M.codeBits (o == 1) (s.data.toList[j / 8]?.getD 0).toNat 8 := dl_codeBits o _ 8 ho (by omega)
  have e2 : M.asc (M.byteBits (o == 1) (s.data.toList[j / 8]?.getD 0)) = dl o (((s.data.toList[j / 8]?.getD 0).toNat : Nat) : Int) 8 8 := by rw [e]; rfl
  rw [unpackL, M.asc, List.getElem?_map, M.unpack_get _ _ _ (by simpa using hj), ← List.getElem?_map]
  have e3 : (M.byteBits (o == 1) (s.data.toList[j / 8]?.getD 0)).map M.chr = dl o (((s.data.toList[j / 8]?.getD 0).toNat : Nat) : Int) 8 8 := e2
  rw [e3]
  simp only [dl, bitV]
  rw [List.getElem?_map, List.getElem?_range (by omega)]
  rfl

def spanOk (o : Int) (s : ByteArray) (f n : Int) : Bool := stOk o s && inB f 0 (8 * s.size) && inB n 0 (8 * s.size - f)
def spanL (o : Int) (s : ByteArray) (f n : Nat) : List UInt8 := ((unpackL o s).drop f).take n
theorem spanOk_iff {o : Int} {s : ByteArray} {f n : Int} : spanOk o s f n = true ↔ stOk o s = true ∧ (0 ≤ f ∧ f ≤ 8 * s.size) ∧ 0 ≤ n ∧ n ≤ 8 * s.size - f := by simp [spanOk, inB, and_assoc]
theorem spanL_snoc (o : Int) (s : ByteArray) (f k : Nat) (ho : o = 0 ∨ o = 1) (h : f + k < 8 * s.size) : spanL o s f (k + 1) = spanL o s f k ++ [M.chr (bitV o s (f + k) == 1)] := by
  have h1 := unpackL_get o s (f + k) ho h
  rw [spanL, List.take_add_one, List.getElem?_drop, h1]; rfl
theorem spanL_len (o : Int) (s : ByteArray) (f k : Nat) (h : f + k ≤ 8 * s.size) : (spanL o s f k).length = k := by
  simp [spanL, unpackL_len]; omega
theorem chr_bitV (o : Int) (s : ByteArray) (j : Nat) : 48 + bitV o s j = ((M.chr (bitV o s j == 1)).toNat : Int) := chr_dg _ _

theorem c_SpanBits_no (o : Int) (s : ByteArray) (f n : Int) (w : World) (hs : s.size ≤ maxLen) (h : spanOk o s f n = false) : Calls Try.prog 45 #[.int .i64 o, .string s, .int .i64 f, .int .i64 n] w fun e w' => e = .returned (.tuple #[.string ByteArray.empty, .bool false]) ∧ Below w.heap.size w w' := by
  cases h1 : stOk o s with
  | false =>
    go_enter Try.func45, Try.ntmps45
    go_wp2_with (go_at_call 84; refine (c_streamReadable _ _ _ hs).mono ?_; rintro e w' ⟨rfl, rfl⟩)
    go_ret2
    exact ⟨rfl, by (repeat (first | exact Below.refl _ _ | assumption | refine bel_alloc ?_ _ | refine bel_drew ?_ | refine bel_drewN ?_ _ | refine bel_set ?_ (by first | omega | (simp; done) | (simp; omega)) _ | refine bel_trans ?_ (by assumption)))⟩
  | true =>
    have h4 := (stOk_iff.1 h1).2
    by_cases h2 : f < 0
    · go_enter Try.func45, Try.ntmps45
      go_wp2_with (go_at_call 84; refine (c_streamReadable _ _ _ hs).mono ?_; rintro e w' ⟨rfl, rfl⟩)
      go_ret2
      exact ⟨rfl, by (repeat (first | exact Below.refl _ _ | assumption | refine bel_alloc ?_ _ | refine bel_drew ?_ | refine bel_drewN ?_ _ | refine bel_set ?_ (by first | omega | (simp; done) | (simp; omega)) _ | refine bel_trans ?_ (by assumption)))⟩
    · by_cases h3 : n < 0
      · go_enter Try.func45, Try.ntmps45
        go_wp2_with (go_at_call 84; refine (c_streamReadable _ _ _ hs).mono ?_; rintro e w' ⟨rfl, rfl⟩)
        go_ret2
        exact ⟨rfl, by (repeat (first | exact Below.refl _ _ | assumption | refine bel_alloc ?_ _ | refine bel_drew ?_ | refine bel_drewN ?_ _ | refine bel_set ?_ (by first | omega | (simp; done) | (simp; omega)) _ | refine bel_trans ?_ (by assumption)))⟩
      · by_cases h5 : 8 * (s.size : Int) < f
        · go_enter Try.func45, Try.ntmps45
          go_wp2_with (go_at_call 84; refine (c_streamReadable _ _ _ hs).mono ?_; rintro e w' ⟨rfl, rfl⟩)
          go_ret2
          exact ⟨rfl, by (repeat (first | exact Below.refl _ _ | assumption | refine bel_alloc ?_ _ | refine bel_drew ?_ | refine bel_drewN ?_ _ | refine bel_set ?_ (by first | omega | (simp; done) | (simp; omega)) _ | refine bel_trans ?_ (by assumption)))⟩
        · have h6 : 8 * (s.size : Int) - f < n := by
            have : ¬ (spanOk o s f n = true) := by simp [h]
            rw [spanOk_iff] at this
            have : ¬ n ≤ 8 * (s.size : Int) - f := fun h => this ⟨h1, by omega, by omega, h⟩
            omega
          go_enter Try.func45, Try.ntmps45
          go_wp2_with (go_at_call 84; refine (c_streamReadable _ _ _ hs).mono ?_; rintro e w' ⟨rfl, rfl⟩)
          go_ret2
          exact ⟨rfl, by (repeat (first | exact Below.refl _ _ | assumption | refine bel_alloc ?_ _ | refine bel_drew ?_ | refine bel_drewN ?_ _ | refine bel_set ?_ (by first | omega | (simp; done) | (simp; omega)) _ | refine bel_trans ?_ (by assumption)))⟩

set_option maxHeartbeats 1000000 in
theorem c_SpanBits_yes (o : Int) (s : ByteArray) (f n : Int) (w : World) (hs : s.size ≤ maxLen) (h : spanOk o s f n = true) : Calls Try.prog 45 #[.int .i64 o, .string s, .int .i64 f, .int .i64 n] w fun e w' => e = .returned (.tuple #[.string (str (spanL o s f.toNat n.toNat)), .bool true]) ∧ Below w.heap.size w w' := by
  obtain ⟨h1, ⟨h2, h3⟩, h5, h6⟩ := spanOk_iff.1 h
  have h4 := (stOk_iff.1 h1).2
  have HO := hid (orderOk_iff.1 (stOk_iff.1 h1).1)
  obtain ⟨F, rfl⟩ := Int.eq_ofNat_of_zero_le h2
  obtain ⟨N, rfl⟩ := Int.eq_ofNat_of_zero_le h5
  rw [Int.toNat_natCast, Int.toNat_natCast]
  clear h
  go_enter Try.func45, Try.ntmps45
  go_wp2_with (first | (go_at_call 84; refine (c_streamReadable _ _ _ hs).mono ?_; rintro e w' ⟨rfl, rfl⟩) | (at_make; refine make_bytes rfl _ _ 22 rfl w.heap.size 5 Try.underlying22 Try.info_u8b .i64 .i64 _ _ N rfl rfl (by omega) (by omega) (by omega) (Nat.le_refl _) ?_; intro w1 hown1 hb1 hg1))
  go_loopw [42] (fun i wr => ∃ k : Nat, k ≤ N ∧ i = .int .i64 k ∧ wr.ownsRow w.heap.size 5 1 (.slice (some ⟨w.heap.size, 0, none⟩) N N) N ((spanL o s F k ++ List.replicate (N - k) (0 : UInt8)).map vb) ∧ Below w.heap.size w wr) (fun i _ => N - (intOf i).toNat)
  case atStart => exact ⟨0, Nat.zero_le _, rfl, by simpa [spanL] using hown1, by (repeat (first | exact Below.refl _ _ | assumption | refine bel_alloc ?_ _ | refine bel_drew ?_ | refine bel_drewN ?_ _ | refine bel_set ?_ (by first | omega | (simp; done) | (simp; omega)) _ | refine bel_trans ?_ (by assumption)))⟩
  case round =>
    obtain ⟨k, hk, rfl, hown, hbl⟩ := hrel
    by_cases hlt : k < N
    · have hcell := own_cell hown k hlt
      have hfr := hown.frozenAt k
      have hbd := bitV_bd o s (F + k)
      go_wp2_with (go_at_call 88; refine (c_bitAt o s (F + k) _ (by omega) _ (by omega) (by omega)).mono ?_; rintro e w' ⟨rfl, rfl⟩)
      have hst := own_store hown (by rw [spanL_len _ _ _ _ (by omega)]) hlt (M.chr (bitV o s (F + k) == 1)) _ (chr_bitV o s (F + k))
      go_roundw
      case rel => exact ⟨k + 1, by omega, by go_num, by rw [spanL_snoc _ _ _ _ HO.out (by omega)]; exact hst.1, by (repeat (first | exact Below.refl _ _ | assumption | refine bel_alloc ?_ _ | refine bel_drew ?_ | refine bel_drewN ?_ _ | refine bel_set ?_ (by first | omega | (simp; done) | (simp; omega)) _ | refine bel_trans ?_ (by assumption)))⟩
      case measure => simp [intOf]; omega
    · have hcv := run_str (l := spanL o s F N) Try.underlying22 Try.underlying5 Try.underlying9 (by rw [show N - k = 0 from by omega, show k = N from by omega, List.replicate_zero, List.append_nil] at hown; exact hown)
      go_wp2
      go_ret2
      exact ⟨rfl, by (repeat (first | exact Below.refl _ _ | assumption | refine bel_alloc ?_ _ | refine bel_drew ?_ | refine bel_drewN ?_ _ | refine bel_set ?_ (by first | omega | (simp; done) | (simp; omega)) _ | refine bel_trans ?_ (by assumption)))⟩

theorem c_sSpanBits_no (o : Int) (s : ByteArray) (f n : Int) (w : World) (hs : s.size ≤ maxLen) (h : spanOk o s f n = false) : Calls Try.prog 46 #[.int .i64 o, .string s, .int .i64 f, .int .i64 n] w fun e w' => e = .returned (.tuple #[.string ByteArray.empty, .bool false]) ∧ Below w.heap.size w w' := by
  cases h1 : stOk o s with
  | false =>
    go_enter Try.func46, Try.ntmps46
    go_wp2_with (first | (go_at_call 85; refine (c_l1Stream _ _ _ hs).mono ?_; rintro e w' ⟨rfl, rfl⟩) | (go_at_call 75; refine (c_l1In _ _ _ _).mono ?_; rintro e w' ⟨rfl, rfl⟩))
    go_ret2
    exact ⟨rfl, by (repeat (first | exact Below.refl _ _ | assumption | refine bel_alloc ?_ _ | refine bel_drew ?_ | refine bel_drewN ?_ _ | refine bel_set ?_ (by first | omega | (simp; done) | (simp; omega)) _ | refine bel_trans ?_ (by assumption)))⟩
  | true =>
    have h4 := (stOk_iff.1 h1).2
    cases h2 : inB f 0 (8 * (s.size : Int)) with
    | false =>
      go_enter Try.func46, Try.ntmps46
      go_wp2_with (first | (go_at_call 85; refine (c_l1Stream _ _ _ hs).mono ?_; rintro e w' ⟨rfl, rfl⟩) | (go_at_call 75; refine (c_l1In _ _ _ _).mono ?_; rintro e w' ⟨rfl, rfl⟩))
      go_ret2
      exact ⟨rfl, by (repeat (first | exact Below.refl _ _ | assumption | refine bel_alloc ?_ _ | refine bel_drew ?_ | refine bel_drewN ?_ _ | refine bel_set ?_ (by first | omega | (simp; done) | (simp; omega)) _ | refine bel_trans ?_ (by assumption)))⟩
    | true =>
      have hf := inB_iff.1 h2
      have h3 : inB n 0 (8 * (s.size : Int) - f) = false := by simpa [spanOk, h1, h2] using h
      go_enter Try.func46, Try.ntmps46
      go_wp2_with (first | (go_at_call 85; refine (c_l1Stream _ _ _ hs).mono ?_; rintro e w' ⟨rfl, rfl⟩) | (go_at_call 75; refine (c_l1In _ _ _ _).mono ?_; rintro e w' ⟨rfl, rfl⟩))
      go_ret2
      exact ⟨rfl, by (repeat (first | exact Below.refl _ _ | assumption | refine bel_alloc ?_ _ | refine bel_drew ?_ | refine bel_drewN ?_ _ | refine bel_set ?_ (by first | omega | (simp; done) | (simp; omega)) _ | refine bel_trans ?_ (by assumption)))⟩

theorem c_sSpanBits_yes (o : Int) (s : ByteArray) (f n : Int) (w : World) (hs : s.size ≤ maxLen) (h : spanOk o s f n = true) : Calls Try.prog 46 #[.int .i64 o, .string s, .int .i64 f, .int .i64 n] w fun e w' => e = .returned (.tuple #[.string (str (spanL o s f.toNat n.toNat)), .bool true]) ∧ Below w.heap.size w w' := by
  obtain ⟨h1, ⟨h2, h3⟩, h5, h6⟩ := spanOk_iff.1 h
  have h4 := (stOk_iff.1 h1).2
  have HO := hid (orderOk_iff.1 (stOk_iff.1 h1).1)
  have i1 : inB f 0 (8 * (s.size : Int)) = true := inB_iff.2 ⟨h2, h3⟩
  have i2 : inB n 0 (8 * (s.size : Int) - f) = true := inB_iff.2 ⟨h5, h6⟩
  obtain ⟨F, rfl⟩ := Int.eq_ofNat_of_zero_le h2
  obtain ⟨N, rfl⟩ := Int.eq_ofNat_of_zero_le h5
  rw [Int.toNat_natCast, Int.toNat_natCast]
  clear h
  obtain ⟨U, hU⟩ : ∃ U, U = str (unpackL o s) := ⟨_, rfl⟩
  have hUs : F + N ≤ U.size := by rw [hU, str_size, unpackL_len]; omega
  have HC := hid (show ∀ w, Calls Try.prog 86 #[.int .i64 o, .string s] w fun e w' => e = .returned (.string U) ∧ Below w.heap.size w w' by intro w; rw [hU]; exact c_l1Unpack o s w HO.out h4)
  have HS := hid (show U.extract F (F + N) = str (spanL o s F N) by
    rw [← str_self (U.extract F (F + N)), Lib.extract_data, hU, str_list, spanL, show F + N - F = N from by omega])
  have hsl := slice_str (P := Try.prog) Try.underlying9 U (F : Int) ((F : Int) + (N : Int)) F (F + N) rfl (by omega) (by omega) hUs
  clear hU
  go_enter Try.func46, Try.ntmps46
  go_wp2_with (first | (go_at_call 85; refine (c_l1Stream _ _ _ hs).mono ?_; rintro e w' ⟨rfl, rfl⟩) | (go_at_call 75; refine (c_l1In _ _ _ _).mono ?_; rintro e w' ⟨rfl, rfl⟩) | (go_at_call 86; refine (HC.out _).mono ?_; rintro e w1 ⟨rfl, hb1⟩; have hc1 := bcell hb1))
  go_ret2
  exact ⟨by rw [HS.out]; rfl, by (repeat (first | exact Below.refl _ _ | assumption | refine bel_alloc ?_ _ | refine bel_drew ?_ | refine bel_drewN ?_ _ | refine bel_set ?_ (by first | omega | (simp; done) | (simp; omega)) _ | refine bel_trans ?_ (by assumption)))⟩
end Go.Proofs.Ytgfclblooadomaa
