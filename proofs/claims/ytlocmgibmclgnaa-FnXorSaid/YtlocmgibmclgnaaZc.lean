/- The walks of the laws on PadBits and PackBits. -/
import Derived.Test.YtlocmgibmclgnaaZb
import Derived.Test.YtlocmgibmclgnaaPad
import Derived.Test.YtlocmgibmclgnaaWfn2
namespace Go.Proofs.Ytlocmgibmclgnaa
open Go.ChangeShapes Go.WideShapes Go.ChangeAt Go.RowKit Go.Joins
set_option linter.unusedVariables false

def sm (c : UInt8) (k : Nat) : ByteArray := str (List.replicate k c)
theorem sm_size (c : UInt8) (k : Nat) : (sm c k).size = k := by rw [sm, str_size, List.length_replicate]
theorem sm_succ (c : UInt8) (k : Nat) : sm c k ++ str [c] = sm c (k + 1) := by
  rw [sm, sm, str_append, List.replicate_succ']
theorem c_soManyC (c : UInt8) (m : Nat) (w : World) (h1 : m ≤ 1000000) : Calls Try.prog 17 #[.string (str [c]), .int .i64 m] w fun e w' => e = .returned (.string (sm c m)) ∧ Below w.heap.size w w' := by
  obtain ⟨Z, hZ⟩ : ∃ Z, Z = str [c] := ⟨_, rfl⟩
  have hZs : Z.size = 1 := by rw [hZ, str_size]; rfl
  have HZ := hid (show ∀ k, sm c k ++ Z = sm c (k + 1) by intro k; rw [hZ]; exact sm_succ c k)
  rw [← hZ]
  clear hZ
  go_enter Try.func17, Try.ntmps17
  go_wp2_with fail
  go_loopw [5, 6] (fun t i wr => ∃ (k : Nat) (T : ByteArray), k ≤ m ∧ i = .int .i64 k ∧ t = .string T ∧ Hid (T = sm c k) ∧ T.size ≤ 1000000 ∧ Below w.heap.size w wr) (fun _ i _ => (m - intOf i).toNat)
  case atStart => exact ⟨0, ByteArray.empty, by omega, rfl, rfl, hid rfl, by simp, by (repeat (first | with_reducible (first | assumption | exact Below.refl _ _ | refine bel_alloc ?_ _ | refine bel_drew ?_ | refine bel_drewN ?_ _ | refine bel_set ?_ (by first | omega | (simp; done) | (simp; omega)) _ | refine bel_trans ?_ (by assumption)) | assumption | refine bel_trans ?_ (by assumption)))⟩
  case round =>
    obtain ⟨k, T, hk, rfl, rfl, HT, hT2, hbl⟩ := hrel
    by_cases hlt : k < m
    · have HT3 := hid (show T ++ Z = sm c (k + 1) by rw [HT.out, HZ.out])
      go_wp2
      go_roundw
      case rel => exact ⟨k + 1, T ++ Z, by omega, by go_num, rfl, HT3, by rw [HT3.out, sm_size]; omega, by (repeat (first | with_reducible (first | assumption | exact Below.refl _ _ | refine bel_alloc ?_ _ | refine bel_drew ?_ | refine bel_drewN ?_ _ | refine bel_set ?_ (by first | omega | (simp; done) | (simp; omega)) _ | refine bel_trans ?_ (by assumption)) | assumption | refine bel_trans ?_ (by assumption)))⟩
      case measure => simp [intOf]; omega
    · have hkm := hid (show k = m by omega)
      go_wp2
      go_ret
      exact ⟨by rw [HT.out, hkm.out]; rfl, by (repeat (first | with_reducible (first | assumption | exact Below.refl _ _ | refine bel_alloc ?_ _ | refine bel_drew ?_ | refine bel_drewN ?_ _ | refine bel_set ?_ (by first | omega | (simp; done) | (simp; omega)) _ | refine bel_trans ?_ (by assumption)) | assumption | refine bel_trans ?_ (by assumption)))⟩

theorem padN_lt (n : Nat) : M.padN n < 8 := by unfold M.padN; omega
theorem padL_ok {s : ByteArray} (h : bitsOk s = true) : bitsOk (padL s) = true := by
  have h1 := bitsOk_size h
  have h2 := padL_bits (bitsOk_all h)
  simp only [bitsOk, h2, Bool.and_true, decide_eq_true_eq, padL_size]; omega
theorem asc_bitsP {s : ByteArray} (h : bitsOk s = true) : M.asc (bitsL s) = s.data.toList := M.asc_bits _ (bitsOk_all h)
theorem padL_padL (s : ByteArray) : padL (padL s) = padL s := by
  have : M.padN (padL s).size = 0 := by rw [padL_size]; unfold M.padN; omega
  rw [padL, this]; simp [str_self]
theorem padL_eq (s : ByteArray) : padL s = s ++ sm 48 (M.padN s.size) := by
  apply ByteArray.ext; apply Array.ext'
  rw [padL, str_list, ByteArray.data_append, Array.toList_append, sm, str_list]
theorem padL_more (s : ByteArray) : (padL s).size = s.size + M.padN s.size := by
  rw [padL, str_size]; simp

theorem walk_FnPadBits (A' : Option Addr) (n cap : Nat) (w : World) (hc : CodeAt w w.heap.size A' n cap) : Calls Try.prog 9 #[.slice A' n cap] w fun e w' => e = .returned (.bool true) ∧ Below w.heap.size w w' := by
  have hbig := big_code hc
  by_cases big : 1048576 < n
  · go_enter Try.func9, Try.ntmps9
    go_wp2_with fail
    go_ret
    exact ⟨rfl, by (repeat (first | with_reducible (first | assumption | exact Below.refl _ _ | refine bel_alloc ?_ _ | refine bel_drew ?_ | refine bel_drewN ?_ _ | refine bel_set ?_ (by first | omega | (simp; done) | (simp; omega)) _ | refine bel_trans ?_ (by assumption)) | assumption | refine bel_trans ?_ (by assumption)))⟩
  · go_enter Try.func9, Try.ntmps9
    go_wp2_with fail
    refine (c_DrawPadBits _ _ _ _ _ hc (Nat.le_refl _)).mono ?_
    rintro e w1 ⟨s, rfl, hs, hb1⟩
    have hsm : s.size ≤ maxLen := by unfold maxLen; omega
    cases h : bitsOk s with
    | false =>
      have H1 := hid (fun w => c_PadBits_no s w hsm h)
      have H2 := hid (fun w => c_sPadBits_no s w hsm h)
      have H3 := hid (show ∀ w, Calls Try.prog 35 #[.string s] w (Same (.bool false) w) by intro w; have := c_BitsValid s w hsm; rw [h] at this; exact this)
      clear h
      go_wp2_with (first | (go_at_call 44; refine (H1.out _).mono ?_; rintro e w2 ⟨rfl, hb2⟩; have hc2 := bcell hb2) | (go_at_call 45; refine (H2.out _).mono ?_; rintro e w3 ⟨rfl, hb3⟩; have hc3 := bcell hb3) | (go_at_call 35; refine (H3.out _).mono ?_; rintro e w' ⟨rfl, rfl⟩))
      go_ret
      exact ⟨by simp_all, by (repeat (first | with_reducible (first | assumption | exact Below.refl _ _ | refine bel_alloc ?_ _ | refine bel_drew ?_ | refine bel_drewN ?_ _ | refine bel_set ?_ (by first | omega | (simp; done) | (simp; omega)) _ | refine bel_trans ?_ (by assumption)) | assumption | refine bel_trans ?_ (by assumption)))⟩
    | true =>
      obtain ⟨P, hP⟩ : ∃ P, P = padL s := ⟨_, rfl⟩
      have hPs : P.size = 8 * ((s.size + 7) / 8) := by rw [hP, padL_size]
      have hPz : P.size = s.size + M.padN s.size := by rw [hP, padL_more]
      have hz := padN_lt s.size
      have H1 := hid (show ∀ w, Calls Try.prog 44 #[.string s] w fun e w' => e = .returned (.tuple #[.string P, .bool true]) ∧ Below w.heap.size w w' by intro w; rw [hP]; exact c_PadBits_yes s w hsm h)
      have H2 := hid (show ∀ w, Calls Try.prog 45 #[.string s] w fun e w' => e = .returned (.tuple #[.string P, .bool true]) ∧ Below w.heap.size w w' by intro w; rw [hP]; exact c_sPadBits_yes s w hsm h)
      have H3 := hid (show ∀ w, Calls Try.prog 35 #[.string s] w (Same (.bool true) w) by intro w; have := c_BitsValid s w hsm; rw [h] at this; exact this)
      have H4 := hid (show ∀ w, Calls Try.prog 44 #[.string P] w fun e w' => e = .returned (.tuple #[.string P, .bool true]) ∧ Below w.heap.size w w' by
        intro w
        have := c_PadBits_yes (padL s) w (by rw [padL_size]; unfold maxLen; omega) (padL_ok h)
        rw [padL_padL] at this
        rw [hP]; exact this)
      obtain ⟨Z, hZ⟩ : ∃ Z, Z = sm 48 (M.padN s.size) := ⟨_, rfl⟩
      have hZs : Z.size ≤ 8 := by rw [hZ, sm_size]; omega
      have hx : (P.size : Int) - (s.size : Int) = ((M.padN s.size : Nat) : Int) := by omega
      have H5 := hid (show ∀ w, Calls Try.prog 17 #[.string ⟨#[48]⟩, .int .i64 ((P.size : Int) - (s.size : Int))] w fun e w' => e = .returned (.string Z) ∧ Below w.heap.size w w' by
        intro w; rw [hx, hZ]; exact c_soManyC 48 _ w (by omega))
      have HE := hid (show P = s ++ Z by rw [hP, hZ]; exact padL_eq s)
      have hm8 : ((P.size : Int) % 8 == 0) = true := eq_yes (by omega)
      have hlt : decide ((P.size : Int) < (s.size : Int) + 8) = true := by simp; omega
      have hPb : P.size ≤ 100000 := by omega
      clear hP hPs hPz hz hx hZ h
      go_wp2_with fail
      refine (H1.out _).mono ?_
      rintro e w2 ⟨rfl, hb2⟩
      go_wp2_with fail
      refine (H2.out _).mono ?_
      rintro e w3 ⟨rfl, hb3⟩
      go_wp2_with fail
      refine (H3.out _).mono ?_
      rintro e w' ⟨rfl, rfl⟩
      go_wp2_with fail
      refine (H4.out _).mono ?_
      rintro e w4 ⟨rfl, hb4⟩
      go_wp2_with fail
      refine (H5.out _).mono ?_
      rintro e w5 ⟨rfl, hb5⟩
      go_wp2_with fail
      go_ret
      exact ⟨by have hE := HE.out; clear H1 H2 H3 H4 H5; simp_all, by (repeat (first | with_reducible (first | assumption | exact Below.refl _ _ | refine bel_alloc ?_ _ | refine bel_drew ?_ | refine bel_drewN ?_ _ | refine bel_set ?_ (by first | omega | (simp; done) | (simp; omega)) _ | refine bel_trans ?_ (by assumption)) | assumption | refine bel_trans ?_ (by assumption)))⟩

theorem unpack_pack (o : Int) {s : ByteArray} (h : bitsOk s = true) : str (unpackL o (packS o s)) = padL s := by
  rw [unpackL, packS, str_list, M.unpack_pack, ← bitsL_padL]
  rw [asc_bitsP (padL_ok h), str_self]
theorem packS_size (o : Int) (s : ByteArray) : (packS o s).size = (s.size + 7) / 8 := by rw [packS, str_size, M.pack_length, bitsL_len]
theorem stOk_pack {o : Int} {s : ByteArray} (ho : orderOk o = true) (h : bitsOk s = true) : stOk o (packS o s) = true := by
  have h1 := bitsOk_size h
  refine stOk_iff.2 ⟨ho, ?_⟩
  rw [packS_size]; omega

set_option maxRecDepth 100000 in
theorem walk_FnPackUnpack (A' : Option Addr) (n cap : Nat) (w : World) (hc : CodeAt w w.heap.size A' n cap) : Calls Try.prog 11 #[.slice A' n cap] w fun e w' => e = .returned (.bool true) ∧ Below w.heap.size w w' := by
  have hbig := big_code hc
  by_cases big : 1048576 < n
  · go_enter Try.func11, Try.ntmps11
    go_wp2_with fail
    go_ret
    exact ⟨rfl, by (repeat (first | with_reducible (first | assumption | exact Below.refl _ _ | refine bel_alloc ?_ _ | refine bel_drew ?_ | refine bel_drewN ?_ _ | refine bel_set ?_ (by first | omega | (simp; done) | (simp; omega)) _ | refine bel_trans ?_ (by assumption)) | assumption | refine bel_trans ?_ (by assumption)))⟩
  · go_enter Try.func11, Try.ntmps11
    go_wp2_with fail
    refine (c_DrawPackBits _ _ _ _ _ hc (Nat.le_refl _)).mono ?_
    rintro e w1 ⟨o, s, rfl, hx, hs, hb1⟩
    have hsm : s.size ≤ maxLen := by unfold maxLen; omega
    by_cases ho : o = 0 ∨ o = 1
    · have ho2 : orderOk o = true := orderOk_iff.2 ho
      cases h : bitsOk s with
      | false =>
        have hp : packOk o s = false := by simp [packOk, h]
        have H1 := hid (fun w => c_PackBits_no o s w hsm hp)
        have H2 := hid (fun w => c_sPackBits_no o s w hsm hp)
        have H3 := hid (show ∀ w, Calls Try.prog 35 #[.string s] w (Same (.bool false) w) by intro w; have := c_BitsValid s w hsm; rw [h] at this; exact this)
        clear h hp ho2
        rcases ho with rfl | rfl
        all_goals
          go_wp2_with fail
          refine (H1.out _).mono ?_
          rintro e w2 ⟨rfl, hb2⟩
          go_wp2_with fail
          refine (H2.out _).mono ?_
          rintro e w3 ⟨rfl, hb3⟩
          go_wp2_with fail
          refine (H3.out _).mono ?_
          rintro e w' ⟨rfl, rfl⟩
          go_wp2_with fail
          go_ret
          exact ⟨by simp_all, by (repeat (first | with_reducible (first | assumption | exact Below.refl _ _ | refine bel_alloc ?_ _ | refine bel_drew ?_ | refine bel_drewN ?_ _ | refine bel_set ?_ (by first | omega | (simp; done) | (simp; omega)) _ | refine bel_trans ?_ (by assumption)) | assumption | refine bel_trans ?_ (by assumption)))⟩
      | true =>
        have hp : packOk o s = true := by simp [packOk, h, ho2]
        obtain ⟨K, hK⟩ : ∃ K, K = packS o s := ⟨_, rfl⟩
        obtain ⟨P, hP⟩ : ∃ P, P = padL s := ⟨_, rfl⟩
        have hKs : K.size = (s.size + 7) / 8 := by rw [hK, packS_size]
        have hPs : P.size = 8 * ((s.size + 7) / 8) := by rw [hP, padL_size]
        have H1 := hid (show ∀ w, Calls Try.prog 47 #[.int .i64 o, .string s] w fun e w' => e = .returned (.tuple #[.string K, .bool true]) ∧ Below w.heap.size w w' by intro w; rw [hK]; exact c_PackBits_yes o s w hsm hp)
        have H2 := hid (show ∀ w, Calls Try.prog 48 #[.int .i64 o, .string s] w fun e w' => e = .returned (.tuple #[.string K, .bool true]) ∧ Below w.heap.size w w' by intro w; rw [hK]; exact c_sPackBits_yes o s w hsm hp)
        have H3 := hid (show ∀ w, Calls Try.prog 35 #[.string s] w (Same (.bool true) w) by intro w; have := c_BitsValid s w hsm; rw [h] at this; exact this)
        have H4 := hid (show ∀ w, Calls Try.prog 49 #[.int .i64 o, .string K] w fun e w' => e = .returned (.tuple #[.string P, .bool true]) ∧ Below w.heap.size w w' by
          intro w
          have := c_UnpackBits_yes o (packS o s) w (by rw [packS_size]; unfold maxLen; omega) (stOk_pack ho2 h)
          rw [unpack_pack o h] at this
          rw [hK, hP]; exact this)
        have H5 := hid (show ∀ w, Calls Try.prog 44 #[.string s] w fun e w' => e = .returned (.tuple #[.string P, .bool true]) ∧ Below w.heap.size w w' by intro w; rw [hP]; exact c_PadBits_yes s w hsm h)
        have hl : (8 * (K.size : Int) == (P.size : Int)) = true := eq_yes (by omega)
        have hKb : K.size ≤ 100000 := by omega
        clear hK hP hKs hPs h hp ho2
        rcases ho with rfl | rfl
        all_goals
          go_wp2_with fail
          refine (H1.out _).mono ?_
          rintro e w2 ⟨rfl, hb2⟩
          go_wp2_with fail
          refine (H2.out _).mono ?_
          rintro e w3 ⟨rfl, hb3⟩
          go_wp2_with fail
          refine (H3.out _).mono ?_
          rintro e w' ⟨rfl, rfl⟩
          go_wp2_with fail
          refine (H4.out _).mono ?_
          rintro e w4 ⟨rfl, hb4⟩
          go_wp2_with fail
          refine (H5.out _).mono ?_
          rintro e w5 ⟨rfl, hb5⟩
          go_wp2_with fail
          go_ret
          exact ⟨by simp_all, by (repeat (first | with_reducible (first | assumption | exact Below.refl _ _ | refine bel_alloc ?_ _ | refine bel_drew ?_ | refine bel_drewN ?_ _ | refine bel_set ?_ (by first | omega | (simp; done) | (simp; omega)) _ | refine bel_trans ?_ (by assumption)) | assumption | refine bel_trans ?_ (by assumption)))⟩
    · have ho2 : orderOk o = false := by
        cases h : orderOk o with
        | false => rfl
        | true => exact absurd (orderOk_iff.1 h) ho
      have hp : packOk o s = false := by simp [packOk, ho2]
      have H1 := hid (fun w => c_PackBits_no o s w hsm hp)
      have H2 := hid (fun w => c_sPackBits_no o s w hsm hp)
      have o0 : (o == 0) = false := eq_no (by omega)
      have o1 : (o == 1) = false := eq_no (by omega)
      clear ho ho2 hp
      go_wp2_with fail
      refine (H1.out _).mono ?_
      rintro e w2 ⟨rfl, hb2⟩
      go_wp2_with fail
      refine (H2.out _).mono ?_
      rintro e w3 ⟨rfl, hb3⟩
      go_wp2_with fail
      go_ret
      exact ⟨by simp_all, by (repeat (first | with_reducible (first | assumption | exact Below.refl _ _ | refine bel_alloc ?_ _ | refine bel_drew ?_ | refine bel_drewN ?_ _ | refine bel_set ?_ (by first | omega | (simp; done) | (simp; omega)) _ | refine bel_trans ?_ (by assumption)) | assumption | refine bel_trans ?_ (by assumption)))⟩

theorem packS_join (o : Int) {s t : ByteArray} (h : bitsOk s = true) : packS o (padL s ++ t) = packS o s ++ packS o t := by
  have e : bitsL (padL s ++ t) = M.pad (bitsL s) ++ bitsL t := by
    rw [← bitsL_padL, bitsL, bitsL, bitsL, ByteArray.data_append, Array.toList_append, List.map_append]
  rw [packS, e, M.pack_append _ _ _ ((s.size + 7) / 8) (by rw [M.pad_length, bitsL_len]), M.pack_pad, packS, packS, str_append]

set_option maxRecDepth 100000 in
theorem walk_FnPackJoin (A' : Option Addr) (n cap : Nat) (A1 : Option Addr) (n1 cap1 : Nat) (w : World) (hc : CodeAt w w.heap.size A' n cap) (hd : CodeAt w w.heap.size A1 n1 cap1) : Calls Try.prog 10 #[.slice A' n cap, .slice A1 n1 cap1] w fun e w' => e = .returned (.bool true) ∧ Below w.heap.size w w' := by
  have hbig := big_code hc
  have hbig1 := big_code hd
  by_cases big : 1048576 < n
  · go_enter Try.func10, Try.ntmps10
    go_wp2_with fail
    go_ret
    exact ⟨rfl, by (repeat (first | with_reducible (first | assumption | exact Below.refl _ _ | refine bel_alloc ?_ _ | refine bel_drew ?_ | refine bel_drewN ?_ _ | refine bel_set ?_ (by first | omega | (simp; done) | (simp; omega)) _ | refine bel_trans ?_ (by assumption)) | assumption | refine bel_trans ?_ (by assumption)))⟩
  · by_cases big1 : 1048576 < n1
    · go_enter Try.func10, Try.ntmps10
      go_wp2_with fail
      go_ret
      exact ⟨rfl, by (repeat (first | with_reducible (first | assumption | exact Below.refl _ _ | refine bel_alloc ?_ _ | refine bel_drew ?_ | refine bel_drewN ?_ _ | refine bel_set ?_ (by first | omega | (simp; done) | (simp; omega)) _ | refine bel_trans ?_ (by assumption)) | assumption | refine bel_trans ?_ (by assumption)))⟩
    · go_enter Try.func10, Try.ntmps10
      go_wp2_with fail
      refine (c_DrawPackBits _ _ _ _ _ hc (Nat.le_refl _)).mono ?_
      rintro e w1 ⟨o, s, rfl, hx, hs, hb1⟩
      have hd1 : CodeAt w1 w.heap.size A1 n1 cap1 := hd.keep (fun k hk => hb1.block k (by omega))
      go_wp2_with fail
      refine (c_DrawPackBits _ _ _ _ _ hd1 (by have := hb1.size; omega)).mono ?_
      rintro e w2 ⟨o2, t, rfl, hx2, ht, hb2⟩
      have hsm : s.size ≤ maxLen := by unfold maxLen; omega
      have htm : t.size ≤ maxLen := by unfold maxLen; omega
      cases hp : packOk o s with
      | false =>
        have H1 := hid (fun w => c_PackBits_no o s w hsm hp)
        have H2 := hid (fun w => c_sPackBits_no o s w hsm hp)
        have H3 := hid (show ∀ w, Calls Try.prog 44 #[.string s] w fun e w' => ∃ (P : ByteArray) (b : Bool), e = .returned (.tuple #[.string P, .bool b]) ∧ Below w.heap.size w w' by
          intro w
          cases h : bitsOk s with
          | true => exact (c_PadBits_yes s w hsm h).mono fun e w' ⟨h1, h2⟩ => ⟨_, _, h1, h2⟩
          | false => exact (c_PadBits_no s w hsm h).mono fun e w' ⟨h1, h2⟩ => ⟨_, _, h1, h2⟩)
        clear hp
        go_wp2_with fail
        refine (H1.out _).mono ?_
        rintro e w3 ⟨rfl, hb3⟩
        go_wp2_with fail
        refine (H2.out _).mono ?_
        rintro e w4 ⟨rfl, hb4⟩
        go_wp2_with fail
        refine (H3.out _).mono ?_
        rintro e w5 ⟨P, b, rfl, hb5⟩
        go_wp2_with fail
        go_ret
        exact ⟨by simp_all, by (repeat (first | with_reducible (first | assumption | exact Below.refl _ _ | refine bel_alloc ?_ _ | refine bel_drew ?_ | refine bel_drewN ?_ _ | refine bel_set ?_ (by first | omega | (simp; done) | (simp; omega)) _ | refine bel_trans ?_ (by assumption)) | assumption | refine bel_trans ?_ (by assumption)))⟩
      | true =>
        have ho2 : orderOk o = true := by simp [packOk] at hp; exact hp.1
        have h : bitsOk s = true := by simp [packOk] at hp; exact hp.2
        obtain ⟨K, hK⟩ : ∃ K, K = packS o s := ⟨_, rfl⟩
        obtain ⟨P, hP⟩ : ∃ P, P = padL s := ⟨_, rfl⟩
        have hPs : P.size ≤ 40000 := by rw [hP, padL_size]; omega
        have hKs : K.size ≤ 40000 := by rw [hK, packS_size]; omega
        have hPt : (P ++ t).size ≤ maxLen := by rw [ByteArray.size_append]; unfold maxLen; omega
        have H1 := hid (show ∀ w, Calls Try.prog 47 #[.int .i64 o, .string s] w fun e w' => e = .returned (.tuple #[.string K, .bool true]) ∧ Below w.heap.size w w' by intro w; rw [hK]; exact c_PackBits_yes o s w hsm hp)
        have H2 := hid (show ∀ w, Calls Try.prog 48 #[.int .i64 o, .string s] w fun e w' => e = .returned (.tuple #[.string K, .bool true]) ∧ Below w.heap.size w w' by intro w; rw [hK]; exact c_sPackBits_yes o s w hsm hp)
        have H3 := hid (show ∀ w, Calls Try.prog 44 #[.string s] w fun e w' => e = .returned (.tuple #[.string P, .bool true]) ∧ Below w.heap.size w w' by intro w; rw [hP]; exact c_PadBits_yes s w hsm h)
        have H4 := hid (fun w => c_BitsValid t w htm)
        have H5 := hid (fun w => c_BitsValid (P ++ t) w hPt)
        cases ht2 : bitsOk t with
        | false =>
          rw [ht2] at H4
          clear hp ho2 h hK hP ht2
          go_wp2_with fail
          refine (H1.out _).mono ?_
          rintro e w3 ⟨rfl, hb3⟩
          go_wp2_with fail
          refine (H2.out _).mono ?_
          rintro e w4 ⟨rfl, hb4⟩
          go_wp2_with fail
          refine (H3.out _).mono ?_
          rintro e w5 ⟨rfl, hb5⟩
          go_wp2_with fail
          refine (H4.out _).mono ?_
          rintro e w' ⟨rfl, rfl⟩
          go_wp2_with fail
          go_ret
          exact ⟨by simp_all, by (repeat (first | with_reducible (first | assumption | exact Below.refl _ _ | refine bel_alloc ?_ _ | refine bel_drew ?_ | refine bel_drewN ?_ _ | refine bel_set ?_ (by first | omega | (simp; done) | (simp; omega)) _ | refine bel_trans ?_ (by assumption)) | assumption | refine bel_trans ?_ (by assumption)))⟩
        | true =>
          rw [ht2] at H4
          cases hb2t : bitsOk (P ++ t) with
          | false =>
            rw [hb2t] at H5
            clear hp ho2 h hK hP ht2 hb2t
            go_wp2_with fail
            refine (H1.out _).mono ?_
            rintro e w3 ⟨rfl, hb3⟩
            go_wp2_with fail
            refine (H2.out _).mono ?_
            rintro e w4 ⟨rfl, hb4⟩
            go_wp2_with fail
            refine (H3.out _).mono ?_
            rintro e w5 ⟨rfl, hb5⟩
            go_wp2_with fail
            refine (H4.out _).mono ?_
            rintro e w' ⟨rfl, rfl⟩
            go_wp2_with fail
            refine (H5.out _).mono ?_
            rintro e w' ⟨rfl, rfl⟩
            go_wp2_with fail
            go_ret
            exact ⟨by simp_all, by (repeat (first | with_reducible (first | assumption | exact Below.refl _ _ | refine bel_alloc ?_ _ | refine bel_drew ?_ | refine bel_drewN ?_ _ | refine bel_set ?_ (by first | omega | (simp; done) | (simp; omega)) _ | refine bel_trans ?_ (by assumption)) | assumption | refine bel_trans ?_ (by assumption)))⟩
          | true =>
            rw [hb2t] at H5
            obtain ⟨Q, hQ⟩ : ∃ Q, Q = packS o t := ⟨_, rfl⟩
            have hQs : Q.size ≤ 40000 := by rw [hQ, packS_size]; omega
            have H6 := hid (show ∀ w, Calls Try.prog 47 #[.int .i64 o, .string t] w fun e w' => e = .returned (.tuple #[.string Q, .bool true]) ∧ Below w.heap.size w w' by intro w; rw [hQ]; exact c_PackBits_yes o t w htm (by simp [packOk, ho2, ht2]))
            have H7 := hid (show ∀ w, Calls Try.prog 47 #[.int .i64 o, .string (P ++ t)] w fun e w' => e = .returned (.tuple #[.string (K ++ Q), .bool true]) ∧ Below w.heap.size w w' by
              intro w
              have := c_PackBits_yes o (P ++ t) w hPt (by simp [packOk, ho2, hb2t])
              rw [hP, packS_join o h] at this
              rw [hP, hK, hQ]; exact this)
            clear hp ho2 h hK hP ht2 hb2t hQ
            go_wp2_with fail
            refine (H1.out _).mono ?_
            rintro e w3 ⟨rfl, hb3⟩
            go_wp2_with fail
            refine (H2.out _).mono ?_
            rintro e w4 ⟨rfl, hb4⟩
            go_wp2_with fail
            refine (H3.out _).mono ?_
            rintro e w5 ⟨rfl, hb5⟩
            go_wp2_with fail
            refine (H4.out _).mono ?_
            rintro e w' ⟨rfl, rfl⟩
            go_wp2_with fail
            refine (H5.out _).mono ?_
            rintro e w' ⟨rfl, rfl⟩
            go_wp2_with fail
            refine (H6.out _).mono ?_
            rintro e w6 ⟨rfl, hb6⟩
            go_wp2_with fail
            refine (H7.out _).mono ?_
            rintro e w7 ⟨rfl, hb7⟩
            go_wp2_with fail
            go_ret
            exact ⟨by simp_all, by (repeat (first | with_reducible (first | assumption | exact Below.refl _ _ | refine bel_alloc ?_ _ | refine bel_drew ?_ | refine bel_drewN ?_ _ | refine bel_set ?_ (by first | omega | (simp; done) | (simp; omega)) _ | refine bel_trans ?_ (by assumption)) | assumption | refine bel_trans ?_ (by assumption)))⟩
end Go.Proofs.Ytlocmgibmclgnaa
