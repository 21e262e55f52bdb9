/- Contracts of PackBits in both programs, and of what it calls. -/
import Derived.Test.YtgfclblooadomaaRb
namespace Go.Proofs.Ytgfclblooadomaa
open Go.ChangeShapes Go.WideShapes Go.ChangeAt Go.RowKit Go.Joins
set_option linter.unusedVariables false

/-- a word n times -/
def rep (l : List UInt8) (n : Nat) : List UInt8 := (List.replicate n l).flatten
theorem rep_len (l : List UInt8) (n : Nat) : (rep l n).length = n * l.length := by simp [rep]
theorem rep_add (l : List UInt8) (a b : Nat) : rep l a ++ rep l b = rep l (a + b) := by simp [rep, ← List.replicate_append_replicate]

theorem c_l9Many (l : List UInt8) (n : Int) (w : World) (h0 : 0 ≤ n) (h1 : n ≤ 1000000) (hl : l.length ≤ 1000) : Calls Try.prog 83 #[.string (str l), .int .i64 n] w (Same (.string (str (rep l n.toNat))) w) := by
  go_enter Try.func83, Try.ntmps83
  go_wp2_with fail
  go_loop [0, 1, 5] (fun s m t => ∃ a b k : Nat, s = .string (str (rep l b)) ∧ t = .string (str (rep l a)) ∧ m = .int .i64 k ∧ Hid (a + b * k = n.toNat) ∧ k ≤ 1000000 ∧ a ≤ 1000000 ∧ b ≤ 2000000) (fun _ m _ => (intOf m).toNat)
  case atStart => exact ⟨0, 1, n.toNat, by simp [rep], by simp [rep, str], by rw [Int.toNat_of_nonneg h0], hid (by omega), by omega, by omega, by omega⟩
  case round =>
    obtain ⟨a, b, k, hs, ht, rfl, HK, hk, ha, hb⟩ := hrel
    obtain ⟨Sa, hSa⟩ : ∃ S, S = str (rep l a) := ⟨_, rfl⟩
    obtain ⟨Sb, hSb⟩ : ∃ S, S = str (rep l b) := ⟨_, rfl⟩
    have hla : Sa.size ≤ 1000000000 := by rw [hSa, str_size, rep_len]; exact Nat.le_trans (Nat.mul_le_mul ha hl) (by omega)
    have hlb : Sb.size ≤ 2000000000 := by rw [hSb, str_size, rep_len]; exact Nat.le_trans (Nat.mul_le_mul hb hl) (by omega)
    rw [← hSa] at ht
    rw [← hSb] at hs
    subst hs ht
    have HSa := hid hSa
    have HSb := hid hSb
    clear hSa hSb
    by_cases hz : k = 0
    · subst hz
      go_wp2
      go_ret
      exact ⟨ret_str (by rw [HSa.out, ← HK.out]; simp), rfl⟩
    · have hkn : b * k ≤ n.toNat := by have := HK.out; omega
      have hb2 : b ≤ n.toNat := Nat.le_trans (Nat.le_mul_of_pos_right b (by omega)) hkn
      clear hkn
      by_cases hm : k % 2 = 1
      · have hm2 : ((k : Int) % 2 == 1) = true := eq_yes (by omega)
        have hk2 := hid (show a + b + (b + b) * (k / 2) = n.toNat by
          have h3 : k = 2 * (k / 2) + 1 := by omega
          have := HK.out
          rw [h3, Nat.mul_add, ← Nat.mul_assoc, Nat.mul_comm b 2, Nat.two_mul] at this
          omega)
        have ha2 : a + b ≤ n.toNat := by have := hk2.out; omega
        have HM := hid hm
        clear hm
        go_wp2
        go_round
        case rel => exact ⟨a + b, b + b, k / 2, by rw [HSb.out, str_append, rep_add], by rw [HSa.out, HSb.out, str_append, rep_add], by go_num, hk2, by omega, by omega, by omega⟩
        case measure => simp [intOf]; omega
      · have hm2 : ((k : Int) % 2 == 1) = false := eq_no (by omega)
        have hk2 := hid (show a + (b + b) * (k / 2) = n.toNat by
          have h3 : k = 2 * (k / 2) := by omega
          have := HK.out
          rw [h3, ← Nat.mul_assoc, Nat.mul_comm b 2, Nat.two_mul] at this
          omega)
        clear hm
        go_wp2
        go_round
        case rel => exact ⟨a, b + b, k / 2, by rw [HSb.out, str_append, rep_add], by rw [HSa.out], by go_num, hk2, by omega, by omega, by omega⟩
        case measure => simp [intOf]; omega

theorem rep_one (c : UInt8) (n : Nat) : rep [c] n = List.replicate n c := by
  induction n with
  | zero => rfl
  | succ n ih => simp only [rep, List.replicate_succ, List.flatten_cons] at *; rw [ih]; rfl
def padL (s : ByteArray) : ByteArray := str (s.data.toList ++ List.replicate (M.padN s.size) 48)
theorem bitsL_padL (s : ByteArray) : bitsL (padL s) = M.pad (bitsL s) := by
  rw [bitsL, padL, str_list, List.map_append, List.map_replicate, M.pad, bitsL_len]; rfl
theorem padL_size (s : ByteArray) : (padL s).size = 8 * ((s.size + 7) / 8) := by
  rw [← bitsL_len, bitsL_padL, M.pad_length, bitsL_len]
theorem padL_bits {s : ByteArray} (h : s.data.toList.all isBit = true) : (padL s).data.toList.all isBit = true := by
  rw [padL, str_list, List.all_append, h, Bool.true_and]
  rw [List.all_eq_true]
  intro x hx
  rw [(List.mem_replicate.1 hx).2]; rfl
theorem extract_bits (s : ByteArray) (a b : Nat) (hb : b ≤ s.size) : bitsL (s.extract a b) = ((bitsL s).drop a).take (b - a) := by
  simp [bitsL, List.map_drop, List.map_take]
theorem extract_all {s : ByteArray} (h : s.data.toList.all isBit = true) (a b : Nat) : (s.extract a b).data.toList.all isBit = true := by
  rw [List.all_eq_true] at *
  intro x hx
  refine h x ?_
  simp at hx
  exact List.mem_of_mem_drop (List.mem_of_mem_take hx)

theorem c_l1Pad (s : ByteArray) (w : World) (hs : s.size ≤ 40000) : Calls Try.prog 99 #[.string s] w (Same (.string (padL s)) w) := by
  have hq : 0 ≤ (-((s.size : Int) % 8)) % 8 ∧ (-((s.size : Int) % 8)) % 8 < 8 := by omega
  obtain ⟨Z, hZ⟩ : ∃ Z, Z = str (rep [48] ((-((s.size : Int) % 8)) % 8).toNat) := ⟨_, rfl⟩
  have HC := hid (show ∀ w, Calls Try.prog 83 #[.string ⟨#[48]⟩, .int .i64 ((-((s.size : Int) % 8)) % 8)] w (Same (.string Z) w) by intro w; rw [hZ]; exact c_l9Many [48] _ w (by omega) (by omega) (by decide))
  have HQ := hid (show Z = str (List.replicate (M.padN s.size) 48) by rw [hZ, rep_one]; congr 2; unfold M.padN; omega)
  have hz : Z.size ≤ 8 := by rw [hZ, str_size, rep_len]; simp; omega
  clear hZ
  go_enter Try.func99, Try.ntmps99
  go_wp2_with (go_at_call 83; refine (HC.out _).mono ?_; rintro e w' ⟨rfl, rfl⟩)
  go_ret
  exact ⟨ret_str (by rw [HQ.out, padL, ← str_append, str_self]), rfl⟩

theorem numByte (h : Bool) (l : List Bool) (hl : l.length = 8) : (((M.num (M.dir h l) : Nat) : Int)) = ((M.byteOf h l).toNat : Int) := by
  have h1 := M.num_lt (M.dir h l)
  rw [M.dir_length, hl] at h1
  have e : M.byteOf h l = UInt8.ofNat (M.num (M.dir h l)) := by simp [M.byteOf, hl]
  rw [e, UInt8.toNat_ofNat']; omega

theorem packN_snoc (h : Bool) (k : Nat) (l : List Bool) : M.packN h (k + 1) l = M.packN h k l ++ [M.byteOf h ((l.drop (8 * k)).take 8)] := by
  induction k generalizing l with
  | zero => simp [M.packN]
  | succ k ih =>
    rw [M.packN, ih, M.packN, List.drop_drop, List.cons_append]
    congr 6; omega

theorem Try.info_u8b : (Try.prog.info? 5).map (fun i => (i.zero, i.size, i.bytes)) = some (some (.int .u8 0), 1, 1) := by kernel_rfl

theorem c_l1Pack (o : Int) (s : ByteArray) (w : World) (hs : s.size ≤ 40000) (hb : s.data.toList.all isBit = true) : Calls Try.prog 87 #[.int .i64 o, .string s] w fun e w' => e = .returned (.string (str (M.pack (!(o == 0)) (bitsL s)))) ∧ Below w.heap.size w w' := by
  have hsz := padL_size s
  obtain ⟨T, hT⟩ : ∃ T, T = padL s := ⟨_, rfl⟩
  have HP := hid (show ∀ w, Calls Try.prog 99 #[.string s] w (Same (.string T) w) by intro w; rw [hT]; exact c_l1Pad s w hs)
  obtain ⟨N, hN⟩ : ∃ N, N = (s.size + 7) / 8 := ⟨_, rfl⟩
  have HN := hid hN
  have hTs : T.size = 8 * N := by rw [hT, hN]; exact hsz
  have hT1 : (T.size : Int) ≤ 8 * (N : Int) := by omega
  have hT2 : 8 * (N : Int) ≤ (T.size : Int) := by omega
  have hN2 : N ≤ 5001 := by omega
  have HB := hid (show bitsL T = M.pad (bitsL s) by rw [hT]; exact bitsL_padL s)
  have HA := hid (show T.data.toList.all isBit = true by rw [hT]; exact padL_bits hb)
  have HTs := hid hTs
  clear hTs hT hN hsz hb
  go_enter Try.func87, Try.ntmps87
  go_wp2_with (first | (go_at_call 99; refine (HP.out _).mono ?_; rintro e w' ⟨rfl, rfl⟩) | (at_make; refine make_bytes rfl _ _ 22 rfl w.heap.size 5 Try.underlying22 Try.info_u8b .i64 .i64 _ _ N rfl rfl (by omega) (by omega) (by omega) (Nat.le_refl _) ?_; intro w1 hown1 hb1 hg1))
  go_loopw [7] (fun i wr => ∃ k : Nat, k ≤ N ∧ i = .int .i64 k ∧ wr.ownsRow w.heap.size 5 1 (.slice (some ⟨w.heap.size, 0, none⟩) N N) N ((M.packN (!(o == 0)) k (bitsL T) ++ List.replicate (N - k) (0 : UInt8)).map vb) ∧ Below w.heap.size w wr) (fun i _ => N - (intOf i).toNat)
  case atStart => exact ⟨0, Nat.zero_le _, rfl, by simpa [M.packN] using hown1, by (repeat (first | exact Below.refl _ _ | assumption | refine bel_alloc ?_ _ | refine bel_drew ?_ | refine bel_drewN ?_ _ | refine bel_set ?_ (by first | omega | (simp; done) | (simp; omega)) _ | refine bel_trans ?_ (by assumption)))⟩
  case round =>
    obtain ⟨k, hk, rfl, hown, hbl⟩ := hrel
    by_cases hlt : k < N
    · have hl : (T.extract (8 * k) (8 * k + 8)).size ≤ 16 := by rw [ByteArray.size_extract]; omega
      have HX := hid (extract_all HA.out (8 * k) (8 * k + 8))
      have HE := hid (show bitsL (T.extract (8 * k) (8 * k + 8)) = ((bitsL T).drop (8 * k)).take 8 by rw [extract_bits _ _ _ (by omega)]; congr 1; omega)
      have hE : (bitsL (T.extract (8 * k) (8 * k + 8))).length = 8 := by rw [HE.out]; simp [bitsL_len]; omega
      have HB8 := hid (numByte (!(o == 0)) _ hE)
      obtain ⟨Z, hZ⟩ : ∃ Z, Z = M.num (M.dir (!(o == 0)) (bitsL (T.extract (8 * k) (8 * k + 8)))) := ⟨_, rfl⟩
      have hZb : Z < 256 := by rw [hZ]; have := M.num_lt (M.dir (!(o == 0)) (bitsL (T.extract (8 * k) (8 * k + 8)))); rw [M.dir_length, hE] at this; exact this
      have HC := hid (show ∀ w, Calls Try.prog 76 #[.int .i64 o, .string (T.extract (8 * k) (8 * k + 8))] w (Same (.int .i64 (Z : Nat)) w) by intro w; rw [hZ]; exact c_l1Number o _ w hl HX.out)
      have HZ := hid hZ
      clear hZ hE hl
      have hcell := own_cell hown k hlt
      have hfr := hown.frozenAt k
      have hsl := slice_str (P := Try.prog) Try.underlying9 T (8 * (k : Int)) (8 * (k : Int) + 8) (8 * k) (8 * k + 8) (by omega) (by omega) (by omega) (by omega)
      go_wp2_with (go_at_call 76; refine (HC.out _).mono ?_; rintro e w' ⟨rfl, rfl⟩)
      have hst := own_store hown (by rw [M.packN_length]) hlt (M.byteOf (!(o == 0)) (bitsL (T.extract (8 * k) (8 * k + 8)))) Z (by rw [HZ.out]; exact HB8.out)
      go_roundw
      case rel => exact ⟨k + 1, by omega, by go_num, by rw [packN_snoc, ← HE.out]; exact hst.1, by (repeat (first | exact Below.refl _ _ | assumption | refine bel_alloc ?_ _ | refine bel_drew ?_ | refine bel_drewN ?_ _ | refine bel_set ?_ (by first | omega | (simp; done) | (simp; omega)) _ | refine bel_trans ?_ (by assumption)))⟩
      case measure => simp [intOf]; omega
    · have hcv := run_str (l := M.pack (!(o == 0)) (bitsL s)) Try.underlying22 Try.underlying5 Try.underlying9 (show wr.ownsRow w.heap.size 5 1 (.slice (some ⟨w.heap.size, 0, none⟩) N N) N ((M.pack (!(o == 0)) (bitsL s)).map vb) by
        have e : M.packN (!(o == 0)) k (bitsL T) ++ List.replicate (N - k) (0 : UInt8) = M.pack (!(o == 0)) (bitsL s) := by
          rw [show N - k = 0 from by omega, HB.out, ← M.pack_pad (!(o == 0)) (bitsL s), M.pack, M.pad_length, bitsL_len, ← HN.out, show (8 * N + 7) / 8 = N from by omega, show k = N from by omega]
          simp
        rw [← e]; exact hown)
      go_wp2
      go_ret
      exact ⟨rfl, by (repeat (first | exact Below.refl _ _ | assumption | refine bel_alloc ?_ _ | refine bel_drew ?_ | refine bel_drewN ?_ _ | refine bel_set ?_ (by first | omega | (simp; done) | (simp; omega)) _ | refine bel_trans ?_ (by assumption)))⟩

def packS (o : Int) (s : ByteArray) : ByteArray := str (M.pack (o == 1) (bitsL s))
def packOk (o : Int) (s : ByteArray) : Bool := orderOk o && bitsOk s
theorem bitsOk_size {s : ByteArray} (h : bitsOk s = true) : s.size ≤ 32000 := by simp only [bitsOk, Bool.and_eq_true, decide_eq_true_eq] at h; exact h.1
theorem numK_byteOf (h : Bool) (l : List Bool) (hl : l.length ≤ 8) : ((M.numK h 8 l : Nat) : Int) = ((M.byteOf h l).toNat : Int) ∧ M.numK h 8 l < 256 := by
  have h1 := M.numK_lt h 8 l hl
  refine ⟨?_, h1⟩
  have e : M.byteOf h l = UInt8.ofNat (M.numK h 8 l) := by rw [M.numK_byte]; rfl
  rw [e, UInt8.toNat_ofNat']; omega

theorem c_PackBits_no (o : Int) (s : ByteArray) (w : World) (hs : s.size ≤ maxLen) (h : packOk o s = false) : Calls Try.prog 37 #[.int .i64 o, .string s] w fun e w' => e = .returned (.tuple #[.string ByteArray.empty, .bool false]) ∧ Below w.heap.size w w' := by
  cases h1 : orderOk o with
  | false =>
    go_enter Try.func37, Try.ntmps37
    go_wp2_with (first | (go_at_call 57; refine (c_valid _ _).mono ?_; rintro e w' ⟨rfl, rfl⟩) | (go_at_call 71; refine (c_BitsValid _ _ hs).mono ?_; rintro e w' ⟨rfl, rfl⟩))
    go_ret2
    exact ⟨rfl, by (repeat (first | exact Below.refl _ _ | assumption | refine bel_alloc ?_ _ | refine bel_drew ?_ | refine bel_drewN ?_ _ | refine bel_set ?_ (by first | omega | (simp; done) | (simp; omega)) _ | refine bel_trans ?_ (by assumption)))⟩
  | true =>
    have h2 : bitsOk s = false := by simpa [packOk, h1] using h
    go_enter Try.func37, Try.ntmps37
    go_wp2_with (first | (go_at_call 57; refine (c_valid _ _).mono ?_; rintro e w' ⟨rfl, rfl⟩) | (go_at_call 71; refine (c_BitsValid _ _ hs).mono ?_; rintro e w' ⟨rfl, rfl⟩))
    go_ret2
    exact ⟨rfl, by (repeat (first | exact Below.refl _ _ | assumption | refine bel_alloc ?_ _ | refine bel_drew ?_ | refine bel_drewN ?_ _ | refine bel_set ?_ (by first | omega | (simp; done) | (simp; omega)) _ | refine bel_trans ?_ (by assumption)))⟩

set_option maxRecDepth 100000 in
set_option maxHeartbeats 1000000 in
theorem c_PackBits_yes (o : Int) (s : ByteArray) (w : World) (hs : s.size ≤ maxLen) (h : packOk o s = true) : Calls Try.prog 37 #[.int .i64 o, .string s] w fun e w' => e = .returned (.tuple #[.string (packS o s), .bool true]) ∧ Below w.heap.size w w' := by
  obtain ⟨h1, h2⟩ : orderOk o = true ∧ bitsOk s = true := by simpa [packOk] using h
  have HO := hid (orderOk_iff.1 h1)
  have HP := hid (par_bits h2)
  have hsz := bitsOk_size h2
  obtain ⟨N, hN⟩ : ∃ N, N = (s.size + 7) / 8 := ⟨_, rfl⟩
  have hN1 : s.size ≤ 8 * N := by omega
  have hN2 : 8 * N ≤ s.size + 7 := by omega
  have HN := hid hN
  clear hN
  go_enter Try.func37, Try.ntmps37
  go_wp2_with (first | (go_at_call 57; refine (c_valid _ _).mono ?_; rintro e w' ⟨rfl, rfl⟩) | (go_at_call 71; refine (c_BitsValid _ _ hs).mono ?_; rintro e w' ⟨rfl, rfl⟩) | (at_make; refine make_bytes0 rfl _ _ 22 rfl w.heap.size 5 Try.underlying22 Try.info_u8b .i64 .i64 _ N rfl rfl (by omega) (by omega) (Nat.le_refl _) ?_; rintro v1 w1 rfl hown1 hb1 hg1))
  go_loopw [7, 8] (fun v i wr => ∃ k : Nat, k ≤ N ∧ i = .int .i64 (8 * (k : Int)) ∧ wr.ownsRow w.heap.size 5 1 v k ((M.packN (o == 1) k (bitsL s)).map vb) ∧ Below w.heap.size w wr) (fun _ i _ => (s.size + 8 - intOf i).toNat)
  case atStart => exact ⟨0, Nat.zero_le _, by simp, hown1, by (repeat (first | exact Below.refl _ _ | assumption | refine bel_alloc ?_ _ | refine bel_drew ?_ | refine bel_drewN ?_ _ | refine bel_set ?_ (by first | omega | (simp; done) | (simp; omega)) _ | refine bel_trans ?_ (by assumption)))⟩
  case round =>
    obtain ⟨k, hk, rfl, hown, hbl⟩ := hrel
    have hsz' := hbl.size
    by_cases hlt : 8 * k < s.size
    · have hl : (s.extract (8 * k) (min (8 * k + 8) s.size)).size ≤ 8 := by rw [ByteArray.size_extract]; omega
      have HEx := hid (show (s.extract (8 * k) (min (8 * k + 8) s.size)).data.toList.map par = ((bitsL s).drop (8 * k)).take 8 by
        rw [← HP.out]
        simp only [ByteArray.data_extract, Array.toList_extract, List.extract_eq_take_drop, List.map_take, List.map_drop]
        rw [List.take_eq_take_iff]; simp; omega)
      have hEl : (((bitsL s).drop (8 * k)).take 8).length ≤ 8 := by simp; omega
      obtain ⟨hB1, hB2⟩ := numK_byteOf (o == 1) _ hEl
      obtain ⟨Z, hZ⟩ : ∃ Z, Z = M.numK (o == 1) 8 (((bitsL s).drop (8 * k)).take 8) := ⟨_, rfl⟩
      have HC := hid (show ∀ w, Calls Try.prog 72 #[.int .i64 o, .string (s.extract (8 * k) (min (8 * k + 8) s.size)), .int .i64 8] w fun e w' => e = .returned (.int .i64 (Z : Nat)) ∧ Below w.heap.size w w' by
        intro w; rw [hZ, ← HEx.out]; exact c_number o 8 _ w HO.out (by decide) (by decide) hl)
      rw [← hZ] at hB1 hB2
      have HB := hid hB1
      clear hZ hEl hl hB1
      have hsl := slice_str (P := Try.prog) Try.underlying9 s (8 * (k : Int)) (min (8 * (k : Int) + 8) (s.size : Int)) (8 * k) (min (8 * k + 8) s.size) (by omega) (by omega) (by omega) (by omega)
      go_wp2_with (first | (go_at_call 72; refine (HC.out _).mono ?_; rintro e w2 ⟨rfl, hb2⟩; have hown2 := own_below hown hb2; have hsz2 := hb2.size) | (at_builtin; refine app_byte rfl _ _ 22 rfl w.heap.size 5 Try.underlying22 Try.info_u8b _ _ _ rfl hown2 _ _ HB.out 1 rfl (by omega) (by omega) ?_; intro v3 w3 hown3 hb3 hg3))
      go_roundw
      case rel => exact ⟨k + 1, by omega, vint (by omega), by rw [packN_snoc]; exact hown3, (hbl.trans (hb2.mono (by omega))).trans hb3⟩
      case measure => simp [intOf]; omega
    · have hcv := run_str Try.underlying22 Try.underlying5 Try.underlying9 hown
      have HK := hid (show str (M.packN (o == 1) k (bitsL s)) = packS o s by rw [packS, M.pack, bitsL_len, ← HN.out, show k = N from by omega])
      go_wp2
      go_ret2
      exact ⟨by rw [← HK.out]; rfl, by (repeat (first | exact Below.refl _ _ | assumption | refine bel_alloc ?_ _ | refine bel_drew ?_ | refine bel_drewN ?_ _ | refine bel_set ?_ (by first | omega | (simp; done) | (simp; omega)) _ | refine bel_trans ?_ (by assumption)))⟩
end Go.Proofs.Ytgfclblooadomaa
