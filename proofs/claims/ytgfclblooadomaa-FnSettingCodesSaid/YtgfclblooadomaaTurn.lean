/- Contracts of TurnBytes in both programs. -/
import Derived.Test.YtgfclblooadomaaBit
namespace Go.Proofs.Ytgfclblooadomaa
open Go.ChangeShapes Go.WideShapes Go.ChangeAt Go.RowKit Go.Joins
set_option linter.unusedVariables false

/-- Block G holds the bytes l, none of them frozen. -/
def RowAt (w : World) (G : Nat) (l : List UInt8) : Prop := ∀ j, j < l.length → w.cell? ⟨G, j, none⟩ = some (.int .u8 ((l[j]?.getD 0).toNat : Int)) ∧ w.frozen? ⟨G, j, none⟩ = false

theorem RowAt.set_ {w : World} {G : Nat} {l : List UInt8} (h : RowAt w G l) (k : Nat) (hk : k < l.length) (X : Int) (c : UInt8) (hX : X = (c.toNat : Int)) : RowAt (w.setCell ⟨G, k, none⟩ (.int .u8 X)) G (l.set k c) := by
  intro j hj
  rw [List.length_set] at hj
  obtain ⟨h1, h2⟩ := h j hj
  by_cases e : j = k
  · subst e
    refine ⟨?_, ?_⟩
    · rw [List.getElem?_set_self hk, hX]; exact World.cell?_setCell_same _ _ _ h1
    · rw [World.frozen?_setCell]; exact h2
  · refine ⟨?_, ?_⟩
    · rw [List.getElem?_set_ne (by omega), World.cell?_setCell_other _ _ _ _ (by simp; try omega)]; exact h1
    · rw [World.frozen?_setCell]; exact h2

theorem rowAt_new (w : World) (s : ByteArray) (c : Nat) (e : TypeId) (hc : s.size ≤ (bytesRow s c).size) : RowAt (w.alloc (.cells (bytesRow s c) e ((bytesRow s c).size, (bytesRow s c).size + 1))) w.heap.size s.data.toList := by
  intro j hj
  have hj2 : j < s.size := by simpa using hj
  refine ⟨?_, ?_⟩
  · rw [World.cell?_alloc_mark, bytesRow_at s c j (by simpa using hj), List.getElem?_eq_getElem hj]; simp
  · rw [World.frozen?_alloc_mark]; simp; omega
theorem bytesRow_size (s : ByteArray) (c : Nat) : s.size ≤ (bytesRow s c).size := by simp [bytesRow]

def turnS (s : ByteArray) : ByteArray := str (M.turn s.data.toList)
theorem rev_turn (c : UInt8) : (revV (c.toNat : Int) 8 : Int) = ((M.turnByte c).toNat : Int) := by
  have h1 := M.num_lt (M.dir true (M.bitsOf 8 c.toNat))
  rw [M.dir_length, M.bitsOf_length] at h1
  have e : M.turnByte c = UInt8.ofNat (M.num (M.dir true (M.bitsOf 8 c.toNat))) := by
    rw [M.turnByte, M.byteOf, M.byteBits_length]; simp [M.byteBits, M.dir]
  rw [e, UInt8.toNat_ofNat']
  show ((M.num (M.dir true (M.bitsOf 8 c.toNat)) : Nat) : Int) = _
  omega
def turnK (s : ByteArray) (k : Nat) : List UInt8 := M.turn (s.data.toList.take k) ++ s.data.toList.drop k
theorem turnK_len (s : ByteArray) (k : Nat) : (turnK s k).length = s.size := by simp [turnK, M.turn]; omega
theorem turnK_at (s : ByteArray) (k : Nat) (hk : k < s.size) : (turnK s k)[k]?.getD 0 = s[k] := by
  have hl : (M.turn (s.data.toList.take k)).length = k := by simp [M.turn]; omega
  rw [turnK, List.getElem?_append_right (by omega), hl, Nat.sub_self, List.getElem?_drop, Nat.add_zero]
  exact byte_getD s k hk
theorem turnK_set (s : ByteArray) (k : Nat) (hk : k < s.size) : (turnK s k).set k (M.turnByte s[k]) = turnK s (k + 1) := by
  have hl : (M.turn (s.data.toList.take k)).length = k := by simp [M.turn]; omega
  have hd : s.data.toList.drop k = s[k] :: s.data.toList.drop (k + 1) := by
    rw [List.drop_eq_getElem_cons (by simpa using hk)]; rfl
  rw [turnK, turnK, List.set_append, hl, if_neg (by omega), Nat.sub_self, hd, List.set_cons_zero, take_snoc s k hk]
  simp [M.turn]

theorem c_TurnBytes_no (s : ByteArray) (w : World) (hs : s.size ≤ maxLen) (h : 4000 < s.size) : Calls Try.prog 38 #[.string s] w fun e w' => e = .returned (.tuple #[.string ByteArray.empty, .bool false]) ∧ Below w.heap.size w w' := by
  unfold maxLen at hs
  go_enter Try.func38, Try.ntmps38
  go_wp2
  go_ret2
  exact ⟨rfl, by (repeat (first | exact Below.refl _ _ | assumption | refine bel_alloc ?_ _ | refine bel_drew ?_ | refine bel_drewN ?_ _ | refine bel_set ?_ (by first | omega | (simp; done) | (simp; omega)) _ | refine bel_trans ?_ (by assumption)))⟩

set_option maxHeartbeats 1000000 in
theorem c_TurnBytes_yes (s : ByteArray) (w : World) (h : s.size ≤ 4000) : Calls Try.prog 38 #[.string s] w fun e w' => e = .returned (.tuple #[.string (turnS s), .bool true]) ∧ Below w.heap.size w w' := by
  have hd : decide ((4000 : Int) < (s.size : Int)) = false := by simp; omega
  have hcv := run_bytes_of_string (P := Try.prog) w 9 22 5 s Try.underlying9 Try.underlying22 Try.underlying5
  obtain ⟨cp, hcp⟩ : ∃ cp, cp = grownCap w s.size 0 5 := ⟨_, rfl⟩
  rw [← hcp] at hcv
  clear hcp
  obtain ⟨C, hC⟩ : ∃ C, C = bytesRow s cp := ⟨_, rfl⟩
  rw [← hC] at hcv
  have HR := hid (show RowAt (w.alloc (.cells C 5 (C.size, C.size + 1))) w.heap.size s.data.toList by rw [hC]; exact rowAt_new w s cp _ (bytesRow_size s cp))
  clear hC
  go_enter Try.func38, Try.ntmps38
  go_wp2_with fail
  clear hcv
  go_loopw [14] (fun i wr => ∃ k : Nat, k ≤ s.size ∧ i = .int .i64 k ∧ RowAt wr w.heap.size (turnK s k) ∧ Below w.heap.size w wr) (fun i _ => s.size - (intOf i).toNat)
  case atStart => exact ⟨0, Nat.zero_le _, rfl, HR.out, by (repeat (first | exact Below.refl _ _ | assumption | refine bel_alloc ?_ _ | refine bel_drew ?_ | refine bel_drewN ?_ _ | refine bel_set ?_ (by first | omega | (simp; done) | (simp; omega)) _ | refine bel_trans ?_ (by assumption)))⟩
  case round =>
    obtain ⟨k, hk, rfl, hrow, hbl⟩ := hrel
    by_cases hlt : k < s.size
    · obtain ⟨hcell, hfr⟩ := hrow k (by rw [turnK_len]; exact hlt)
      rw [turnK_at s k hlt] at hcell
      have hb8 := byte_le s k hlt
      obtain ⟨r, hr⟩ : ∃ r : Int, r = (revV ((s[k]).toNat : Int) 8 : Int) := ⟨_, rfl⟩
      have HT := hid (show r = ((M.turnByte s[k]).toNat : Int) by rw [hr]; exact rev_turn _)
      have hrb : 0 ≤ r ∧ r ≤ 255 := by rw [HT.out]; have := (M.turnByte s[k]).toNat_lt; omega
      have HC := hid (show ∀ w, Calls Try.prog 80 #[.int .i64 ((s[k]).toNat : Int), .int .i64 8] w (Same (.int .i64 r) w) by intro w; rw [hr]; exact c_reverse8 _ w (by omega) (by omega))
      clear hr
      go_wp2_with (go_at_call 80; refine (HC.out _).mono ?_; rintro e w' ⟨rfl, rfl⟩)
      have hst := hrow.set_ k (by rw [turnK_len]; exact hlt) r _ HT.out
      rw [turnK_set s k hlt] at hst
      go_roundw
      case rel => exact ⟨k + 1, by omega, by go_num, hst, by (repeat (first | exact Below.refl _ _ | assumption | refine bel_alloc ?_ _ | refine bel_drew ?_ | refine bel_drewN ?_ _ | refine bel_set ?_ (by first | omega | (simp; done) | (simp; omega)) _ | refine bel_trans ?_ (by assumption)))⟩
      case measure => simp [intOf]; omega
    · have e : turnK s k = M.turn s.data.toList := by rw [turnK, List.take_of_length_le (by simp; omega), List.drop_of_length_le (by simp; omega), List.append_nil]
      rw [e] at hrow
      have hl : (M.turn s.data.toList).length = s.size := by simp [M.turn]
      have hcb := run_convert_bytes_back (P := Try.prog) wr 22 9 5 ⟨w.heap.size, 0, none⟩ cp (M.turn s.data.toList) Try.underlying22 Try.underlying5 Try.underlying9 (by
        intro j hj
        have h3 : ((⟨w.heap.size, 0, none⟩ : Addr).add j) = ⟨w.heap.size, j, none⟩ := by unfold Addr.add; split <;> simp_all
        rw [h3, (hrow j hj).1, List.getElem?_eq_getElem hj]; rfl)
      rw [hl] at hcb
      clear hl e
      go_wp2
      go_ret2
      exact ⟨rfl, by (repeat (first | exact Below.refl _ _ | assumption | refine bel_alloc ?_ _ | refine bel_drew ?_ | refine bel_drewN ?_ _ | refine bel_set ?_ (by first | omega | (simp; done) | (simp; omega)) _ | refine bel_trans ?_ (by assumption)))⟩

theorem c_sTurnBytes_no (s : ByteArray) (w : World) (hs : s.size ≤ maxLen) (h : 4000 < s.size) : Calls Try.prog 39 #[.string s] w fun e w' => e = .returned (.tuple #[.string ByteArray.empty, .bool false]) ∧ Below w.heap.size w w' := by
  have h1 : stOk 0 s = false := by simp [stOk]; omega
  go_enter Try.func39, Try.ntmps39
  go_wp2_with (go_at_call 85; refine (c_l1Stream _ _ _ hs).mono ?_; rintro e w' ⟨rfl, rfl⟩)
  go_ret2
  exact ⟨rfl, by (repeat (first | exact Below.refl _ _ | assumption | refine bel_alloc ?_ _ | refine bel_drew ?_ | refine bel_drewN ?_ _ | refine bel_set ?_ (by first | omega | (simp; done) | (simp; omega)) _ | refine bel_trans ?_ (by assumption)))⟩

theorem c_sTurnBytes_yes (s : ByteArray) (w : World) (hs : s.size ≤ maxLen) (h : s.size ≤ 4000) : Calls Try.prog 39 #[.string s] w fun e w' => e = .returned (.tuple #[.string (turnS s), .bool true]) ∧ Below w.heap.size w w' := by
  have h1 : stOk 0 s = true := by simp [stOk, orderOk]; omega
  obtain ⟨U, hU⟩ : ∃ U, U = str (unpackL 0 s) := ⟨_, rfl⟩
  have hUs : U.size ≤ 40000 := by rw [hU, str_size, unpackL_len]; omega
  have HU := hid (show U.data.toList.all isBit = true by rw [hU, str_list]; exact all_asc _)
  have HC := hid (show ∀ w, Calls Try.prog 86 #[.int .i64 0, .string s] w fun e w' => e = .returned (.string U) ∧ Below w.heap.size w w' by intro w; rw [hU]; exact c_l1Unpack 0 s w (.inl rfl) h)
  have HT := hid (show str (M.pack (!((1 : Int) == 0)) (bitsL U)) = turnS s by rw [hU, unpackL, bitsL_asc, turnS, M.turn_eq]; rfl)
  have HP := hid (show ∀ w, Calls Try.prog 87 #[.int .i64 1, .string U] w fun e w' => e = .returned (.string (turnS s)) ∧ Below w.heap.size w w' by intro w; rw [← HT.out]; exact c_l1Pack 1 U w hUs HU.out)
  clear hU
  go_enter Try.func39, Try.ntmps39
  go_wp2_with (first | (go_at_call 85; refine (c_l1Stream _ _ _ hs).mono ?_; rintro e w' ⟨rfl, rfl⟩) | (go_at_call 86; refine (HC.out _).mono ?_; rintro e w1 ⟨rfl, hb1⟩; have hc1 := bcell hb1) | (go_at_call 87; refine (HP.out _).mono ?_; rintro e w2 ⟨rfl, hb2⟩; have hc2 := bcell hb2))
  go_ret2
  exact ⟨rfl, by (repeat (first | exact Below.refl _ _ | assumption | refine bel_alloc ?_ _ | refine bel_drew ?_ | refine bel_drewN ?_ _ | refine bel_set ?_ (by first | omega | (simp; done) | (simp; omega)) _ | refine bel_trans ?_ (by assumption)))⟩
end Go.Proofs.Ytgfclblooadomaa
