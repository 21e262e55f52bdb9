/- Pairs and numbers of what is known, as the model reads them. No condition. -/
import Derived.Test.YtmfnfheahehpcaaGreatDoorRg
namespace Go.Proofs.YtmfnfheahehpcaaGreatDoor
open Go.ChangeShapes Go.WideShapes Go.ChangeAt Go.RowKit Go.Joins
set_option linter.unusedVariables false
set_option linter.unusedSimpArgs false

theorem one_digit (R : ByteArray) (h : R = str [49]) (hp : 0 < R.size) : (R[0]).toNat = 49 := by subst h; rfl
theorem first_dash (s : ByteArray) (h : s = str [45, 49]) (hp : 0 < s.size) : (s[0]).toNat = 45 := by subst h; rfl
set_option maxRecDepth 100000 in
theorem c_l9Num_m1 (s : ByteArray) (w : World) (h : s = str [45, 49]) : Calls Tryz.prog 45 #[.string s] w fun e w' => e = .returned (.tuple #[.int .i64 (-1), .bool true]) ∧ Below w.heap.size w w' := by
  have hs2 : s.size = 2 := by rw [h]; rfl
  have hp : 0 < s.size := by omega
  have hpi : (0 : Int) < (s.size : Int) := by omega
  have hmb : (((s[0]).toNat : Int) == 45) = true := by rw [first_dash s h hp]; rfl
  obtain ⟨R, hR⟩ : ∃ R, R = s.extract 1 s.size := ⟨_, rfl⟩
  have hR1 : R = str [49] := by
    rw [hR, h]
    apply ByteArray.ext
    apply Array.toList_inj.1
    rw [Lib.extract_data, str_list, str_list]
    rfl
  have hRz : R.size = 1 := by rw [hR1]; rfl
  have hq : 0 < R.size := by omega
  have hqi : (0 : Int) < (R.size : Int) := by omega
  have q0 : (R[0]).toNat = 49 := one_digit R hR1 hq
  have hsl : ∀ W, (Instr.slice 9 (.string s) (some (.int .i64 1)) none none).run Tryz.prog W = .ok (.string R) W := by
    intro W
    have h9 := run_slice_string_l W 9 s Tryz.underlying9 .i64 1 (by omega) (by omega)
    rw [h9, hR]
    rfl
  have hz2 : ((R.size : Int) == 0) = false := eq_no (by omega)
  have hz4 : ¬ (17 : Int) < (R.size : Int) := by omega
  have hz5 : (((R[0]).toNat : Int) == 48) = false := eq_no (by omega)
  clear hR hR1 h
  go_enter Tryz.func45, Tryz.ntmps45
  go_wp2_with fail
  go_loop [5, 6] (fun n i => ∃ k : Nat, k ≤ 1 ∧ i = .int .i64 k ∧ n = .int .i64 k) (fun _ i => 1 - (intOf i).toNat)
  case atStart => exact ⟨0, by omega, rfl, rfl⟩
  case round =>
    obtain ⟨k, hk, rfl, rfl⟩ := hrel
    by_cases hlt : k < 1
    · have hk0 : k = 0 := by omega
      subst hk0
      go_wp2
      go_round
      case rel => exact ⟨1, by omega, by go_num, by first | rfl | exact vint (by rw [q0]; rfl) | exact vint rfl⟩
      case measure => simp [intOf]
    · have hk1 : k = 1 := by omega
      subst hk1
      go_wp2
      go_ret2
      exact ⟨rfl, by exact obB⟩
def NumT (s : ByteArray) (e : Ending) : Prop := ∃ (n : Int) (b : Bool), e = .returned (.tuple #[.int .i64 n, .bool b]) ∧ (-1000000000000000000 ≤ n ∧ n ≤ 1000000000000000000) ∧ (∀ k : Int, 0 ≤ k → k ≤ 1000000000000000 → s = str (dec k) → n = k ∧ b = true)
theorem NumT.no {s : ByteArray} (h : ∀ k : Int, 0 ≤ k → k ≤ 1000000000000000 → ¬ s = str (dec k)) (n : Int) (b : Bool) (hn : -1000000000000000000 ≤ n ∧ n ≤ 1000000000000000000) : NumT s (.returned (.tuple #[.int .i64 n, .bool b])) := ⟨n, b, rfl, hn, fun k h0 h1 h2 => absurd h2 (h k h0 h1)⟩
set_option maxHeartbeats 4000000 in
set_option maxRecDepth 100000 in
theorem c_l9NumT (s : ByteArray) (w : World) (hs : s.size ≤ 1048576) : Calls Tryz.prog 45 #[.string s] w fun e w' => NumT s e ∧ Below w.heap.size w w' := by
  by_cases h0 : s.size = 0
  · have HN := hid (NumT.no (s := s) (fun k _ _ h => (dec_facts h).1 h0) 0 false (by omega))
    have hz : ¬ (0 : Int) < (s.size : Int) := by omega
    have hz2 : ((s.size : Int) == 0) = true := eq_yes (by omega)
    have hz3 : (s.size : Int) = 0 := by omega
    clear h0
    go_enter Tryz.func45, Tryz.ntmps45
    go_wp2
    go_ret2
    exact ⟨HN.out, by exact obB⟩
  have hp : 0 < s.size := by omega
  have hpi : (0 : Int) < (s.size : Int) := by omega
  have hf := fun k h => (dec_facts (k := k) (s := s) h).2.1 s[0] (byte_get s 0 hp)
  by_cases hm : s[0] = 45
  · have HN := hid (fun n b hn => NumT.no (s := s) (fun k _ _ h => absurd (hf k h).1 (by rw [hm]; decide)) n b hn)
    have hmb : (((s[0]).toNat : Int) == 45) = true := by rw [hm]; rfl
    clear hm hf
    obtain ⟨R, hR⟩ : ∃ R, R = s.extract 1 s.size := ⟨_, rfl⟩
    have hRz : R.size ≤ 1048576 := by rw [hR, ByteArray.size_extract]; omega
    have hsl : ∀ W, (Instr.slice 9 (.string s) (some (.int .i64 1)) none none).run Tryz.prog W = .ok (.string R) W := by
      intro W
      have h9 := run_slice_string_l W 9 s Tryz.underlying9 .i64 1 (by omega) (by omega)
      rw [h9, hR]
      rfl
    clear hR
    by_cases r0 : R.size = 0
    · have hz2 : ((R.size : Int) == 0) = true := eq_yes (by omega)
      have HQ := hid (HN.out 0 false (by omega))
      go_enter Tryz.func45, Tryz.ntmps45
      go_wp2
      go_ret2
      exact ⟨HQ.out, by exact obB⟩
    have hz2 : ((R.size : Int) == 0) = false := eq_no (by omega)
    by_cases r17 : 17 < R.size
    · have hz4 : (17 : Int) < (R.size : Int) := by omega
      have HQ := hid (HN.out 0 false (by omega))
      clear r0 r17
      go_enter Tryz.func45, Tryz.ntmps45
      go_wp2
      go_ret2
      exact ⟨HQ.out, by exact obB⟩
    have hz4 : ¬ (17 : Int) < (R.size : Int) := by omega
    have rp : 0 < R.size := by omega
    by_cases rz : R[0] = 48
    · have hzb : (((R[0]).toNat : Int) == 48) = true := by rw [rz]; rfl
      have HQ := hid (HN.out 0 false (by omega))
      clear rz r0
      by_cases r1 : (1 : Int) < (R.size : Int)
      all_goals
        go_enter Tryz.func45, Tryz.ntmps45
        go_wp2
        go_ret2
        exact ⟨HQ.out, by exact obB⟩
    have hzb : (((R[0]).toNat : Int) == 48) = false := by
      rw [beq_eq_false_iff_ne]; intro h; exact rz (UInt8.toNat_inj.1 (by have : (48 : UInt8).toNat = 48 := rfl; omega))
    clear rz r0
    go_enter Tryz.func45, Tryz.ntmps45
    go_wp2_with fail
    go_loopw [5, 6] (fun n i wr => ∃ k V : Nat, k ≤ R.size ∧ i = .int .i64 k ∧ n = .int .i64 V ∧ V ≤ 100000000000000000 ∧ Hid (V = valL (R.data.toList.take k) ∧ ∀ x ∈ R.data.toList.take k, x.toNat ≤ 57) ∧ Below w.heap.size w wr) (fun _ i _ => (R.size - intOf i).toNat)
    case atStart => exact ⟨0, 0, Nat.zero_le _, rfl, rfl, by omega, hid ⟨rfl, by simp⟩, by exact obB⟩
    case round =>
      obtain ⟨k, V, hk, rfl, rfl, hV, HK, hbl⟩ := hrel
      by_cases hlt : k < R.size
      · by_cases hd : 48 ≤ (R[k]).toNat ∧ (R[k]).toNat ≤ 57
        · have d1 : ¬ ((R[k]).toNat : Int) < 48 := by omega
          have d2 : ¬ (57 : Int) < ((R[k]).toNat : Int) := by omega
          have d3 : (48 : Int) ≤ ((R[k]).toNat : Int) := by omega
          have d4 : ((R[k]).toNat : Int) ≤ 57 := by omega
          have hx : R.data.toList[k]? = some R[k] := byte_get R k hlt
          have hall : ∀ x ∈ R.data.toList.take (k + 1), x.toNat ≤ 57 := by
            rw [List.take_add_one, hx]
            intro y hy
            rcases List.mem_append.1 hy with h9 | h9
            · exact HK.out.2 y h9
            · simp at h9; subst h9; exact hd.2
          have hv := val_take _ k _ hx
          have hvl := val_lt (R.data.toList.take (k + 1)) hall (k + 1) (by simp; omega)
          rw [List.take_take, Nat.min_self] at hvl
          have hpw : 10 ^ (k + 1) ≤ 10 ^ 17 := Nat.pow_le_pow_right (by omega) (by omega)
          have HN := hid (show V * 10 + ((R[k]).toNat - 48) = valL (R.data.toList.take (k + 1)) ∧ ∀ x ∈ R.data.toList.take (k + 1), x.toNat ≤ 57 from ⟨by rw [hv, HK.out.1], hall⟩)
          have hle : V * 10 + ((R[k]).toNat - 48) ≤ 100000000000000000 := by rw [HN.out.1]; omega
          clear hd hx hall hv hvl hpw HK
          go_wp2
          go_roundw
          case rel => exact ⟨k + 1, V * 10 + ((R[k]).toNat - 48), by omega, by go_num, by congr 1; omega, hle, HN, hbl⟩
          case measure => simp [intOf]; omega
        · have HQ := hid (HN.out)
          by_cases hd1 : (R[k]).toNat < 48
          · have d1 : ((R[k]).toNat : Int) < 48 := by omega
            clear hd HK hd1
            go_wp2
            go_ret2
            exact ⟨HQ.out 0 false (by omega), hbl⟩
          · have d1 : ¬ ((R[k]).toNat : Int) < 48 := by omega
            have d2 : (57 : Int) < ((R[k]).toNat : Int) := by omega
            clear hd HK hd1
            go_wp2
            go_ret2
            exact ⟨HQ.out 0 false (by omega), hbl⟩
      · have hlt2 : ¬ (k : Int) < (R.size : Int) := by omega
        have HQ := hid (show NumT s (.returned (.tuple #[.int .i64 (-(V : Int)), .bool true])) from HN.out _ true (by omega))
        clear hlt HK
        go_wp2
        go_ret2
        exact ⟨HQ.out, hbl⟩
  have hmb : (((s[0]).toNat : Int) == 45) = false := by
    rw [beq_eq_false_iff_ne]; intro h; exact hm (UInt8.toNat_inj.1 (by have : (45 : UInt8).toNat = 45 := rfl; omega))
  clear hm
  by_cases h17 : 17 < s.size
  · have HN := hid (NumT.no (s := s) (fun k a0 a1 h => by
      have h1 : s.size ≤ 16 := by rw [h, str_size]; exact decD_len 15 _ (by omega)
      omega) 0 false (by omega))
    have hz2 : ((s.size : Int) == 0) = false := eq_no (by omega)
    have hz4 : (17 : Int) < (s.size : Int) := by omega
    clear hf h0 h17
    go_enter Tryz.func45, Tryz.ntmps45
    go_wp2
    go_ret2
    exact ⟨HN.out, by exact obB⟩
  have hz2 : ((s.size : Int) == 0) = false := eq_no (by omega)
  have hz4 : ¬ (17 : Int) < (s.size : Int) := by omega
  by_cases hzero : s[0] = 48
  · have hzb : (((s[0]).toNat : Int) == 48) = true := by rw [hzero]; rfl
    by_cases h1 : 1 < s.size
    · have HN := hid (NumT.no (s := s) (fun k a0 a1 h => by have := (hf k h).2 hzero; omega) 0 false (by omega))
      have h1i : (1 : Int) < (s.size : Int) := by omega
      clear hf hzero h0 h17 h1
      go_enter Tryz.func45, Tryz.ntmps45
      go_wp2
      go_ret2
      exact ⟨HN.out, by exact obB⟩
    · have h1i : ¬ (1 : Int) < (s.size : Int) := by omega
      clear hf hzero h0 h1
      go_enter Tryz.func45, Tryz.ntmps45
      go_wp2_with fail
      go_loopw [5, 6] (fun n i wr => ∃ k V : Nat, k ≤ s.size ∧ i = .int .i64 k ∧ n = .int .i64 V ∧ V ≤ 100000000000000000 ∧ Hid (V = valL (s.data.toList.take k) ∧ ∀ x ∈ s.data.toList.take k, x.toNat ≤ 57) ∧ Below w.heap.size w wr) (fun _ i _ => (s.size - intOf i).toNat)
      case atStart => exact ⟨0, 0, Nat.zero_le _, rfl, rfl, by omega, hid ⟨rfl, by simp⟩, by exact obB⟩
      case round =>
        obtain ⟨k, V, hk, rfl, rfl, hV, HK, hbl⟩ := hrel
        by_cases hlt : k < s.size
        · by_cases hd : 48 ≤ (s[k]).toNat ∧ (s[k]).toNat ≤ 57
          · have d1 : ¬ ((s[k]).toNat : Int) < 48 := by omega
            have d2 : ¬ (57 : Int) < ((s[k]).toNat : Int) := by omega
            have d3 : (48 : Int) ≤ ((s[k]).toNat : Int) := by omega
            have d4 : ((s[k]).toNat : Int) ≤ 57 := by omega
            have hx : s.data.toList[k]? = some s[k] := byte_get s k hlt
            have hall : ∀ x ∈ s.data.toList.take (k + 1), x.toNat ≤ 57 := by
              rw [List.take_add_one, hx]
              intro y hy
              rcases List.mem_append.1 hy with h9 | h9
              · exact HK.out.2 y h9
              · simp at h9; subst h9; exact hd.2
            have hv := val_take _ k _ hx
            have hvl := val_lt (s.data.toList.take (k + 1)) hall (k + 1) (by simp; omega)
            rw [List.take_take, Nat.min_self] at hvl
            have hpw : 10 ^ (k + 1) ≤ 10 ^ 17 := Nat.pow_le_pow_right (by omega) (by omega)
            have HN := hid (show V * 10 + ((s[k]).toNat - 48) = valL (s.data.toList.take (k + 1)) ∧ ∀ x ∈ s.data.toList.take (k + 1), x.toNat ≤ 57 from ⟨by rw [hv, HK.out.1], hall⟩)
            have hle : V * 10 + ((s[k]).toNat - 48) ≤ 100000000000000000 := by rw [HN.out.1]; omega
            clear hd hx hall hv hvl hpw HK
            go_wp2
            go_roundw
            case rel => exact ⟨k + 1, V * 10 + ((s[k]).toNat - 48), by omega, by go_num, by congr 1; omega, hle, HN, hbl⟩
            case measure => simp [intOf]; omega
          · have HQ := hid (NumT.no (s := s) (fun k0 _ _ h => hd ((dec_facts h).2.2.1 _ (List.mem_of_getElem? (byte_get s k hlt)))) 0 false (by omega))
            by_cases hd1 : (s[k]).toNat < 48
            · have d1 : ((s[k]).toNat : Int) < 48 := by omega
              clear hd HK hd1
              go_wp2
              go_ret2
              exact ⟨HQ.out, hbl⟩
            · have d1 : ¬ ((s[k]).toNat : Int) < 48 := by omega
              have d2 : (57 : Int) < ((s[k]).toNat : Int) := by omega
              clear hd HK hd1
              go_wp2
              go_ret2
              exact ⟨HQ.out, hbl⟩
        · have hlt2 : ¬ (k : Int) < (s.size : Int) := by omega
          have HQ := hid (show NumT s (.returned (.tuple #[.int .i64 ((V : Int)), .bool true])) from ⟨V, true, rfl, by omega, fun k0 a0 a1 h => by have e1 := (dec_facts h).2.2.2; have e2 := HK.out.1; rw [List.take_of_length_le (by simp; omega)] at e2; exact ⟨by omega, rfl⟩⟩)
          clear hlt HK
          go_wp2
          go_ret2
          exact ⟨HQ.out, hbl⟩
  · have hzb : (((s[0]).toNat : Int) == 48) = false := by
      rw [beq_eq_false_iff_ne]; intro h; exact hzero (UInt8.toNat_inj.1 (by have : (48 : UInt8).toNat = 48 := rfl; omega))
    clear hf hzero h0
    go_enter Tryz.func45, Tryz.ntmps45
    go_wp2_with fail
    go_loopw [5, 6] (fun n i wr => ∃ k V : Nat, k ≤ s.size ∧ i = .int .i64 k ∧ n = .int .i64 V ∧ V ≤ 100000000000000000 ∧ Hid (V = valL (s.data.toList.take k) ∧ ∀ x ∈ s.data.toList.take k, x.toNat ≤ 57) ∧ Below w.heap.size w wr) (fun _ i _ => (s.size - intOf i).toNat)
    case atStart => exact ⟨0, 0, Nat.zero_le _, rfl, rfl, by omega, hid ⟨rfl, by simp⟩, by exact obB⟩
    case round =>
      obtain ⟨k, V, hk, rfl, rfl, hV, HK, hbl⟩ := hrel
      by_cases hlt : k < s.size
      · by_cases hd : 48 ≤ (s[k]).toNat ∧ (s[k]).toNat ≤ 57
        · have d1 : ¬ ((s[k]).toNat : Int) < 48 := by omega
          have d2 : ¬ (57 : Int) < ((s[k]).toNat : Int) := by omega
          have d3 : (48 : Int) ≤ ((s[k]).toNat : Int) := by omega
          have d4 : ((s[k]).toNat : Int) ≤ 57 := by omega
          have hx : s.data.toList[k]? = some s[k] := byte_get s k hlt
          have hall : ∀ x ∈ s.data.toList.take (k + 1), x.toNat ≤ 57 := by
            rw [List.take_add_one, hx]
            intro y hy
            rcases List.mem_append.1 hy with h9 | h9
            · exact HK.out.2 y h9
            · simp at h9; subst h9; exact hd.2
          have hv := val_take _ k _ hx
          have hvl := val_lt (s.data.toList.take (k + 1)) hall (k + 1) (by simp; omega)
          rw [List.take_take, Nat.min_self] at hvl
          have hpw : 10 ^ (k + 1) ≤ 10 ^ 17 := Nat.pow_le_pow_right (by omega) (by omega)
          have HN := hid (show V * 10 + ((s[k]).toNat - 48) = valL (s.data.toList.take (k + 1)) ∧ ∀ x ∈ s.data.toList.take (k + 1), x.toNat ≤ 57 from ⟨by rw [hv, HK.out.1], hall⟩)
          have hle : V * 10 + ((s[k]).toNat - 48) ≤ 100000000000000000 := by rw [HN.out.1]; omega
          clear hd hx hall hv hvl hpw HK
          go_wp2
          go_roundw
          case rel => exact ⟨k + 1, V * 10 + ((s[k]).toNat - 48), by omega, by go_num, by congr 1; omega, hle, HN, hbl⟩
          case measure => simp [intOf]; omega
        · have HQ := hid (NumT.no (s := s) (fun k0 _ _ h => hd ((dec_facts h).2.2.1 _ (List.mem_of_getElem? (byte_get s k hlt)))) 0 false (by omega))
          by_cases hd1 : (s[k]).toNat < 48
          · have d1 : ((s[k]).toNat : Int) < 48 := by omega
            clear hd HK hd1
            go_wp2
            go_ret2
            exact ⟨HQ.out, hbl⟩
          · have d1 : ¬ ((s[k]).toNat : Int) < 48 := by omega
            have d2 : (57 : Int) < ((s[k]).toNat : Int) := by omega
            clear hd HK hd1
            go_wp2
            go_ret2
            exact ⟨HQ.out, hbl⟩
      · have hlt2 : ¬ (k : Int) < (s.size : Int) := by omega
        have HQ := hid (show NumT s (.returned (.tuple #[.int .i64 ((V : Int)), .bool true])) from ⟨V, true, rfl, by omega, fun k0 a0 a1 h => by have e1 := (dec_facts h).2.2.2; have e2 := HK.out.1; rw [List.take_of_length_le (by simp; omega)] at e2; exact ⟨by omega, rfl⟩⟩)
        clear hlt HK
        go_wp2
        go_ret2
        exact ⟨HQ.out, hbl⟩

theorem c_l9NumK (s : ByteArray) (w : World) (hs : s.size ≤ 1048576) : Calls Tryz.prog 45 #[.string s] w fun e w' => (∃ (n : Int) (b : Bool), e = .returned (.tuple #[.int .i64 n, .bool b]) ∧ (-1000000000000000000 ≤ n ∧ n ≤ 1000000000000000000) ∧ NumN s n ∧ ∀ k : Int, 0 ≤ k → k ≤ 1000000 → s = str (dec k) → b = true) ∧ Below w.heap.size w w' := by
  by_cases hm : s = str [45, 49]
  · refine (c_l9Num_m1 s w hm).mono ?_
    rintro e w' ⟨rfl, hb⟩
    refine ⟨⟨-1, true, rfl, by omega, fun k h0 h1 e => ?_, fun _ _ _ _ => rfl⟩, hb⟩
    have e2 : str (Lib.itoa (-1)) = str (Lib.itoa k) := by rw [← e, hm, itoa_m1]
    have h2 := congrArg (fun x : ByteArray => Lib.atoiAll x.data.toList) e2
    simp only [str_list] at h2
    rw [atoi_itoa (by omega) (by omega), atoi_itoa h0 h1] at h2
    cases h2; rfl
  · refine (c_l9NumT s w hs).mono ?_
    rintro e w' ⟨⟨n, b, he, hb, hv⟩, hB⟩
    refine ⟨⟨n, b, he, hb, fun k h0 h1 e => ?_, fun k h0 h1 e => (hv k h0 (by omega) e).2⟩, hB⟩
    by_cases hk : 0 ≤ k
    · exact (hv k hk (by omega) (by rw [e, itoa_dec k hk])).1
    · have : k = -1 := by omega
      subst this
      exact absurd (by rw [e, itoa_m1]) hm
theorem index_byte_hitK (c : UInt8) (r : List UInt8) : ∀ (p : List UInt8), (∀ x ∈ p, x ≠ c) → Lib.indexByte (p ++ c :: r) c = p.length
  | [], _ => by simp [Lib.indexByte]
  | b :: p, h => by
    have hb : ¬ b = c := h b (by simp)
    have ih := index_byte_hitK c r p (fun x hx => h x (by simp [hx]))
    rw [List.cons_append, Lib.indexByte, if_neg (by simp [hb]), ih, if_neg (by simp)]
    simp
theorem index_pk (p : Pr) : Lib.indexByte (pkT p).data.toList 46 = (dec p.1).length := by
  rw [pkT_list]; exact index_byte_hitK _ _ _ (dec_noC 46 (.inl (by decide)) p.1)
theorem index_ltK (c : UInt8) : ∀ (s : List UInt8), Lib.indexByte s c < s.length ∨ s = []
  | [] => .inr rfl
  | b :: r => by
    left
    have ih := index_ltK c r
    have hr : Lib.indexByte r c < (r.length : Int) ∨ Lib.indexByte r c = -1 := by
      rcases ih with h | h
      · exact .inl h
      · rw [h]; exact .inr rfl
    rw [Lib.indexByte]
    have hl : ((b :: r).length : Int) = r.length + 1 := by simp
    rw [hl]
    split
    · omega
    · split
      · omega
      · omega
theorem pk_split {x : ByteArray} {m : Nat} (hm : Lib.indexByte x.data.toList 46 = m) (p : Pr) (e : x = pkT p) : x.extract 0 m = str (dec p.1) ∧ x.extract (m + 1) x.size = str (dec p.2) := by
  subst e
  rw [index_pk] at hm
  have hm2 : m = (dec p.1).length := by omega
  have hl : (pkT p).data.toList.length = (pkT p).size := by simp
  refine ⟨?_, ?_⟩
  · apply ByteArray.ext
    apply Array.toList_inj.1
    rw [Lib.extract_data, pkT_list, hm2, str_list]
    simp
  · apply ByteArray.ext
    apply Array.toList_inj.1
    rw [Lib.extract_data, ← hl, pkT_list, hm2, str_list]
    rw [List.drop_append, List.drop_of_length_le (by omega)]
    simp
    exact List.take_of_length_le (by omega)

set_option maxHeartbeats 4000000 in
set_option maxRecDepth 100000 in
theorem c_l3Pair (x : ByteArray) (w : World) (hx : x.size ≤ 1048576) : Calls Tryz.prog 46 #[.string x] w fun e w' => (∃ p : Pr, e = .returned (.agg #[.int .i64 p.1, .int .i64 p.2]) ∧ ((-9223372036854775808 ≤ p.1 ∧ p.1 ≤ 9223372036854775807) ∧ (-9223372036854775808 ≤ p.2 ∧ p.2 ≤ 9223372036854775807)) ∧ PkOf x p) ∧ Below w.heap.size w w' := by
  obtain ⟨I, hI⟩ : ∃ I, I = Lib.indexByte x.data.toList 46 := ⟨_, rfl⟩
  have HF := hid (fun (v : World) => c_l9Find x 46 v (by unfold maxLen; omega))
  rw [← hI] at HF
  have hIlt : I < x.size ∨ I < 0 := by
    rw [hI]
    rcases index_ltK 46 x.data.toList with h | h
    · left; simpa using h
    · right; rw [h]; decide
  have hIge : -1 ≤ I := by rw [hI]; exact Lib.indexByte_ge _ _
  have HI := hid hI
  clear hI
  obtain ⟨W1, hW1⟩ : ∃ W1, W1 = w.alloc (.cells #[.int .i64 0, .int .i64 0] 53) := ⟨_, rfl⟩
  have k1 : Blk W1 w.heap.size 53 #[.int .i64 0, .int .i64 0] := by rw [hW1]; exact Blk.new w _ _
  have c1 : Below w.heap.size w W1 := by rw [hW1]; exact bel_alloc (Below.refl _ _) _
  go_enter Tryz.func46, Tryz.ntmps46
  go_wp2_with fail
  rw [← hW1]
  clear hW1
  refine (HF.out W1).mono ?_
  rintro e W9 ⟨rfl, rfl⟩
  by_cases hneg : I < 0
  · have HR := hid (show PkOf x ((-1 : Int), (0 : Int)) from fun p h1 h2 e => by have := HI.out; rw [e, index_pk] at this; omega)
    obtain ⟨m0, m1⟩ := k1.cells2
    have f0 := k1.frozen 0
    have f1 := k1.frozen 1
    obtain ⟨j0, j1⟩ := ((k1.set_ 0 (.int .i64 (-1))).set_ 1 (.int .i64 0)).cells2
    clear k1 hIlt hIge
    go_wp2
    (try simp only [Exit.inBlock, Exit.then])
    exact bodyPost_ret (v := .agg #[.int .i64 (-1), .int .i64 0]) (by simp [results, Tryz.results46, go_sem, j0, j1]) rfl ⟨⟨(-1, 0), rfl, by simp, HR.out⟩, by exact obB⟩
  obtain ⟨m, rfl⟩ := Int.eq_ofNat_of_zero_le (show 0 ≤ I by omega)
  have hmx : m < x.size := by omega
  obtain ⟨a, ha⟩ : ∃ a, a = x.extract 0 m := ⟨_, rfl⟩
  obtain ⟨c, hc⟩ : ∃ c, c = x.extract (m + 1) x.size := ⟨_, rfl⟩
  have haz : a.size ≤ 1048576 := by rw [ha, ByteArray.size_extract]; omega
  have hcz : c.size ≤ 1048576 := by rw [hc, ByteArray.size_extract]; omega
  have hs1 : ∀ W, (Instr.slice 9 (.string x) none (some (.int .i64 (m : Int))) none).run Tryz.prog W = .ok (.string a) W := fun W => by
    rw [run_slice_string_h W 9 x Tryz.underlying9 .i64 m (by omega) (by omega), ha]
    rfl
  have hs2 : ∀ W, (Instr.slice 9 (.string x) (some (.int .i64 ((m : Int) + 1))) none none).run Tryz.prog W = .ok (.string c) W := fun W => by
    rw [run_slice_string_l W 9 x Tryz.underlying9 .i64 ((m : Int) + 1) (by omega) (by omega), hc]
    rfl
  have HAC := hid (show ∀ p : Pr, x = pkT p → a = str (dec p.1) ∧ c = str (dec p.2) from fun p e => by rw [ha, hc]; exact pk_split HI.out.symm p e)
  clear ha hc hIlt hIge
  go_wp2_with fail
  refine (c_l9NumK a W1 haz).mono ?_
  rintro e W4 ⟨⟨n0, b0, rfl, hr0, hn0, hf0⟩, hb4⟩
  have HN0 := hid (And.intro hn0 hf0)
  have k4 := k1.on hb4
  have c4 := c1.trans (hb4.mono c1.size)
  clear hn0 hf0 hb4 k1 c1
  go_wp2_with fail
  refine (c_l9NumK c W4 hcz).mono ?_
  rintro e W6 ⟨⟨n1, b1, rfl, hr1, hn1, hf1⟩, hb6⟩
  have HN1 := hid (And.intro hn1 hf1)
  have k6 := k4.on hb6
  have c6 := c4.trans (hb6.mono c4.size)
  clear hn1 hf1 hb6 k4 c4
  have HBAD := hid (show (b0 = false ∨ b1 = false) → PkOf x ((-1 : Int), (0 : Int)) from fun hb p h1 h2 e => by
    obtain ⟨e1, e2⟩ := HAC.out p e
    have t0 := HN0.out.2 p.1 h1.1 (by omega) e1
    have t1 := HN1.out.2 p.2 h2.1 (by omega) e2
    rcases hb with hb | hb
    · rw [hb] at t0; cases t0
    · rw [hb] at t1; cases t1)
  have HGOOD := hid (show PkOf x (n0, n1) from pk_of HAC.out HN0.out.1 HN1.out.1)
  obtain ⟨m0, m1⟩ := k6.cells2
  have f0 := k6.frozen 0
  have f1 := k6.frozen 1
  cases b0 with
  | false =>
    have HR := hid (HBAD.out (.inl rfl))
    obtain ⟨j0, j1⟩ := ((k6.set_ 0 (.int .i64 (-1))).set_ 1 (.int .i64 0)).cells2
    clear k6
    go_wp2
    (try simp only [Exit.inBlock, Exit.then])
    exact bodyPost_ret (v := .agg #[.int .i64 (-1), .int .i64 0]) (by simp [results, Tryz.results46, go_sem, j0, j1]) rfl ⟨⟨(-1, 0), rfl, by simp, HR.out⟩, by exact obB⟩
  | true =>
    cases b1 with
    | false =>
      have HR := hid (HBAD.out (.inr rfl))
      obtain ⟨j0, j1⟩ := ((k6.set_ 0 (.int .i64 (-1))).set_ 1 (.int .i64 0)).cells2
      clear k6
      go_wp2
      (try simp only [Exit.inBlock, Exit.then])
      exact bodyPost_ret (v := .agg #[.int .i64 (-1), .int .i64 0]) (by simp [results, Tryz.results46, go_sem, j0, j1]) rfl ⟨⟨(-1, 0), rfl, by simp, HR.out⟩, by exact obB⟩
    | true =>
      obtain ⟨j0, j1⟩ := ((k6.set_ 0 (.int .i64 n0)).set_ 1 (.int .i64 n1)).cells2
      clear k6
      go_wp2
      (try simp only [Exit.inBlock, Exit.then])
      exact bodyPost_ret (v := .agg #[.int .i64 n0, .int .i64 n1]) (by simp [results, Tryz.results46, go_sem, j0, j1]) rfl ⟨⟨(n0, n1), rfl, ⟨⟨by omega, by omega⟩, by omega, by omega⟩, HGOOD.out⟩, by exact obB⟩
end Go.Proofs.YtmfnfheahehpcaaGreatDoor
