/- The model's l9Cut and l9Num. -/
import Derived.Test.YtmfnfheahehpcaaGreatDoorLb
namespace Go.Proofs.YtmfnfheahehpcaaGreatDoor
open Go.ChangeShapes Go.WideShapes Go.ChangeAt Go.RowKit Go.Joins
set_option linter.unusedVariables false
set_option linter.unusedSimpArgs false

/-- how far a text is cut: these pieces, and what is behind the place -/
def CutTo (c : UInt8) (T : List UInt8) (l : List ByteArray) (b a : Nat) : Prop := l.map (·.data.toList) ++ cutL c (T.drop b) = cutL c T ∧ (∀ x ∈ (T.drop b).take (a - b), x ≠ c)
theorem CutTo.next {c : UInt8} {T : List UInt8} {l : List ByteArray} {b a : Nat} (h : CutTo c T l b a) (hb : b ≤ a) (x : UInt8) (hx : T[a]? = some x) (hne : x ≠ c) : CutTo c T l b (a + 1) := by
  refine ⟨h.1, ?_⟩
  rw [show a + 1 - b = (a - b) + 1 from by omega, List.take_add_one, List.getElem?_drop, show b + (a - b) = a from by omega, hx]
  intro y hy
  rcases List.mem_append.1 hy with h1 | h1
  · exact h.2 y h1
  · simp at h1; subst h1; exact hne
theorem CutTo.hit {c : UInt8} {T : List UInt8} {l : List ByteArray} {b a : Nat} (h : CutTo c T l b a) (hb : b ≤ a) (p : ByteArray) (hp : p.data.toList = (T.drop b).take (a - b)) (hx : T[a]? = some c) : CutTo c T (l ++ [p]) (a + 1) (a + 1) := by
  have e : T.drop b = (T.drop b).take (a - b) ++ c :: T.drop (a + 1) := by
    have h1 := (List.take_append_drop (a - b) (T.drop b)).symm
    rw [List.drop_drop, show b + (a - b) = a from by omega] at h1
    have hlt : a < T.length := (List.getElem?_eq_some_iff.1 hx).1
    have h2 : T.drop a = c :: T.drop (a + 1) := by
      rw [List.drop_eq_getElem_cons hlt, (List.getElem?_eq_some_iff.1 hx).2]
    rw [h2] at h1
    exact h1
  refine ⟨?_, by simp⟩
  have h3 := h.1
  rw [e, cutL_hit c _ _ h.2] at h3
  rw [List.map_append, List.map_singleton, hp, List.append_assoc]
  exact h3
theorem CutTo.last {c : UInt8} {T : List UInt8} {l : List ByteArray} {b : Nat} (h : CutTo c T l b T.length) (hb : b ≤ T.length) (p : ByteArray) (hp : p.data.toList = (T.drop b).take (T.length - b)) : (l ++ [p]).map (·.data.toList) = cutL c T := by
  have h3 := h.1
  have e : (T.drop b).take (T.length - b) = T.drop b := List.take_of_length_le (by simp)
  have h4 := h.2
  rw [e] at h4 hp
  rw [cutL_free c _ h4] at h3
  rw [List.map_append, List.map_singleton, hp]
  exact h3
theorem CutTo.start (c : UInt8) (T : List UInt8) : CutTo c T [] 0 0 := ⟨by simp, by simp⟩
theorem ext_list (t : ByteArray) (b a : Nat) : (t.extract b a).data.toList = (t.data.toList.drop b).take (a - b) := by
  rw [Lib.extract_data]

set_option maxHeartbeats 4000000 in
set_option maxRecDepth 100000 in
theorem c_l9Cut (c : UInt8) (t : ByteArray) (w : World) (ht : t.size ≤ 1048576) : Calls Tryz.prog 43 #[.string t, .int .u8 (c.toNat : Int)] w fun e w' => ∃ (l : List ByteArray) (A : Option Addr) (cap : Nat), l.map (·.data.toList) = cutL c t.data.toList ∧ l.length ≤ 1048577 ∧ e = .returned (.slice A l.length cap) ∧ w'.ownsRow w.heap.size 9 1 (.slice A l.length cap) l.length (l.map sv) ∧ Below w.heap.size w w' := by
  have hc := c.toNat_lt
  have hTl : t.data.toList.length = t.size := by simp
  go_enter Tryz.func43, Tryz.ntmps43
  go_wp2_with fail
  go_loopw [5, 6, 7] (fun v fr i wr => ∃ (l : List ByteArray) (a b : Nat), i = .int .i64 a ∧ fr = .int .i64 b ∧ Hid ((a ≤ t.size ∧ b ≤ a ∧ l.length ≤ a ∧ CutTo c t.data.toList l b a) ∨ (a = t.size + 1 ∧ l.length ≤ a ∧ l.map (·.data.toList) = cutL c t.data.toList)) ∧ wr.ownsRow w.heap.size 9 1 v l.length (l.map sv) ∧ Below w.heap.size w wr) (fun _ _ i _ => (t.size + 1 - intOf i).toNat)
  case atStart => exact ⟨[], 0, 0, rfl, rfl, hid (.inl ⟨Nat.zero_le _, Nat.le_refl _, Nat.le_refl _, CutTo.start _ _⟩), World.ownsRow_made (e := 9) (size := 1) (base := w.heap.size) w #[] 0 (Nat.le_refl _) (by simp [maxLen]) rfl, by exact obB⟩
  case round =>
    obtain ⟨l, a, b, rfl, rfl, HC, hown, hbl⟩ := hrel
    rcases HC.out with ⟨h1, h2, h3, h4⟩ | ⟨h1, h3, h4⟩
    · have HCT := hid h4
      clear h4 HC
      by_cases hlt : a < t.size
      · by_cases he : t[a] = c
        · have hb : (((t[a]).toNat : Int) == (c.toNat : Int)) = true := by rw [he]; simp
          have hx : t.data.toList[a]? = some c := by rw [← he]; exact byte_get t a hlt
          have hN := hid (HCT.out.hit h2 (t.extract b a) (ext_list t b a) hx)
          have hal : ((a : Int) == (t.size : Int)) = false := eq_no (by omega)
          have hlen : ¬ (a : Int) = (t.size : Int) := by omega
          clear he hx HCT
          have HO := hid hown
          clear hown
          go_wp2_with (at_builtin; refine app_txt rfl _ _ 50 rfl w.heap.size 9 Tryz.underlying50 Tryz.info_txt _ l.length l rfl HO.out (t.extract b a) (t.extract b a) rfl 1 rfl (by omega) hbl.size ?_; intro v4 w4 hown4 hb4 hg4)
          clear hg4
          have hbn := hbl.trans hb4
          clear hb4 hbl
          go_roundw
          case rel => exact ⟨l ++ [t.extract b a], a + 1, a + 1, by go_num, by go_num, hid (.inl ⟨by omega, Nat.le_refl _, by simp; omega, hN.out⟩), by simpa using hown4, hbn⟩
          case measure => simp [intOf]; omega
        · have hb : (((t[a]).toNat : Int) == (c.toNat : Int)) = false := by
            rw [beq_eq_false_iff_ne]; intro h; exact he (UInt8.toNat_inj.1 (by omega))
          have hN := hid (HCT.out.next h2 t[a] (byte_get t a hlt) he)
          have hal : ((a : Int) == (t.size : Int)) = false := eq_no (by omega)
          have hlen : ¬ (a : Int) = (t.size : Int) := by omega
          clear he HCT
          have HO := hid hown
          clear hown
          go_wp2
          go_roundw
          case rel => exact ⟨l, a + 1, b, by go_num, rfl, hid (.inl ⟨by omega, by omega, by omega, hN.out⟩), HO.out, hbl⟩
          case measure => simp [intOf]; omega
      · obtain ⟨S, hS⟩ : ∃ S, S = t.size := ⟨_, rfl⟩
        have hae : a = t.size := by omega
        subst hae
        have hN := hid ((by have h9 := HCT.out; rw [← hTl] at h9; exact h9.last (by rw [hTl]; exact h2) (t.extract b t.size) (by rw [ext_list, hTl])) : (l ++ [t.extract b t.size]).map (·.data.toList) = cutL c t.data.toList)
        clear hS S HCT
        have HO := hid hown
        clear hown
        go_wp2_with (at_builtin; refine app_txt rfl _ _ 50 rfl w.heap.size 9 Tryz.underlying50 Tryz.info_txt _ l.length l rfl HO.out (t.extract b t.size) (t.extract b t.size) rfl 1 rfl (by omega) hbl.size ?_; intro v4 w4 hown4 hb4 hg4)
        clear hg4
        have hbn := hbl.trans hb4
        clear hb4 hbl
        go_roundw
        case rel => exact ⟨l ++ [t.extract b t.size], t.size + 1, t.size + 1, by go_num, by go_num, hid (.inr ⟨rfl, by simp; omega, hN.out⟩), by simpa using hown4, hbn⟩
        case measure => simp [intOf]
    · have hgt : ¬ (a : Int) ≤ (t.size : Int) := by omega
      have h1' := hid h1
      have h4' := hid h4
      clear h1 h4 HC
      obtain ⟨A0, cap, rfl, hat, _, _⟩ := own_strs hown
      have HO := hid hown
      clear hown
      go_wp2
      go_ret
      exact ⟨l, h4'.out, by have := h1'.out; omega, A0, cap, rfl, HO.out, hbl⟩

theorem dec_facts {k : Int} {s : ByteArray} (h : s = str (dec k)) : s.size ≠ 0 ∧ (∀ c, s.data.toList[0]? = some c → 48 ≤ c.toNat ∧ (c = 48 → s.size = 1)) ∧ (∀ x ∈ s.data.toList, 48 ≤ x.toNat ∧ x.toNat ≤ 57) ∧ valL s.data.toList = k.toNat := by
  have e : s.data.toList = Lib.decDigits k.toNat := by rw [h, str_list]; rfl
  have hz : s.data.toList.length = s.size := by simp
  rw [← hz, e]
  refine ⟨fun h0 => dec_ne_nil _ (List.length_eq_zero_iff.1 h0), ?_, dig_dec _, val_dec _⟩
  intro c hc
  have hd := dig_dec k.toNat
  cases e2 : Lib.decDigits k.toNat with
  | nil => exact absurd e2 (dec_ne_nil _)
  | cons d r =>
    rw [e2] at hc hd
    simp at hc
    subst hc
    refine ⟨(hd d (by simp)).1, ?_⟩
    rintro rfl
    rw [dec_zero _ r e2]; rfl

/-- what l9Num returns -/
def NumR (s : ByteArray) (e : Ending) : Prop := ∃ (n : Int) (b : Bool), e = .returned (.tuple #[.int .i64 n, .bool b]) ∧ (-1000000000000000000 ≤ n ∧ n ≤ 1000000000000000000) ∧ (∀ k : Int, 0 ≤ k → k ≤ 1000000000000000 → s = str (dec k) → n = k)
theorem NumR.no {s : ByteArray} (h : ∀ k : Int, 0 ≤ k → k ≤ 1000000000000000 → ¬ s = str (dec k)) (n : Int) (b : Bool) (hn : -1000000000000000000 ≤ n ∧ n ≤ 1000000000000000000) : NumR s (.returned (.tuple #[.int .i64 n, .bool b])) := ⟨n, b, rfl, hn, fun k h0 h1 h2 => absurd h2 (h k h0 h1)⟩

set_option maxHeartbeats 4000000 in
set_option maxRecDepth 100000 in
theorem c_l9Num (s : ByteArray) (w : World) (hs : s.size ≤ 1048576) : Calls Tryz.prog 45 #[.string s] w fun e w' => NumR s e ∧ Below w.heap.size w w' := by
  by_cases h0 : s.size = 0
  · have HN := hid (NumR.no (s := s) (fun k _ _ h => (dec_facts h).1 h0) 0 false (by omega))
    have hz : ¬ (0 : Int) < (s.size : Int) := by omega
    have hz2 : ((s.size : Int) == 0) = true := eq_yes (by omega)
    have hz3 : (s.size : Int) = 0 := by omega
    clear h0
    go_enter Tryz.func45, Tryz.ntmps45
    go_wp2
    go_ret2
    exact ⟨HN.out, by exact obB⟩
  have hp : 0 < s.size := by omega
  have hpi : (0 : Int) < (s.size : Int) := by omega
  have hf := fun k h => (dec_facts (k := k) (s := s) h).2.1 s[0] (byte_get s 0 hp)
  by_cases hm : s[0] = 45
  · have HN := hid (fun n b hn => NumR.no (s := s) (fun k _ _ h => absurd (hf k h).1 (by rw [hm]; decide)) n b hn)
    have hmb : (((s[0]).toNat : Int) == 45) = true := by rw [hm]; rfl
    clear hm hf
    obtain ⟨R, hR⟩ : ∃ R, R = s.extract 1 s.size := ⟨_, rfl⟩
    have hRz : R.size ≤ 1048576 := by rw [hR, ByteArray.size_extract]; omega
    have hsl : ∀ W, (Instr.slice 9 (.string s) (some (.int .i64 1)) none none).run Tryz.prog W = .ok (.string R) W := by
      intro W
      have h9 := run_slice_string_l W 9 s Tryz.underlying9 .i64 1 (by omega) (by omega)
      rw [h9, hR]
      rfl
    clear hR
    by_cases r0 : R.size = 0
    · have hz2 : ((R.size : Int) == 0) = true := eq_yes (by omega)
      have HQ := hid (HN.out 0 false (by omega))
      go_enter Tryz.func45, Tryz.ntmps45
      go_wp2
      go_ret2
      exact ⟨HQ.out, by exact obB⟩
    have hz2 : ((R.size : Int) == 0) = false := eq_no (by omega)
    by_cases r17 : 17 < R.size
    · have hz4 : (17 : Int) < (R.size : Int) := by omega
      have HQ := hid (HN.out 0 false (by omega))
      clear r0 r17
      go_enter Tryz.func45, Tryz.ntmps45
      go_wp2
      go_ret2
      exact ⟨HQ.out, by exact obB⟩
    have hz4 : ¬ (17 : Int) < (R.size : Int) := by omega
    have rp : 0 < R.size := by omega
    by_cases rz : R[0] = 48
    · have hzb : (((R[0]).toNat : Int) == 48) = true := by rw [rz]; rfl
      have HQ := hid (HN.out 0 false (by omega))
      clear rz r0
      by_cases r1 : (1 : Int) < (R.size : Int)
      all_goals
        go_enter Tryz.func45, Tryz.ntmps45
        go_wp2
        go_ret2
        exact ⟨HQ.out, by exact obB⟩
    have hzb : (((R[0]).toNat : Int) == 48) = false := by
      rw [beq_eq_false_iff_ne]; intro h; exact rz (UInt8.toNat_inj.1 (by have : (48 : UInt8).toNat = 48 := rfl; omega))
    clear rz r0
    go_enter Tryz.func45, Tryz.ntmps45
    go_wp2_with fail
    go_loopw [5, 6] (fun n i wr => ∃ k V : Nat, k ≤ R.size ∧ i = .int .i64 k ∧ n = .int .i64 V ∧ V ≤ 100000000000000000 ∧ Hid (V = valL (R.data.toList.take k) ∧ ∀ x ∈ R.data.toList.take k, x.toNat ≤ 57) ∧ Below w.heap.size w wr) (fun _ i _ => (R.size - intOf i).toNat)
    case atStart => exact ⟨0, 0, Nat.zero_le _, rfl, rfl, by omega, hid ⟨rfl, by simp⟩, by exact obB⟩
    case round =>
      obtain ⟨k, V, hk, rfl, rfl, hV, HK, hbl⟩ := hrel
      by_cases hlt : k < R.size
      · by_cases hd : 48 ≤ (R[k]).toNat ∧ (R[k]).toNat ≤ 57
        · have d1 : ¬ ((R[k]).toNat : Int) < 48 := by omega
          have d2 : ¬ (57 : Int) < ((R[k]).toNat : Int) := by omega
          have d3 : (48 : Int) ≤ ((R[k]).toNat : Int) := by omega
          have d4 : ((R[k]).toNat : Int) ≤ 57 := by omega
          have hx : R.data.toList[k]? = some R[k] := byte_get R k hlt
          have hall : ∀ x ∈ R.data.toList.take (k + 1), x.toNat ≤ 57 := by
            rw [List.take_add_one, hx]
            intro y hy
            rcases List.mem_append.1 hy with h9 | h9
            · exact HK.out.2 y h9
            · simp at h9; subst h9; exact hd.2
          have hv := val_take _ k _ hx
          have hvl := val_lt (R.data.toList.take (k + 1)) hall (k + 1) (by simp; omega)
          rw [List.take_take, Nat.min_self] at hvl
          have hpw : 10 ^ (k + 1) ≤ 10 ^ 17 := Nat.pow_le_pow_right (by omega) (by omega)
          have HN := hid (show V * 10 + ((R[k]).toNat - 48) = valL (R.data.toList.take (k + 1)) ∧ ∀ x ∈ R.data.toList.take (k + 1), x.toNat ≤ 57 from ⟨by rw [hv, HK.out.1], hall⟩)
          have hle : V * 10 + ((R[k]).toNat - 48) ≤ 100000000000000000 := by rw [HN.out.1]; omega
          clear hd hx hall hv hvl hpw HK
          go_wp2
          go_roundw
          case rel => exact ⟨k + 1, V * 10 + ((R[k]).toNat - 48), by omega, by go_num, by congr 1; omega, hle, HN, hbl⟩
          case measure => simp [intOf]; omega
        · have HQ := hid (HN.out)
          by_cases hd1 : (R[k]).toNat < 48
          · have d1 : ((R[k]).toNat : Int) < 48 := by omega
            clear hd HK hd1
            go_wp2
            go_ret2
            exact ⟨HQ.out 0 false (by omega), hbl⟩
          · have d1 : ¬ ((R[k]).toNat : Int) < 48 := by omega
            have d2 : (57 : Int) < ((R[k]).toNat : Int) := by omega
            clear hd HK hd1
            go_wp2
            go_ret2
            exact ⟨HQ.out 0 false (by omega), hbl⟩
      · have hlt2 : ¬ (k : Int) < (R.size : Int) := by omega
        have HQ := hid (show NumR s (.returned (.tuple #[.int .i64 (-(V : Int)), .bool true])) from HN.out _ true (by omega))
        clear hlt HK
        go_wp2
        go_ret2
        exact ⟨HQ.out, hbl⟩
  have hmb : (((s[0]).toNat : Int) == 45) = false := by
    rw [beq_eq_false_iff_ne]; intro h; exact hm (UInt8.toNat_inj.1 (by have : (45 : UInt8).toNat = 45 := rfl; omega))
  clear hm
  by_cases h17 : 17 < s.size
  · have HN := hid (NumR.no (s := s) (fun k a0 a1 h => by
      have h1 : s.size ≤ 16 := by rw [h, str_size]; exact decD_len 15 _ (by omega)
      omega) 0 false (by omega))
    have hz2 : ((s.size : Int) == 0) = false := eq_no (by omega)
    have hz4 : (17 : Int) < (s.size : Int) := by omega
    clear hf h0 h17
    go_enter Tryz.func45, Tryz.ntmps45
    go_wp2
    go_ret2
    exact ⟨HN.out, by exact obB⟩
  have hz2 : ((s.size : Int) == 0) = false := eq_no (by omega)
  have hz4 : ¬ (17 : Int) < (s.size : Int) := by omega
  by_cases hzero : s[0] = 48
  · have hzb : (((s[0]).toNat : Int) == 48) = true := by rw [hzero]; rfl
    by_cases h1 : 1 < s.size
    · have HN := hid (NumR.no (s := s) (fun k a0 a1 h => by have := (hf k h).2 hzero; omega) 0 false (by omega))
      have h1i : (1 : Int) < (s.size : Int) := by omega
      clear hf hzero h0 h17 h1
      go_enter Tryz.func45, Tryz.ntmps45
      go_wp2
      go_ret2
      exact ⟨HN.out, by exact obB⟩
    · have h1i : ¬ (1 : Int) < (s.size : Int) := by omega
      clear hf hzero h0 h1
      go_enter Tryz.func45, Tryz.ntmps45
      go_wp2_with fail
      go_loopw [5, 6] (fun n i wr => ∃ k V : Nat, k ≤ s.size ∧ i = .int .i64 k ∧ n = .int .i64 V ∧ V ≤ 100000000000000000 ∧ Hid (V = valL (s.data.toList.take k) ∧ ∀ x ∈ s.data.toList.take k, x.toNat ≤ 57) ∧ Below w.heap.size w wr) (fun _ i _ => (s.size - intOf i).toNat)
      case atStart => exact ⟨0, 0, Nat.zero_le _, rfl, rfl, by omega, hid ⟨rfl, by simp⟩, by exact obB⟩
      case round =>
        obtain ⟨k, V, hk, rfl, rfl, hV, HK, hbl⟩ := hrel
        by_cases hlt : k < s.size
        · by_cases hd : 48 ≤ (s[k]).toNat ∧ (s[k]).toNat ≤ 57
          · have d1 : ¬ ((s[k]).toNat : Int) < 48 := by omega
            have d2 : ¬ (57 : Int) < ((s[k]).toNat : Int) := by omega
            have d3 : (48 : Int) ≤ ((s[k]).toNat : Int) := by omega
            have d4 : ((s[k]).toNat : Int) ≤ 57 := by omega
            have hx : s.data.toList[k]? = some s[k] := byte_get s k hlt
            have hall : ∀ x ∈ s.data.toList.take (k + 1), x.toNat ≤ 57 := by
              rw [List.take_add_one, hx]
              intro y hy
              rcases List.mem_append.1 hy with h9 | h9
              · exact HK.out.2 y h9
              · simp at h9; subst h9; exact hd.2
            have hv := val_take _ k _ hx
            have hvl := val_lt (s.data.toList.take (k + 1)) hall (k + 1) (by simp; omega)
            rw [List.take_take, Nat.min_self] at hvl
            have hpw : 10 ^ (k + 1) ≤ 10 ^ 17 := Nat.pow_le_pow_right (by omega) (by omega)
            have HN := hid (show V * 10 + ((s[k]).toNat - 48) = valL (s.data.toList.take (k + 1)) ∧ ∀ x ∈ s.data.toList.take (k + 1), x.toNat ≤ 57 from ⟨by rw [hv, HK.out.1], hall⟩)
            have hle : V * 10 + ((s[k]).toNat - 48) ≤ 100000000000000000 := by rw [HN.out.1]; omega
            clear hd hx hall hv hvl hpw HK
            go_wp2
            go_roundw
            case rel => exact ⟨k + 1, V * 10 + ((s[k]).toNat - 48), by omega, by go_num, by congr 1; omega, hle, HN, hbl⟩
            case measure => simp [intOf]; omega
          · have HQ := hid (NumR.no (s := s) (fun k0 _ _ h => hd ((dec_facts h).2.2.1 _ (List.mem_of_getElem? (byte_get s k hlt)))) 0 false (by omega))
            by_cases hd1 : (s[k]).toNat < 48
            · have d1 : ((s[k]).toNat : Int) < 48 := by omega
              clear hd HK hd1
              go_wp2
              go_ret2
              exact ⟨HQ.out, hbl⟩
            · have d1 : ¬ ((s[k]).toNat : Int) < 48 := by omega
              have d2 : (57 : Int) < ((s[k]).toNat : Int) := by omega
              clear hd HK hd1
              go_wp2
              go_ret2
              exact ⟨HQ.out, hbl⟩
        · have hlt2 : ¬ (k : Int) < (s.size : Int) := by omega
          have HQ := hid (show NumR s (.returned (.tuple #[.int .i64 ((V : Int)), .bool true])) from ⟨V, true, rfl, by omega, fun k0 a0 a1 h => by have e1 := (dec_facts h).2.2.2; have e2 := HK.out.1; rw [List.take_of_length_le (by simp; omega)] at e2; omega⟩)
          clear hlt HK
          go_wp2
          go_ret2
          exact ⟨HQ.out, hbl⟩
  · have hzb : (((s[0]).toNat : Int) == 48) = false := by
      rw [beq_eq_false_iff_ne]; intro h; exact hzero (UInt8.toNat_inj.1 (by have : (48 : UInt8).toNat = 48 := rfl; omega))
    clear hf hzero h0
    go_enter Tryz.func45, Tryz.ntmps45
    go_wp2_with fail
    go_loopw [5, 6] (fun n i wr => ∃ k V : Nat, k ≤ s.size ∧ i = .int .i64 k ∧ n = .int .i64 V ∧ V ≤ 100000000000000000 ∧ Hid (V = valL (s.data.toList.take k) ∧ ∀ x ∈ s.data.toList.take k, x.toNat ≤ 57) ∧ Below w.heap.size w wr) (fun _ i _ => (s.size - intOf i).toNat)
    case atStart => exact ⟨0, 0, Nat.zero_le _, rfl, rfl, by omega, hid ⟨rfl, by simp⟩, by exact obB⟩
    case round =>
      obtain ⟨k, V, hk, rfl, rfl, hV, HK, hbl⟩ := hrel
      by_cases hlt : k < s.size
      · by_cases hd : 48 ≤ (s[k]).toNat ∧ (s[k]).toNat ≤ 57
        · have d1 : ¬ ((s[k]).toNat : Int) < 48 := by omega
          have d2 : ¬ (57 : Int) < ((s[k]).toNat : Int) := by omega
          have d3 : (48 : Int) ≤ ((s[k]).toNat : Int) := by omega
          have d4 : ((s[k]).toNat : Int) ≤ 57 := by omega
          have hx : s.data.toList[k]? = some s[k] := byte_get s k hlt
          have hall : ∀ x ∈ s.data.toList.take (k + 1), x.toNat ≤ 57 := by
            rw [List.take_add_one, hx]
            intro y hy
            rcases List.mem_append.1 hy with h9 | h9
            · exact HK.out.2 y h9
            · simp at h9; subst h9; exact hd.2
          have hv := val_take _ k _ hx
          have hvl := val_lt (s.data.toList.take (k + 1)) hall (k + 1) (by simp; omega)
          rw [List.take_take, Nat.min_self] at hvl
          have hpw : 10 ^ (k + 1) ≤ 10 ^ 17 := Nat.pow_le_pow_right (by omega) (by omega)
          have HN := hid (show V * 10 + ((s[k]).toNat - 48) = valL (s.data.toList.take (k + 1)) ∧ ∀ x ∈ s.data.toList.take (k + 1), x.toNat ≤ 57 from ⟨by rw [hv, HK.out.1], hall⟩)
          have hle : V * 10 + ((s[k]).toNat - 48) ≤ 100000000000000000 := by rw [HN.out.1]; omega
          clear hd hx hall hv hvl hpw HK
          go_wp2
          go_roundw
          case rel => exact ⟨k + 1, V * 10 + ((s[k]).toNat - 48), by omega, by go_num, by congr 1; omega, hle, HN, hbl⟩
          case measure => simp [intOf]; omega
        · have HQ := hid (NumR.no (s := s) (fun k0 _ _ h => hd ((dec_facts h).2.2.1 _ (List.mem_of_getElem? (byte_get s k hlt)))) 0 false (by omega))
          by_cases hd1 : (s[k]).toNat < 48
          · have d1 : ((s[k]).toNat : Int) < 48 := by omega
            clear hd HK hd1
            go_wp2
            go_ret2
            exact ⟨HQ.out, hbl⟩
          · have d1 : ¬ ((s[k]).toNat : Int) < 48 := by omega
            have d2 : (57 : Int) < ((s[k]).toNat : Int) := by omega
            clear hd HK hd1
            go_wp2
            go_ret2
            exact ⟨HQ.out, hbl⟩
      · have hlt2 : ¬ (k : Int) < (s.size : Int) := by omega
        have HQ := hid (show NumR s (.returned (.tuple #[.int .i64 ((V : Int)), .bool true])) from ⟨V, true, rfl, by omega, fun k0 a0 a1 h => by have e1 := (dec_facts h).2.2.2; have e2 := HK.out.1; rw [List.take_of_length_le (by simp; omega)] at e2; omega⟩)
        clear hlt HK
        go_wp2
        go_ret2
        exact ⟨HQ.out, hbl⟩
end Go.Proofs.YtmfnfheahehpcaaGreatDoor
