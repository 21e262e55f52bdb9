/- FormatParity in both programs. No condition but that all is within the law's bulk. -/
import Derived.Test.YtcliagnongbkmaaDoorYx
import Derived.Test.YtcliagnongbkmaaDoorYp
import Derived.Test.YtcliagnongbkmaaDoorHex
import Derived.Test.YtcliagnongbkmaaDoorBb
import Derived.Lib.Join
namespace Go.Proofs.YtcliagnongbkmaaDoor
open Go.ChangeShapes Go.WideShapes Go.ChangeAt Go.RowKit Go.Joins
set_option linter.unusedVariables false
set_option linter.unusedSimpArgs false

def hx (s : ByteArray) : List UInt8 := M.fmtHex s.data.toList
def hxs (l : List ByteArray) : List ByteArray := l.map fun s => str (hx s)
/-- the digits of the first k strings, parted by blanks -/
def jn (l : List ByteArray) : Nat → List UInt8
  | 0 => []
  | k + 1 => (jn l k ++ (if 0 < k then [32] else [])) ++ hx (l.getD k ByteArray.empty)

theorem hxs_len (l : List ByteArray) : (hxs l).length = l.length := by simp [hxs]
theorem jn_join (l : List ByteArray) : ∀ k, k ≤ l.length → jn l k = Lib.join (((hxs l).take k).map (·.data.toList)) [32] := by
  have e : (hxs l).map (·.data.toList) = l.map hx := by simp [hxs, str_list]
  intro k hk
  rw [List.map_take, e]
  cases l with
  | nil => simp at hk; subst hk; rfl
  | cons a r =>
    induction k with
    | zero => rfl
    | succ k ih =>
      have ih := ih (by omega)
      rw [jn, ih]
      simp only [List.map_cons]
      cases k with
      | zero => simp [Lib.join_one, Lib.join_nil, List.take]
      | succ j =>
        have hj : j < r.length := by simp at hk; omega
        rw [List.take_succ_cons, List.take_succ_cons, Lib.join_cons, Lib.join_cons, Lib.joinTail_take_succ [32] (r.map hx) j (hx r[j]) (by simp [hj])]
        simp [hj]

def parOk (l : List ByteArray) : Prop := l.length ≤ 40 ∧ ∀ s ∈ l, 2 ≤ s.size ∧ s.size ≤ 76
instance (l : List ByteArray) : Decidable (parOk l) := by unfold parOk; exact inferInstance
def dash (T : ByteArray) : ByteArray := if T.size = 0 then str [45] else T
def fpV (l : List ByteArray) : ByteArray := if parOk l then dash (str (jn l l.length)) else ByteArray.empty

theorem hx_len {s : ByteArray} (h : s.size ≤ 76) : (hx s).length ≤ 152 := by
  rw [hx, M.fmtHex]
  split
  · rw [M.hex_length]; simp; omega
  · simp
theorem jn_len (l : List ByteArray) (h : ∀ s ∈ l, s.size ≤ 76) : ∀ k, k ≤ l.length → (jn l k).length ≤ 153 * k := by
  intro k hk
  induction k with
  | zero => simp [jn]
  | succ k ih =>
    have ih := ih (by omega)
    have h1 : (hx (l.getD k ByteArray.empty)).length ≤ 152 := hx_len (by
      rw [List.getD_eq_getElem?_getD, List.getElem?_eq_getElem (show k < l.length by omega)]
      exact h _ (List.getElem_mem _))
    rw [jn, List.length_append, List.length_append]
    split <;> simp only [List.length_cons, List.length_nil] <;> omega

theorem size_zero {T : ByteArray} (h : T.size = 0) : T = ByteArray.empty := by
  apply ByteArray.ext
  apply Array.toList_inj.1
  have : T.data.toList.length = 0 := by simpa using h
  rw [List.length_eq_zero_iff.1 this]; rfl
theorem isEmpty_no {T : ByteArray} (h : ¬ T.size = 0) : T.toList.isEmpty = false := by
  rw [ByteArray.toList_eq]
  cases e : T.data.toList with
  | nil => exact absurd (by have : T.data.toList.length = 0 := by rw [e]; rfl
                            simpa using this) h
  | cons a r => rfl

theorem c_dashIfEmpty (T : ByteArray) (w : World) : Calls Tryd.prog 47 #[.string T] w (Same (.string (dash T)) w) := by
  by_cases h : T.size = 0
  · rw [dash, if_pos h, size_zero h]
    go_enter Tryd.func47, Tryd.ntmps47
    go_wp2
    go_ret
    exact ⟨rfl, rfl⟩
  · rw [dash, if_neg h]
    have he := isEmpty_no h
    clear h
    go_enter Tryd.func47, Tryd.ntmps47
    go_wp2
    go_ret
    exact ⟨rfl, rfl⟩

theorem c_l3Some (T : ByteArray) (w : World) : Calls Tryd.prog 39 #[.string T] w (Same (.string (dash T)) w) := by
  by_cases h : T.size = 0
  · rw [dash, if_pos h, size_zero h]
    go_enter Tryd.func39, Tryd.ntmps39
    go_wp2
    go_ret
    exact ⟨rfl, rfl⟩
  · rw [dash, if_neg h]
    have he := isEmpty_no h
    clear h
    go_enter Tryd.func39, Tryd.ntmps39
    go_wp2
    go_ret
    exact ⟨rfl, rfl⟩

theorem c_l7Long (s : ByteArray) (w : World) (hs : s.size ≤ maxLen) : Calls Tryd.prog 53 #[.string s] w (Same (.bool (inB s.size 2 76)) w) := by
  unfold maxLen at hs
  go_enter Tryd.func53, Tryd.ntmps53
  go_wp2_with (go_at_call 69; refine (c_l1In _ _ _ _).mono ?_; rintro e w' ⟨rfl, rfl⟩)
  go_ret
  exact ⟨rfl, rfl⟩

theorem c_parityValid (A : Option Addr) (cap : Nat) (l : List ByteArray) (L : Nat) (w : World) (h : StrsAt w L A cap l) (hn : l.length ≤ 1048576) (hS : ∀ s ∈ l, s.size ≤ 1048576) : Calls Tryd.prog 54 #[.slice A l.length cap] w (Same (.bool (decide (parOk l))) w) := by
  obtain ⟨N, hN⟩ : ∃ N, N = l.length := ⟨_, rfl⟩
  have HN := hid hN
  rw [← hN] at hn ⊢
  obtain ⟨ok, hok⟩ : ∃ ok, ok = decide (parOk l) := ⟨_, rfl⟩
  rw [← hok]
  have HK := hid hok
  clear hN hok
  by_cases h40 : 40 < N
  · have HR := hid (show ok = false by rw [HK.out]; exact decide_eq_false (fun hp => by have := hp.1; have := HN.out; omega))
    go_enter Tryd.func54, Tryd.ntmps54
    go_wp2_with fail
    go_ret
    exact ⟨ret_bool (by rw [HR.out]), rfl⟩
  go_enter Tryd.func54, Tryd.ntmps54
  go_wp2_with fail
  go_loop [10] (fun i => ∃ k : Nat, k ≤ N ∧ i = .int .i64 k ∧ Hid (∀ (i : Nat) (hi : i < l.length), i < k → 2 ≤ l[i].size ∧ l[i].size ≤ 76)) (fun i => N - (intOf i).toNat)
  case atStart => exact ⟨0, Nat.zero_le _, rfl, hid (fun i hi h => by omega)⟩
  case round =>
    obtain ⟨k, hk, rfl, HF⟩ := hrel
    by_cases hlt : k < N
    · have hlt2 : k < l.length := by have := HN.out; omega
      obtain ⟨b, off, rfl, hb, hc0⟩ := txt_at h k hlt2
      have hTs := hS _ (List.getElem_mem hlt2)
      obtain ⟨T, hT⟩ : ∃ T, T = l[k] := ⟨_, rfl⟩
      rw [← hT] at hc0 hTs
      have HT := hid hT
      clear hT
      by_cases h2 : (T.size : Int) < 2
      · have HR := hid (show ok = false by rw [HK.out]; exact decide_eq_false (fun hp => by have := hp.2 _ (List.getElem_mem hlt2); rw [← HT.out] at this; omega))
        go_wp2
        go_ret
        exact ⟨ret_bool (by rw [HR.out]), rfl⟩
      · by_cases h76 : (76 : Int) < T.size
        · have HR := hid (show ok = false by rw [HK.out]; exact decide_eq_false (fun hp => by have := hp.2 _ (List.getElem_mem hlt2); rw [← HT.out] at this; omega))
          go_wp2
          go_ret
          exact ⟨ret_bool (by rw [HR.out]), rfl⟩
        · have HG := hid (show ∀ (i : Nat) (hi : i < l.length), i < k + 1 → 2 ≤ l[i].size ∧ l[i].size ≤ 76 from fun i hi h => by
            by_cases hik : i = k
            · subst hik; rw [← HT.out]; omega
            · exact HF.out i hi (by omega))
          go_wp2
          go_round
          case rel => exact ⟨k + 1, by omega, by go_num, HG⟩
          case measure => simp [intOf]; omega
    · have HR := hid (show ok = true by
        rw [HK.out]
        have := HN.out
        refine decide_eq_true ⟨by omega, fun s hs => ?_⟩
        obtain ⟨i, hi, rfl⟩ := List.getElem_of_mem hs
        exact HF.out i hi (by omega))
      go_wp2
      go_ret
      exact ⟨ret_bool (by rw [HR.out]), rfl⟩

set_option maxHeartbeats 4000000 in
theorem c_FormatParity_yes (A : Option Addr) (cap : Nat) (l : List ByteArray) (L : Nat) (w : World) (h : StrsAt w L A cap l) (hL : L ≤ w.heap.size) (hok : parOk l) : Calls Tryd.prog 35 #[.slice A l.length cap] w fun e w' => e = .returned (.string (fpV l)) ∧ Below w.heap.size w w' := by
  have hn40 := hok.1
  have hS : ∀ s ∈ l, s.size ≤ 76 := fun s hs => (hok.2 s hs).2
  have HP := hid (fun (v : World) (h : StrsAt v L A cap l) => c_parityValid A cap l L v h (by omega) (fun s hs => by have := hS s hs; omega))
  rw [decide_eq_true hok] at HP
  obtain ⟨J, hJ⟩ : ∃ J, J = str (jn l l.length) := ⟨_, rfl⟩
  have HV := hid (show fpV l = dash J by rw [fpV, if_pos hok, hJ])
  have hjl := jn_len l hS l.length (Nat.le_refl _)
  have HJ := hid (show J = ⟨(Lib.join ((hxs l).map (·.data.toList)) [32]).toArray⟩ by
    have := jn_join l l.length (Nat.le_refl _)
    rw [List.take_of_length_le (by rw [hxs_len]; omega)] at this
    rw [hJ, this]; rfl)
  clear hJ
  have HJl := hid (show (Lib.join ((hxs l).map (·.data.toList)) [32]).length ≤ 140737488355328 by
    have := jn_join l l.length (Nat.le_refl _)
    rw [List.take_of_length_le (by rw [hxs_len]; omega)] at this
    rw [← this]; omega)
  obtain ⟨N, hN⟩ : ∃ N, N = l.length := ⟨_, rfl⟩
  have HN := hid hN
  rw [← hN] at hn40 HP ⊢
  clear hN hok hjl
  have HL3 := hid (show N = (hxs l).length by rw [hxs_len]; exact HN.out)
  have hml := h.2.1
  have hml1 := h.1
  unfold maxLen at hml
  rw [← HN.out] at hml1
  rw [HV.out]
  have HH := hid h
  clear h
  go_enter Tryd.func35, Tryd.ntmps35
  go_wp2_with fail
  refine (HP.out _ HH.out).mono ?_
  rintro e w' ⟨rfl, rfl⟩
  go_wp2_with (at_make; refine make_strs rfl _ _ 33 rfl w.heap.size 9 Tryd.underlying33 Tryd.info_txt .i64 .i64 _ _ N rfl rfl (by omega) (by omega) (by omega) (Nat.le_refl _) ?_; intro w1 hown1 hb1 hg1)
  go_loopw [14] (fun i wr => ∃ k : Nat, k ≤ N ∧ i = .int .i64 k ∧ wr.ownsRow w.heap.size 9 1 (.slice (some ⟨w.heap.size, 0, none⟩) N N) N (((hxs l).take k ++ List.replicate (N - k) ByteArray.empty).map sv) ∧ Below w.heap.size w wr) (fun i _ => N - (intOf i).toNat)
  case atStart => exact ⟨0, Nat.zero_le _, rfl, by simpa using hown1, by (repeat (first | with_reducible (first | assumption | exact Below.refl _ _ | refine bel_alloc ?_ _ | refine bel_drew ?_ | refine bel_drewN ?_ _ | refine bel_set ?_ (by first | omega | (simp; done) | (simp; omega)) _ | refine bel_trans ?_ (by assumption)) | assumption | refine bel_trans ?_ (by assumption)))⟩
  case round =>
    obtain ⟨k, hk, rfl, hown, hbl⟩ := hrel
    by_cases hlt : k < N
    · have hlt2 : k < l.length := by have := HN.out; omega
      have hlt3 : k < (hxs l).length := by rw [hxs_len]; exact hlt2
      obtain ⟨b, off, rfl, hb, hc0⟩ := txt_at (HH.out.below hbl hL) k hlt2
      have hTs := hS _ (List.getElem_mem hlt2)
      obtain ⟨p, hp⟩ : ∃ p, p = l[k] := ⟨_, rfl⟩
      rw [← hp] at hc0 hTs
      obtain ⟨q, hq⟩ : ∃ q, q = str (hx p) := ⟨_, rfl⟩
      have HC := hid (fun v => c_FormatHex_yes p v (by omega))
      rw [show str (M.fmtHex p.data.toList) = q from hq.symm] at HC
      have HP2 := hid (show (hxs l)[k] = q by simp [hxs, hp, hq])
      clear hp hq
      have HS := hid (show ((hxs l).take k ++ List.replicate (N - k) ByteArray.empty).set k q = (hxs l).take (k + 1) ++ List.replicate (N - (k + 1)) ByteArray.empty by
        rw [set_done _ ((hxs l).take k) ByteArray.empty N k _ rfl (by simp; omega) hlt, ← HP2.out, List.take_succ_eq_append_getElem hlt3])
      have HO := hid hown
      clear hown
      go_wp2_with fail
      refine (HC.out _).mono ?_
      rintro e w2 ⟨rfl, hb2⟩
      have hown2 := own_strs_on HO.out hb2
      have f0 := hown2.frozenAt k
      have c0 := hown2.lt w.heap.size rfl
      have hst := own_store_txt hown2 k q
      rw [HS.out] at hst
      have HT := hid hst
      have hb3 := hbl.trans (hb2.mono hbl.size)
      have q0 := own_txt_any hown2 k hlt
      obtain ⟨u0, q0⟩ := q0
      clear hst hown2
      go_wp2
      go_roundw
      case rel => exact ⟨k + 1, by omega, by go_num, HT.out, by (repeat (first | with_reducible (first | assumption | exact Below.refl _ _ | refine bel_alloc ?_ _ | refine bel_drew ?_ | refine bel_drewN ?_ _ | refine bel_set ?_ (by first | omega | (simp; done) | (simp; omega)) _ | refine bel_trans ?_ (by assumption)) | assumption | refine bel_trans ?_ (by assumption)))⟩
      case measure => simp [intOf]; omega
    · have HD := hid (show (hxs l).take k ++ List.replicate (N - k) ByteArray.empty = hxs l by rw [show N - k = 0 from by omega, List.take_of_length_le (by have := HL3.out; omega)]; simp)
      rw [HD.out] at hown
      have HJ2 := hid (show Calls Tryd.prog 49 #[.slice (some ⟨w.heap.size, 0, none⟩) N N, .string ⟨#[32]⟩] wr fun e w' => e = .returned (.string J) ∧ Below wr.heap.size wr w' by
        rw [HJ.out, HL3.out]
        refine Tryd.strings_Join w.heap.size 0 (hxs l).length (hxs l) ⟨#[32]⟩ wr (fun j x hj => ?_) (by have := hown.lt w.heap.size rfl; exact this.2) (by have := HL3.out; omega) (Nat.le_refl _) HJl.out
        rw [Nat.zero_add]
        exact own_txt hown j x hj)
      clear hown
      go_wp2_with fail
      refine (HJ2.out).mono ?_
      rintro e w3 ⟨rfl, hb3⟩
      go_wp2_with fail
      refine (c_dashIfEmpty J _).mono ?_
      rintro e w' ⟨rfl, rfl⟩
      go_wp2_with fail
      go_ret
      exact ⟨rfl, hbl.trans (hb3.mono hbl.size)⟩

theorem c_FormatParity_no (A : Option Addr) (cap : Nat) (l : List ByteArray) (L : Nat) (w : World) (h : StrsAt w L A cap l) (hL : L ≤ w.heap.size) (hn : l.length ≤ 1048576) (hS : ∀ s ∈ l, s.size ≤ 1048576) (hok : ¬ parOk l) : Calls Tryd.prog 35 #[.slice A l.length cap] w fun e w' => e = .returned (.string (fpV l)) ∧ Below w.heap.size w w' := by
  have HP := hid (c_parityValid A cap l L w h hn hS)
  rw [decide_eq_false hok] at HP
  rw [fpV, if_neg hok]
  clear h hok
  go_enter Tryd.func35, Tryd.ntmps35
  go_wp2_with fail
  refine (HP.out).mono ?_
  rintro e w' ⟨rfl, rfl⟩
  go_wp2_with fail
  go_ret
  exact ⟨rfl, by (repeat (first | with_reducible (first | assumption | exact Below.refl _ _ | refine bel_alloc ?_ _ | refine bel_drew ?_ | refine bel_drewN ?_ _ | refine bel_set ?_ (by first | omega | (simp; done) | (simp; omega)) _ | refine bel_trans ?_ (by assumption)) | assumption | refine bel_trans ?_ (by assumption)))⟩

set_option maxHeartbeats 4000000 in
theorem c_sFormatParity (A : Option Addr) (cap : Nat) (l : List ByteArray) (L : Nat) (w : World) (h : StrsAt w L A cap l) (hL : L ≤ w.heap.size) (hn : l.length ≤ 1048576) (hS : ∀ s ∈ l, s.size ≤ 1048576) : Calls Tryd.prog 34 #[.slice A l.length cap] w fun e w' => e = .returned (.string (fpV l)) ∧ Below w.heap.size w w' := by
  obtain ⟨N, hN⟩ : ∃ N, N = l.length := ⟨_, rfl⟩
  have HN := hid hN
  rw [← hN] at hn ⊢
  have HH := hid h
  obtain ⟨V, hV⟩ : ∃ V, V = fpV l := ⟨_, rfl⟩
  rw [← hV]
  have HV := hid hV
  clear hN h hV
  by_cases h40 : 40 < N
  · have HR := hid (show V = ByteArray.empty by rw [HV.out, fpV, if_neg (fun hp => by have := hp.1; have := HN.out; omega)])
    go_enter Tryd.func34, Tryd.ntmps34
    go_wp2_with fail
    go_ret
    exact ⟨by rw [HR.out]; rfl, by (repeat (first | with_reducible (first | assumption | exact Below.refl _ _ | refine bel_alloc ?_ _ | refine bel_drew ?_ | refine bel_drewN ?_ _ | refine bel_set ?_ (by first | omega | (simp; done) | (simp; omega)) _ | refine bel_trans ?_ (by assumption)) | assumption | refine bel_trans ?_ (by assumption)))⟩
  go_enter Tryd.func34, Tryd.ntmps34
  go_wp2_with fail
  go_loopw [3, 4] (fun t i wr => ∃ (k : Nat) (T : ByteArray), k ≤ N ∧ i = .int .i64 k ∧ t = .string T ∧ Hid (T = str (jn l k)) ∧ T.size ≤ 153 * k ∧ Hid (∀ (i : Nat) (hi : i < l.length), i < k → 2 ≤ l[i].size ∧ l[i].size ≤ 76) ∧ Below w.heap.size w wr) (fun _ i _ => N - (intOf i).toNat)
  case atStart => exact ⟨0, ByteArray.empty, Nat.zero_le _, rfl, rfl, hid rfl, by simp, hid (fun i hi h => by omega), by (repeat (first | with_reducible (first | assumption | exact Below.refl _ _ | refine bel_alloc ?_ _ | refine bel_drew ?_ | refine bel_drewN ?_ _ | refine bel_set ?_ (by first | omega | (simp; done) | (simp; omega)) _ | refine bel_trans ?_ (by assumption)) | assumption | refine bel_trans ?_ (by assumption)))⟩
  case round =>
    obtain ⟨k, T, hk, rfl, rfl, HT, hTz, HF, hbl⟩ := hrel
    by_cases hlt : k < N
    · have hlt2 : k < l.length := by have := HN.out; omega
      obtain ⟨b, off, rfl, hb, hc0⟩ := txt_at (HH.out.below hbl hL) k hlt2
      have hps := hS _ (List.getElem_mem hlt2)
      obtain ⟨p, hp⟩ : ∃ p, p = l[k] := ⟨_, rfl⟩
      rw [← hp] at hc0 hps
      have HLo := hid (fun v => c_l7Long p v (by unfold maxLen; omega))
      cases hin : inB p.size 2 76 with
      | false =>
        rw [hin] at HLo
        have HR := hid (show V = ByteArray.empty by
          rw [HV.out, fpV, if_neg (fun hq => by
            have := hq.2 _ (List.getElem_mem hlt2)
            rw [← hp] at this
            rw [inB_iff.2 (by omega)] at hin
            cases hin)])
        clear hp hin
        go_wp2_with fail
        refine (HLo.out _).mono ?_
        rintro e w' ⟨rfl, rfl⟩
        go_wp2_with fail
        go_ret
        exact ⟨by rw [HR.out]; rfl, hbl⟩
      | true =>
        rw [hin] at HLo
        have hin2 := inB_iff.1 hin
        obtain ⟨q, hq⟩ : ∃ q, q = str (hx p) := ⟨_, rfl⟩
        have hqz : q.size ≤ 152 := by rw [hq, str_size]; exact hx_len (by omega)
        have HC := hid (fun v => c_sFormatHex_yes p v (by omega))
        rw [show str (M.fmtHex p.data.toList) = q from hq.symm] at HC
        have HG := hid (show ∀ (i : Nat) (hi : i < l.length), i < k + 1 → 2 ≤ l[i].size ∧ l[i].size ≤ 76 from fun i hi h => by
          by_cases hik : i = k
          · subst hik; rw [← hp]; omega
          · exact HF.out i hi (by omega))
        have hgd : l.getD k ByteArray.empty = p := by rw [List.getD_eq_getElem?_getD, List.getElem?_eq_getElem hlt2, hp]; rfl
        by_cases hk0 : k = 0
        · subst hk0
          have HT2 := hid (show T ++ q = str (jn l (0 + 1)) by
            show T ++ q = str ((jn l 0 ++ (if 0 < 0 then [32] else [])) ++ hx (l.getD 0 ByteArray.empty))
            rw [hgd, HT.out, hq, str_append]; rfl)
          simp only [Nat.add_zero] at hc0
          clear hp hin hin2 hq hgd
          go_wp2_with fail
          refine (HLo.out _).mono ?_
          rintro e w' ⟨rfl, rfl⟩
          go_wp2_with fail
          refine (HC.out _).mono ?_
          rintro e w2 ⟨rfl, hb2⟩
          go_wp2_with fail
          go_roundw
          case rel => exact ⟨0 + 1, T ++ q, by omega, by go_num, rfl, HT2, by rw [ByteArray.size_append]; omega, HG, hbl.trans (hb2.mono hbl.size)⟩
          case measure => simp [intOf]; omega
        · have hkp : decide ((0 : Int) < (k : Int)) = true := decide_eq_true (by omega)
          have hkp2 : 0 < k := by omega
          have HT2 := hid (show T ++ ⟨#[32]⟩ ++ q = str (jn l (k + 1)) by
            rw [HT.out, hq, show (⟨#[32]⟩ : ByteArray) = str [32] from rfl, str_append, str_append, jn, hgd, if_pos hkp2])
          have hUz : (T ++ ⟨#[32]⟩ : ByteArray).size = T.size + 1 := by rw [ByteArray.size_append]; rfl
          clear hp hin hin2 hq hgd
          go_wp2_with fail
          refine (HLo.out _).mono ?_
          rintro e w' ⟨rfl, rfl⟩
          go_wp2_with fail
          refine (HC.out _).mono ?_
          rintro e w2 ⟨rfl, hb2⟩
          go_wp2_with fail
          go_roundw
          case rel => exact ⟨k + 1, T ++ ⟨#[32]⟩ ++ q, by omega, by go_num, rfl, HT2, by rw [ByteArray.size_append]; omega, HG, hbl.trans (hb2.mono hbl.size)⟩
          case measure => simp [intOf]; omega
    · have HR := hid (show V = dash T by
        have hl := HN.out
        rw [HV.out, fpV, if_pos ⟨by omega, fun s hs => by
          obtain ⟨i, hi, rfl⟩ := List.getElem_of_mem hs
          exact HF.out i hi (by omega)⟩, HT.out, show l.length = k from by omega])
      go_wp2_with fail
      refine (c_l3Some T _).mono ?_
      rintro e w' ⟨rfl, rfl⟩
      go_wp2_with fail
      go_ret
      exact ⟨by rw [HR.out]; rfl, hbl⟩

theorem c_FormatParity (A : Option Addr) (cap : Nat) (l : List ByteArray) (L : Nat) (w : World) (h : StrsAt w L A cap l) (hL : L ≤ w.heap.size) (hn : l.length ≤ 1048576) (hS : ∀ s ∈ l, s.size ≤ 1048576) : Calls Tryd.prog 35 #[.slice A l.length cap] w fun e w' => e = .returned (.string (fpV l)) ∧ Below w.heap.size w w' := by
  by_cases hok : parOk l
  · exact c_FormatParity_yes A cap l L w h hL hok
  · exact c_FormatParity_no A cap l L w h hL hn hS hok
end Go.Proofs.YtcliagnongbkmaaDoor
