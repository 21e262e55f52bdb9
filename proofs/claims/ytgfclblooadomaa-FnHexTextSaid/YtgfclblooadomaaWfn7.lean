/- The walk of the law on hexadecimal digits. -/
import Derived.Test.YtgfclblooadomaaDraw8
import Derived.Test.YtgfclblooadomaaWfn2
namespace Go.Proofs.Ytgfclblooadomaa
open Go.ChangeShapes Go.WideShapes Go.ChangeAt Go.RowKit Go.Joins
set_option linter.unusedVariables false

theorem fmtHex_len {s : ByteArray} (h : s.size ≤ 4000) : (str (M.fmtHex s.data.toList)).size = 2 * s.size := by
  rw [str_size, M.fmtHex, if_pos (by simpa using h), M.hex_length]; simp
theorem parse_fmt {s : ByteArray} (h : s.size ≤ 4000) : M.parseHex (str (M.fmtHex s.data.toList)).data.toList = some s.data.toList := by
  rw [str_list, M.fmtHex, if_pos (by simpa using h), M.parseHex, if_pos (by rw [M.hex_length]; simp; omega), M.unhex_hex]
theorem fmt_parse {s : ByteArray} {d : List UInt8} (h : M.parseHex s.data.toList = some d) : d.length ≤ 4000 ∧ str (M.fmtHex d) = s := by
  unfold M.parseHex at h
  split at h
  · rename_i h1
    have h2 := M.unhex_length _ _ h
    have h3 : d.length ≤ 4000 := by omega
    exact ⟨h3, by rw [M.fmtHex, if_pos h3, M.hex_unhex _ _ h, str_self]⟩
  · cases h

theorem walk_FnHexText (A0 : Option Addr) (n0 cap0 : Nat) (A1 : Option Addr) (n1 cap1 : Nat) (w : World) (hc : CodeAt w w.heap.size A0 n0 cap0) (hd : CodeAt w w.heap.size A1 n1 cap1) :
    Calls Try.prog 12 #[.slice A0 n0 cap0, .slice A1 n1 cap1] w fun e w' => e = .returned (.bool true) ∧ Below w.heap.size w w' := by
  have hbig := big_code hc
  have hbig1 := big_code hd
  by_cases big : 1048576 < n0
  · go_enter Try.func12, Try.ntmps12
    go_wp2_with fail
    go_ret
    exact ⟨rfl, by (repeat (first | exact Below.refl _ _ | assumption | refine bel_alloc ?_ _ | refine bel_drew ?_ | refine bel_drewN ?_ _ | refine bel_set ?_ (by first | omega | (simp; done) | (simp; omega)) _ | refine bel_trans ?_ (by assumption)))⟩
  by_cases big1 : 1048576 < n1
  · go_enter Try.func12, Try.ntmps12
    go_wp2_with fail
    go_ret
    exact ⟨rfl, by (repeat (first | exact Below.refl _ _ | assumption | refine bel_alloc ?_ _ | refine bel_drew ?_ | refine bel_drewN ?_ _ | refine bel_set ?_ (by first | omega | (simp; done) | (simp; omega)) _ | refine bel_trans ?_ (by assumption)))⟩
  have HD := hid hd
  clear hd
  go_enter Try.func12, Try.ntmps12
  go_wp2_with fail
  refine (c_DrawFormatHex _ _ _ _ hc).mono ?_
  rintro e w1 ⟨s, rfl, hs, hb1⟩
  have hsm : s.size ≤ maxLen := by unfold maxLen; omega
  by_cases h : s.size ≤ 4000
  · obtain ⟨T, hT⟩ : ∃ T, T = str (M.fmtHex s.data.toList) := ⟨_, rfl⟩
    have hTs : T.size = 2 * s.size := by rw [hT, fmtHex_len h]
    have H1 := hid (show ∀ w, Calls Try.prog 48 #[.string s] w fun e w' => e = .returned (.string T) ∧ Below w.heap.size w w' by intro w; rw [hT]; exact c_FormatHex_yes s w h)
    have H2 := hid (show ∀ w, Calls Try.prog 49 #[.string s] w fun e w' => e = .returned (.string T) ∧ Below w.heap.size w w' by intro w; rw [hT]; exact c_sFormatHex_yes s w h)
    have H3 := hid (show ∀ w, Calls Try.prog 50 #[.string T] w fun e w' => e = .returned (.tuple #[.string s, .bool true]) ∧ Below w.heap.size w w' by
      intro w; have := c_ParseHex_yes T s.data.toList w (by unfold maxLen; omega) (by rw [hT]; exact parse_fmt h); rw [str_self] at this; exact this)
    have hl : ((T.size : Int) != 2 * (s.size : Int)) = false := ne_no (by omega)
    clear hT hTs
    go_wp2_with fail
    refine (H1.out _).mono ?_
    rintro e w2 ⟨rfl, hb2⟩
    go_wp2_with fail
    refine (H2.out _).mono ?_
    rintro e w3 ⟨rfl, hb3⟩
    go_wp2_with fail
    refine (H3.out _).mono ?_
    rintro e wz ⟨rfl, hb4⟩
    have bz : Below w.heap.size w wz := by (repeat (first | exact Below.refl _ _ | assumption | refine bel_alloc ?_ _ | refine bel_drew ?_ | refine bel_drewN ?_ _ | refine bel_set ?_ (by first | omega | (simp; done) | (simp; omega)) _ | refine bel_trans ?_ (by assumption)))
    clear hb2 hb3 hb4
    have hd2 : CodeAt wz w.heap.size A1 n1 cap1 := HD.out.keep (fun k hk => bz.block k hk)
    go_wp2_with fail
    refine (c_DrawParseHex _ _ _ _ w.heap.size bz.size hd2).mono ?_
    rintro e v1 ⟨t, rfl, ht, hv1⟩
    have htm : t.size ≤ maxLen := by unfold maxLen; omega
    cases hp : M.parseHex t.data.toList with
    | none =>
      have G1 := hid (fun w => c_ParseHex_no t w htm hp)
      have G2 := hid (fun w => c_sParseHex_no t w (by omega) hp)
      clear hp
      go_wp2_with fail
      refine (G1.out _).mono ?_
      rintro e v2 ⟨rfl, hv2⟩
      go_wp2_with fail
      refine (G2.out _).mono ?_
      rintro e v3 ⟨rfl, hv3⟩
      go_wp2
      go_ret
      exact ⟨by simp_all, by (repeat (first | exact Below.refl _ _ | assumption | refine bel_alloc ?_ _ | refine bel_drew ?_ | refine bel_drewN ?_ _ | refine bel_set ?_ (by first | omega | (simp; done) | (simp; omega)) _ | refine bel_trans ?_ (by assumption)))⟩
    | some d =>
      obtain ⟨f1, f2⟩ := fmt_parse hp
      obtain ⟨D, hD⟩ : ∃ D, D = str d := ⟨_, rfl⟩
      have hDl : D.data.toList = d := by rw [hD, str_list]
      have hDs : D.size ≤ 4000 := by rw [hD, str_size]; exact f1
      have G1 := hid (show ∀ w, Calls Try.prog 50 #[.string t] w fun e w' => e = .returned (.tuple #[.string D, .bool true]) ∧ Below w.heap.size w w' by intro w; rw [hD]; exact c_ParseHex_yes t d w htm hp)
      have G2 := hid (show ∀ w, Calls Try.prog 52 #[.string t] w fun e w' => e = .returned (.tuple #[.string D, .bool true]) ∧ Below w.heap.size w w' by intro w; rw [hD]; exact c_sParseHex_yes t d w (by omega) hp)
      have G3 := hid (show ∀ w, Calls Try.prog 48 #[.string D] w fun e w' => e = .returned (.string t) ∧ Below w.heap.size w w' by intro w; have := c_FormatHex_yes D w hDs; rw [hDl, f2] at this; exact this)
      clear hp f1 f2 hD hDl
      go_wp2_with fail
      refine (G1.out _).mono ?_
      rintro e v2 ⟨rfl, hv2⟩
      go_wp2_with fail
      refine (G2.out _).mono ?_
      rintro e v3 ⟨rfl, hv3⟩
      go_wp2_with fail
      refine (G3.out _).mono ?_
      rintro e v4 ⟨rfl, hv4⟩
      go_wp2
      go_ret
      exact ⟨by simp_all, by (repeat (first | exact Below.refl _ _ | assumption | refine bel_alloc ?_ _ | refine bel_drew ?_ | refine bel_drewN ?_ _ | refine bel_set ?_ (by first | omega | (simp; done) | (simp; omega)) _ | refine bel_trans ?_ (by assumption)))⟩
  · have H1 := hid (show ∀ w, Calls Try.prog 48 #[.string s] w fun e w' => e = .returned (.string (str (M.fmtHex s.data.toList))) ∧ Below w.heap.size w w' by intro w; exact c_FormatHex_no s w hsm (by omega))
    have H2 := hid (show ∀ w, Calls Try.prog 49 #[.string s] w fun e w' => e = .returned (.string (str (M.fmtHex s.data.toList))) ∧ Below w.heap.size w w' by intro w; exact c_sFormatHex_no s w (by omega) (by omega))
    obtain ⟨T, hT⟩ : ∃ T, T = str (M.fmtHex s.data.toList) := ⟨_, rfl⟩
    rw [← hT] at H1 H2
    clear hT
    go_wp2_with fail
    refine (H1.out _).mono ?_
    rintro e w2 ⟨rfl, hb2⟩
    go_wp2_with fail
    refine (H2.out _).mono ?_
    rintro e wz ⟨rfl, hb4⟩
    have bz : Below w.heap.size w wz := by (repeat (first | exact Below.refl _ _ | assumption | refine bel_alloc ?_ _ | refine bel_drew ?_ | refine bel_drewN ?_ _ | refine bel_set ?_ (by first | omega | (simp; done) | (simp; omega)) _ | refine bel_trans ?_ (by assumption)))
    clear hb2 hb4
    have hd2 : CodeAt wz w.heap.size A1 n1 cap1 := HD.out.keep (fun k hk => bz.block k hk)
    go_wp2_with fail
    refine (c_DrawParseHex _ _ _ _ w.heap.size bz.size hd2).mono ?_
    rintro e v1 ⟨t, rfl, ht, hv1⟩
    have htm : t.size ≤ maxLen := by unfold maxLen; omega
    cases hp : M.parseHex t.data.toList with
    | none =>
      have G1 := hid (fun w => c_ParseHex_no t w htm hp)
      have G2 := hid (fun w => c_sParseHex_no t w (by omega) hp)
      clear hp
      go_wp2_with fail
      refine (G1.out _).mono ?_
      rintro e v2 ⟨rfl, hv2⟩
      go_wp2_with fail
      refine (G2.out _).mono ?_
      rintro e v3 ⟨rfl, hv3⟩
      go_wp2
      go_ret
      exact ⟨by simp_all, by (repeat (first | exact Below.refl _ _ | assumption | refine bel_alloc ?_ _ | refine bel_drew ?_ | refine bel_drewN ?_ _ | refine bel_set ?_ (by first | omega | (simp; done) | (simp; omega)) _ | refine bel_trans ?_ (by assumption)))⟩
    | some d =>
      obtain ⟨f1, f2⟩ := fmt_parse hp
      obtain ⟨D, hD⟩ : ∃ D, D = str d := ⟨_, rfl⟩
      have hDl : D.data.toList = d := by rw [hD, str_list]
      have hDs : D.size ≤ 4000 := by rw [hD, str_size]; exact f1
      have G1 := hid (show ∀ w, Calls Try.prog 50 #[.string t] w fun e w' => e = .returned (.tuple #[.string D, .bool true]) ∧ Below w.heap.size w w' by intro w; rw [hD]; exact c_ParseHex_yes t d w htm hp)
      have G2 := hid (show ∀ w, Calls Try.prog 52 #[.string t] w fun e w' => e = .returned (.tuple #[.string D, .bool true]) ∧ Below w.heap.size w w' by intro w; rw [hD]; exact c_sParseHex_yes t d w (by omega) hp)
      have G3 := hid (show ∀ w, Calls Try.prog 48 #[.string D] w fun e w' => e = .returned (.string t) ∧ Below w.heap.size w w' by intro w; have := c_FormatHex_yes D w hDs; rw [hDl, f2] at this; exact this)
      clear hp f1 f2 hD hDl
      go_wp2_with fail
      refine (G1.out _).mono ?_
      rintro e v2 ⟨rfl, hv2⟩
      go_wp2_with fail
      refine (G2.out _).mono ?_
      rintro e v3 ⟨rfl, hv3⟩
      go_wp2_with fail
      refine (G3.out _).mono ?_
      rintro e v4 ⟨rfl, hv4⟩
      go_wp2
      go_ret
      exact ⟨by simp_all, by (repeat (first | exact Below.refl _ _ | assumption | refine bel_alloc ?_ _ | refine bel_drew ?_ | refine bel_drewN ?_ _ | refine bel_set ?_ (by first | omega | (simp; done) | (simp; omega)) _ | refine bel_trans ?_ (by assumption)))⟩
end Go.Proofs.Ytgfclblooadomaa
