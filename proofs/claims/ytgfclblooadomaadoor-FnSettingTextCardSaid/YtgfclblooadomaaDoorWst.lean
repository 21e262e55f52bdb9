/- The walk of the law on a setting's text. -/
import Derived.Test.YtgfclblooadomaaDoorDs
import Derived.Test.YtgfclblooadomaaDoorWps
namespace Go.Proofs.YtgfclblooadomaaDoor
open Go.ChangeShapes Go.WideShapes Go.ChangeAt Go.RowKit Go.Joins
set_option linter.unusedVariables false

theorem big_code2 {A' : Option Addr} {n cap L : Nat} {w : World} (hc : CodeAt w L A' n cap) : (n : Int) ≤ 9223372036854775807 := by
  have h1 := hc.1
  have h2 := hc.2.1
  unfold maxLen at h2; omega
theorem not_nil {s : ByteArray} (h : 1 ≤ s.size) : s.toList.isEmpty = false := by
  rw [ByteArray.toList_eq]
  cases hl : s.data.toList with
  | nil =>
    have e : s.data.toList.length = 0 := by rw [hl]; rfl
    have := len_toList s
    omega
  | cons _ _ => rfl

set_option maxRecDepth 100000 in
set_option maxHeartbeats 2000000 in
theorem walk_FnSettingText (A0 : Option Addr) (n0 cap0 : Nat) (A1 : Option Addr) (n1 cap1 : Nat) (w : World) (hc : CodeAt w w.heap.size A0 n0 cap0) (hd : CodeAt w w.heap.size A1 n1 cap1) (hE : ErrAt w) (mm : Int) (hm : w.cell? ⟨3, 0, none⟩ = some (.int .i64 mm)) :
    Calls Tryd.prog 3 #[.slice A0 n0 cap0, .slice A1 n1 cap1] w fun e w' => e = .returned (.bool true) ∧ Below w.heap.size w w' := by
  have hbig := big_code2 hc
  have hbig1 := big_code2 hd
  by_cases big : 1048576 < n0
  · go_enter Tryd.func3, Tryd.ntmps3
    go_wp2_with fail
    go_ret
    exact ⟨rfl, by (repeat (first | exact Below.refl _ _ | assumption | refine bel_alloc ?_ _ | refine bel_drew ?_ | refine bel_drewN ?_ _ | refine bel_set ?_ (by first | omega | (simp; done) | (simp; omega)) _ | refine bel_trans ?_ (by assumption)))⟩
  by_cases big1 : 1048576 < n1
  · go_enter Tryd.func3, Tryd.ntmps3
    go_wp2_with fail
    go_ret
    exact ⟨rfl, by (repeat (first | exact Below.refl _ _ | assumption | refine bel_alloc ?_ _ | refine bel_drew ?_ | refine bel_drewN ?_ _ | refine bel_set ?_ (by first | omega | (simp; done) | (simp; omega)) _ | refine bel_trans ?_ (by assumption)))⟩
  have HD := hid hd
  clear hd
  go_enter Tryd.func3, Tryd.ntmps3
  go_wp2_with fail
  refine (c_DrawFormatSetting _ _ _ _ _ (Nat.le_refl _) hc).mono ?_
  rintro e w1 ⟨o, l, m, rfl, ho, hl, hm2, b1⟩
  obtain ⟨T, hT⟩ : ∃ T, T = fmtS o l m := ⟨_, rfl⟩
  obtain ⟨G, hG⟩ : ∃ G, G = setOk o l m := ⟨_, rfl⟩
  have H1 := hid (show ∀ w, Calls Tryd.prog 5 #[.agg #[.int .i64 o, .int .i64 l, .int .i64 m]] w fun e w' => e = .returned (.string T) ∧ Below w.heap.size w w' by intro w; rw [hT]; exact c_FormatSetting o l m w)
  have H2 := hid (show ∀ w, Calls Tryd.prog 6 #[.agg #[.int .i64 o, .int .i64 l, .int .i64 m]] w fun e w' => e = .returned (.string T) ∧ Below w.heap.size w w' by intro w; rw [hT]; exact c_sFormatSetting o l m w)
  have H3 := hid (show ∀ w, Calls Tryd.prog 7 #[.agg #[.int .i64 o, .int .i64 l, .int .i64 m]] w fun e w' => e = .returned (.bool G) ∧ Below w.heap.size w w' by intro w; rw [hG]; exact c_SettingValid o l m w)
  have HT := hid hT
  have HG := hid hG
  clear hT hG
  go_wp2_with fail
  obtain ⟨N, hN⟩ : ∃ N, N = w1.heap.size := ⟨_, rfl⟩
  obtain ⟨W1, hW1⟩ : ∃ W1, W1 = w1.alloc (.cells #[.int .i64 o, .int .i64 l, .int .i64 m] 24) := ⟨_, rfl⟩
  rw [← hW1, ← hN]
  have k1 : Blk W1 N 24 #[.int .i64 o, .int .i64 l, .int .i64 m] := by rw [hW1, hN]; exact Blk.new w1 _ _
  have c1 : Below w.heap.size w W1 := by rw [hW1]; exact bel_alloc b1 _
  clear hW1 hN b1 hc
  refine (H1.out _).mono ?_
  rintro e W2 ⟨rfl, hb2⟩
  have k2 := k1.on hb2
  have c2 := bel_trans c1 hb2
  obtain ⟨x2, y2, z2⟩ := k2.cells3
  clear hb2 c1 k1
  go_wp2_with fail
  refine (H2.out _).mono ?_
  rintro e W3 ⟨rfl, hb3⟩
  have k3 := k2.on hb3
  have c3 := bel_trans c2 hb3
  obtain ⟨x3, y3, z3⟩ := k3.cells3
  clear hb3 c2 k2 x2 y2 z2
  have TAIL : True := trivial
  cases G with
  | true =>
    have hTs := fmtS_size HG.out.symm
    rw [← HT.out] at hTs
    have hTe := not_nil hTs.1
    have HP := hid (show ∀ w, ErrAt w → w.cell? ⟨3, 0, none⟩ = some (.int .i64 mm) → Calls Tryd.prog 8 #[.string T] w fun e w' => e = .returned (.tuple #[.agg #[.int .i64 o, .int .i64 l, .int .i64 m], .bool true]) ∧ Below w.heap.size w w' from fun w hE hm => (c_ParseSetting T w (by omega) hE mm hm).mono fun _ _ ⟨hp, hb⟩ => ⟨PS_yes HG.out.symm HT.out.symm hp, hb⟩)
    clear hTs
    go_wp2_with fail
    refine (H3.out _).mono ?_
    rintro e W4 ⟨rfl, hb4⟩
    have k4 := k3.on hb4
    have c4 := bel_trans c3 hb4
    obtain ⟨x4, y4, z4⟩ := k4.cells3
    clear hb4 c3 k3 x3 y3 z3
    go_wp2_with fail
    refine (HP.out _ (hE.kept c4) (cell_kept hm c4)).mono ?_
    rintro e W5 ⟨rfl, hb5⟩
    have k5 := k4.on hb5
    have c5 := bel_trans c4 hb5
    obtain ⟨x5, y5, z5⟩ := k5.cells3
    have hlt0 := k5.lt
    have hne3 : ¬ W5.heap.size = N := by omega
    have hne4 : ¬ N = W5.heap.size := by omega
    clear hb5 c4 k4 x4 y4 z4
    go_wp2_with fail
    obtain ⟨WZ, hWZ⟩ : ∃ WZ, WZ = W5.alloc (.cells #[.int .i64 o, .int .i64 l, .int .i64 m] 24) := ⟨_, rfl⟩
    rw [← hWZ]
    have cz : Below w.heap.size w WZ := by rw [hWZ]; exact bel_alloc c5 _
    clear hWZ c5 k5 x5 y5 z5 hlt0 hne3 hne4
    have hd2 : CodeAt WZ w.heap.size A1 n1 cap1 := HD.out.keep (fun k hk => cz.block k hk)
    refine (c_DrawParseSetting _ _ _ _ w.heap.size cz.size hd2).mono ?_
    rintro e V1 ⟨t, rfl, ht, hv1⟩
    have d1 := bel_trans cz hv1
    clear hd2 hv1
    have hR : ∃ (o l m : Int) (b : Bool), (b = true → fmtS o l m = t) ∧ (∀ w, Calls Tryd.prog 10 #[.string t] w fun e w' => e = .returned (.tuple #[.agg #[.int .i64 o, .int .i64 l, .int .i64 m], .bool b]) ∧ Below w.heap.size w w') ∧
        (∀ w, ErrAt w → w.cell? ⟨3, 0, none⟩ = some (.int .i64 mm) → Calls Tryd.prog 8 #[.string t] w fun e w' => e = .returned (.tuple #[.agg #[.int .i64 o, .int .i64 l, .int .i64 m], .bool b]) ∧ Below w.heap.size w w') := by
      by_cases hx : ∃ o l m : Int, setOk o l m = true ∧ fmtS o l m = t
      · obtain ⟨o, l, m, h, e⟩ := hx
        exact ⟨o, l, m, true, fun _ => e, fun w => (c_sParseSetting t w (by omega)).mono fun _ _ ⟨hp, hb⟩ => ⟨PS_yes h e hp, hb⟩, fun w hE hm => (c_ParseSetting t w (by omega) hE mm hm).mono fun _ _ ⟨hp, hb⟩ => ⟨PS_yes h e hp, hb⟩⟩
      · have hn : ∀ o l m : Int, Fail t o l m := fun o l m hf => hx ⟨o, l, m, hf⟩
        exact ⟨0, 0, 0, false, (fun h => by cases h), fun w => (c_sParseSetting t w (by omega)).mono fun _ _ ⟨hp, hb⟩ => ⟨PS_no hn hp, hb⟩, fun w hE hm => (c_ParseSetting t w (by omega) hE mm hm).mono fun _ _ ⟨hp, hb⟩ => ⟨PS_no hn hp, hb⟩⟩
    obtain ⟨p, q, r, b, hbt, hs, hi⟩ := hR
    have G1 := hid hs
    have G2 := hid hi
    have HB := hid hbt
    clear hs hi hbt
    go_wp2_with fail
    refine (G2.out _ (hE.kept d1) (cell_kept hm d1)).mono ?_
    rintro e V2 ⟨rfl, hv2⟩
    have d2 := bel_trans d1 hv2
    clear hv2 d1
    go_wp2_with fail
    obtain ⟨P, hP⟩ : ∃ P, P = V2.heap.size := ⟨_, rfl⟩
    obtain ⟨V3, hV3⟩ : ∃ V3, V3 = V2.alloc (.cells #[.int .i64 p, .int .i64 q, .int .i64 r] 24) := ⟨_, rfl⟩
    rw [← hV3, ← hP]
    have u3 : Blk V3 P 24 #[.int .i64 p, .int .i64 q, .int .i64 r] := by rw [hV3, hP]; exact Blk.new V2 _ _
    have d3 : Below w.heap.size w V3 := by rw [hV3]; exact bel_alloc d2 _
    clear hV3 hP d2
    refine (G1.out _).mono ?_
    rintro e V4 ⟨rfl, hv4⟩
    have u4 := u3.on hv4
    have d4 := bel_trans d3 hv4
    obtain ⟨g0, g1, g2⟩ := u4.cells3
    have hlt := u4.lt
    have hne1 : ¬ V4.heap.size = P := by omega
    have hne2 : ¬ P = V4.heap.size := by omega
    clear hv4 d3 u3
    cases b with
    | false =>
      go_wp2
      go_ret
      exact ⟨by simp_all, by (repeat (first | exact Below.refl _ _ | assumption | refine bel_alloc ?_ _ | refine bel_drew ?_ | refine bel_drewN ?_ _ | refine bel_set ?_ (by first | omega | (simp; done) | (simp; omega)) _ | refine bel_trans ?_ (by assumption)))⟩
    | true =>
      have hbt := HB.out rfl
      have G3 := hid (show ∀ w, Calls Tryd.prog 5 #[.agg #[.int .i64 p, .int .i64 q, .int .i64 r]] w fun e w' => e = .returned (.string t) ∧ Below w.heap.size w w' by intro w; have := c_FormatSetting p q r w; rw [hbt] at this; exact this)
      clear hbt
      go_wp2_with fail
      refine (G3.out _).mono ?_
      rintro e V6 ⟨rfl, hv6⟩
      go_wp2
      go_ret
      exact ⟨by simp_all, by (repeat (first | exact Below.refl _ _ | assumption | refine bel_alloc ?_ _ | refine bel_drew ?_ | refine bel_drewN ?_ _ | refine bel_set ?_ (by first | omega | (simp; done) | (simp; omega)) _ | refine bel_trans ?_ (by assumption)))⟩
  | false =>
    have hTe : T = ByteArray.empty := by rw [HT.out, fmtS, ← HG.out]; rfl
    subst hTe
    go_wp2_with fail
    refine (H3.out _).mono ?_
    rintro e WZ ⟨rfl, hb4⟩
    have cz := bel_trans c3 hb4
    clear hb4 c3 k3 x3 y3 z3
    go_wp2_with fail
    have hd2 : CodeAt WZ w.heap.size A1 n1 cap1 := HD.out.keep (fun k hk => cz.block k hk)
    refine (c_DrawParseSetting _ _ _ _ w.heap.size cz.size hd2).mono ?_
    rintro e V1 ⟨t, rfl, ht, hv1⟩
    have d1 := bel_trans cz hv1
    clear hd2 hv1
    have hR : ∃ (o l m : Int) (b : Bool), (b = true → fmtS o l m = t) ∧ (∀ w, Calls Tryd.prog 10 #[.string t] w fun e w' => e = .returned (.tuple #[.agg #[.int .i64 o, .int .i64 l, .int .i64 m], .bool b]) ∧ Below w.heap.size w w') ∧
        (∀ w, ErrAt w → w.cell? ⟨3, 0, none⟩ = some (.int .i64 mm) → Calls Tryd.prog 8 #[.string t] w fun e w' => e = .returned (.tuple #[.agg #[.int .i64 o, .int .i64 l, .int .i64 m], .bool b]) ∧ Below w.heap.size w w') := by
      by_cases hx : ∃ o l m : Int, setOk o l m = true ∧ fmtS o l m = t
      · obtain ⟨o, l, m, h, e⟩ := hx
        exact ⟨o, l, m, true, fun _ => e, fun w => (c_sParseSetting t w (by omega)).mono fun _ _ ⟨hp, hb⟩ => ⟨PS_yes h e hp, hb⟩, fun w hE hm => (c_ParseSetting t w (by omega) hE mm hm).mono fun _ _ ⟨hp, hb⟩ => ⟨PS_yes h e hp, hb⟩⟩
      · have hn : ∀ o l m : Int, Fail t o l m := fun o l m hf => hx ⟨o, l, m, hf⟩
        exact ⟨0, 0, 0, false, (fun h => by cases h), fun w => (c_sParseSetting t w (by omega)).mono fun _ _ ⟨hp, hb⟩ => ⟨PS_no hn hp, hb⟩, fun w hE hm => (c_ParseSetting t w (by omega) hE mm hm).mono fun _ _ ⟨hp, hb⟩ => ⟨PS_no hn hp, hb⟩⟩
    obtain ⟨p, q, r, b, hbt, hs, hi⟩ := hR
    have G1 := hid hs
    have G2 := hid hi
    have HB := hid hbt
    clear hs hi hbt
    go_wp2_with fail
    refine (G2.out _ (hE.kept d1) (cell_kept hm d1)).mono ?_
    rintro e V2 ⟨rfl, hv2⟩
    have d2 := bel_trans d1 hv2
    clear hv2 d1
    go_wp2_with fail
    obtain ⟨P, hP⟩ : ∃ P, P = V2.heap.size := ⟨_, rfl⟩
    obtain ⟨V3, hV3⟩ : ∃ V3, V3 = V2.alloc (.cells #[.int .i64 p, .int .i64 q, .int .i64 r] 24) := ⟨_, rfl⟩
    rw [← hV3, ← hP]
    have u3 : Blk V3 P 24 #[.int .i64 p, .int .i64 q, .int .i64 r] := by rw [hV3, hP]; exact Blk.new V2 _ _
    have d3 : Below w.heap.size w V3 := by rw [hV3]; exact bel_alloc d2 _
    clear hV3 hP d2
    refine (G1.out _).mono ?_
    rintro e V4 ⟨rfl, hv4⟩
    have u4 := u3.on hv4
    have d4 := bel_trans d3 hv4
    obtain ⟨g0, g1, g2⟩ := u4.cells3
    have hlt := u4.lt
    have hne1 : ¬ V4.heap.size = P := by omega
    have hne2 : ¬ P = V4.heap.size := by omega
    clear hv4 d3 u3
    cases b with
    | false =>
      go_wp2
      go_ret
      exact ⟨by simp_all, by (repeat (first | exact Below.refl _ _ | assumption | refine bel_alloc ?_ _ | refine bel_drew ?_ | refine bel_drewN ?_ _ | refine bel_set ?_ (by first | omega | (simp; done) | (simp; omega)) _ | refine bel_trans ?_ (by assumption)))⟩
    | true =>
      have hbt := HB.out rfl
      have G3 := hid (show ∀ w, Calls Tryd.prog 5 #[.agg #[.int .i64 p, .int .i64 q, .int .i64 r]] w fun e w' => e = .returned (.string t) ∧ Below w.heap.size w w' by intro w; have := c_FormatSetting p q r w; rw [hbt] at this; exact this)
      clear hbt
      go_wp2_with fail
      refine (G3.out _).mono ?_
      rintro e V6 ⟨rfl, hv6⟩
      go_wp2
      go_ret
      exact ⟨by simp_all, by (repeat (first | exact Below.refl _ _ | assumption | refine bel_alloc ?_ _ | refine bel_drew ?_ | refine bel_drewN ?_ _ | refine bel_set ?_ (by first | omega | (simp; done) | (simp; omega)) _ | refine bel_trans ?_ (by assumption)))⟩
end Go.Proofs.YtgfclblooadomaaDoor
