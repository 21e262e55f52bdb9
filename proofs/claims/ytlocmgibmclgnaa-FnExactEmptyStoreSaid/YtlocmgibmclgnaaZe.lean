/- EmptyStore in both programs, and its law's walk. -/
import Derived.Test.YtlocmgibmclgnaaBj
import Derived.Test.YtlocmgibmclgnaaBa
import Derived.Test.YtlocmgibmclgnaaBb
namespace Go.Proofs.Ytlocmgibmclgnaa
open Go.ChangeShapes Go.WideShapes Go.ChangeAt Go.RowKit Go.Joins
set_option linter.unusedVariables false

theorem Blk.cells5e {w : World} {g : Nat} {t : TypeId} {a b c d e : Value} (h : Blk w g t #[a, b, c, d, e]) : w.cell? ⟨g, 0, none⟩ = some a ∧ w.cell? ⟨g, 1, none⟩ = some b ∧ w.cell? ⟨g, 2, none⟩ = some c ∧ w.cell? ⟨g, 3, none⟩ = some d ∧ w.cell? ⟨g, 4, none⟩ = some e := ⟨h.cell 0, h.cell 1, h.cell 2, h.cell 3, h.cell 4⟩
theorem Blk.put5e {w : World} {g : Nat} {t : TypeId} {a b c d e : Value} (h : Blk w g t #[a, b, c, d, e]) (a' b' c' d' e' : Value) : Blk (((((w.setCell ⟨g, 0, none⟩ a').setCell ⟨g, 1, none⟩ b').setCell ⟨g, 2, none⟩ c').setCell ⟨g, 3, none⟩ d').setCell ⟨g, 4, none⟩ e') g t #[a', b', c', d', e'] :=
  ((((h.set_ 0 a').set_ 1 b').set_ 2 c').set_ 3 d').set_ 4 e'
theorem bel_put5 {w0 w : World} {g : Nat} (h : Below w0.heap.size w0 w) (hg : w0.heap.size ≤ g) (a b c d e : Value) : Below w0.heap.size w0 (((((w.setCell ⟨g, 0, none⟩ a).setCell ⟨g, 1, none⟩ b).setCell ⟨g, 2, none⟩ c).setCell ⟨g, 3, none⟩ d).setCell ⟨g, 4, none⟩ e) :=
  bel_set (bel_set (bel_set (bel_set (bel_set h hg _) hg _) hg _) hg _) hg _

/-- the store without files, or the zero value -/
def esV (o l m : Int) (d : ByteArray) : Value := if dataFits o l m d = true then .agg #[.int .i64 o, .int .i64 l, .int .i64 m, .string d, .slice none 0 0] else .agg #[.int .i64 0, .int .i64 0, .int .i64 0, .string { data := #[] }, .slice none 0 0]

theorem c_l5Ready (o l m : Int) (s : ByteArray) (w : World) (hs : s.size ≤ maxLen) : Calls Try.prog 91 #[.agg #[.int .i64 o, .int .i64 l, .int .i64 m], .string s] w fun e w' => e = .returned (.bool (dataFits o l m s)) ∧ Below w.heap.size w w' := by
  go_enter Try.func91, Try.ntmps91
  go_wp2_with fail
  refine (c_sDataFits o l m s _ hs).mono ?_
  rintro e w1 ⟨rfl, hb1⟩
  go_wp2_with fail
  go_ret
  exact ⟨rfl, by (repeat (first | with_reducible (first | assumption | exact Below.refl _ _ | refine bel_alloc ?_ _ | refine bel_drew ?_ | refine bel_drewN ?_ _ | refine bel_set ?_ (by first | omega | (simp; done) | (simp; omega)) _ | refine bel_trans ?_ (by assumption)) | assumption | refine bel_trans ?_ (by assumption)))⟩

theorem c_EmptyStore (o l m : Int) (s : ByteArray) (w : World) (hs : s.size ≤ maxLen) : Calls Try.prog 39 #[.agg #[.int .i64 o, .int .i64 l, .int .i64 m], .string s] w fun e w' => e = .returned (.tuple #[esV o l m s, .bool (dataFits o l m s)]) ∧ Below w.heap.size w w' := by
  have HB0 := hid (bel_alloc (bel_alloc (Below.refl _ w) (.cells #[.int .i64 o, .int .i64 l, .int .i64 m] 52)) (.cells #[.int .i64 0, .int .i64 0, .int .i64 0, .string { data := #[] }, .slice none 0 0] 55))
  have HS := hid ((Blk.new w 52 #[.int .i64 o, .int .i64 l, .int .i64 m]).alloc (.cells #[.int .i64 0, .int .i64 0, .int .i64 0, .string { data := #[] }, .slice none 0 0] 55))
  have HZ := hid (Blk.top w (.cells #[.int .i64 o, .int .i64 l, .int .i64 m] 52) 55 #[.int .i64 0, .int .i64 0, .int .i64 0, .string { data := #[] }, .slice none 0 0])
  obtain ⟨u0, u1, u2⟩ := HS.out.cells3
  go_enter Try.func39, Try.ntmps39
  go_wp2_with fail
  refine (c_DataFits o l m s _ hs).mono ?_
  rintro e w1 ⟨rfl, hb1⟩
  have HZ1 := hid (HZ.out.on hb1)
  have HS1 := HS.out.on hb1
  have hB1 := bel_trans HB0.out hb1
  clear u0 u1 u2 hb1
  obtain ⟨u0, u1, u2⟩ := HS1.cells3
  obtain ⟨p0, p1, p2, p3, p4⟩ := HZ1.out.cells5e
  have f0 := HZ1.out.frozen 0
  have f1 := HZ1.out.frozen 1
  have f2 := HZ1.out.frozen 2
  have f3 := HZ1.out.frozen 3
  have f4 := HZ1.out.frozen 4
  cases h : dataFits o l m s with
  | false =>
    go_wp2_with fail
    obtain ⟨Wz, hWz⟩ : ∃ Wz, Wz = (((((w1.setCell ⟨w.heap.size + 1, 0, none⟩ (.int .i64 0)).setCell ⟨w.heap.size + 1, 1, none⟩ (.int .i64 0)).setCell ⟨w.heap.size + 1, 2, none⟩ (.int .i64 0)).setCell ⟨w.heap.size + 1, 3, none⟩ (.string { data := #[] })).setCell ⟨w.heap.size + 1, 4, none⟩ (.slice none 0 0)) := ⟨_, rfl⟩
    rw [← hWz]
    have KZ : Blk Wz (w.heap.size + 1) 55 #[.int .i64 0, .int .i64 0, .int .i64 0, .string { data := #[] }, .slice none 0 0] := by rw [hWz]; exact HZ1.out.put5e _ _ _ _ _
    have KB : Below w.heap.size w Wz := by rw [hWz]; exact bel_put5 hB1 (by omega) _ _ _ _ _
    clear hWz u0 u1 u2 p0 p1 p2 p3 p4 f0 f1 f2 f3 f4
    obtain ⟨z0, z1, z2, z3, z4⟩ := KZ.cells5e
    exact bodyPost_ret (v := .tuple #[.agg #[.int .i64 0, .int .i64 0, .int .i64 0, .string { data := #[] }, .slice none 0 0], .bool false]) (by simp [results, Try.results39, go_sem, z0, z1, z2, z3, z4]) rfl ⟨by rw [esV, h]; rfl, KB⟩
  | true =>
    go_wp2_with fail
    obtain ⟨Wz, hWz⟩ : ∃ Wz, Wz = (((((w1.setCell ⟨w.heap.size + 1, 0, none⟩ (.int .i64 o)).setCell ⟨w.heap.size + 1, 1, none⟩ (.int .i64 l)).setCell ⟨w.heap.size + 1, 2, none⟩ (.int .i64 m)).setCell ⟨w.heap.size + 1, 3, none⟩ (.string s)).setCell ⟨w.heap.size + 1, 4, none⟩ (.slice none 0 0)) := ⟨_, rfl⟩
    rw [← hWz]
    have KZ : Blk Wz (w.heap.size + 1) 55 #[.int .i64 o, .int .i64 l, .int .i64 m, .string s, .slice none 0 0] := by rw [hWz]; exact HZ1.out.put5e _ _ _ _ _
    have KB : Below w.heap.size w Wz := by rw [hWz]; exact bel_put5 hB1 (by omega) _ _ _ _ _
    clear hWz u0 u1 u2 p0 p1 p2 p3 p4 f0 f1 f2 f3 f4
    obtain ⟨z0, z1, z2, z3, z4⟩ := KZ.cells5e
    exact bodyPost_ret (v := .tuple #[.agg #[.int .i64 o, .int .i64 l, .int .i64 m, .string s, .slice none 0 0], .bool true]) (by simp [results, Try.results39, go_sem, z0, z1, z2, z3, z4]) rfl ⟨by rw [esV, h]; rfl, KB⟩

theorem c_sEmptyStore (o l m : Int) (s : ByteArray) (w : World) (hs : s.size ≤ maxLen) : Calls Try.prog 37 #[.agg #[.int .i64 o, .int .i64 l, .int .i64 m], .string s] w fun e w' => e = .returned (.tuple #[esV o l m s, .bool (dataFits o l m s)]) ∧ Below w.heap.size w w' := by
  have HB0 := hid (bel_alloc (bel_alloc (Below.refl _ w) (.cells #[.int .i64 o, .int .i64 l, .int .i64 m] 52)) (.cells #[.int .i64 0, .int .i64 0, .int .i64 0, .string { data := #[] }, .slice none 0 0] 55))
  have HS := hid ((Blk.new w 52 #[.int .i64 o, .int .i64 l, .int .i64 m]).alloc (.cells #[.int .i64 0, .int .i64 0, .int .i64 0, .string { data := #[] }, .slice none 0 0] 55))
  have HZ := hid (Blk.top w (.cells #[.int .i64 o, .int .i64 l, .int .i64 m] 52) 55 #[.int .i64 0, .int .i64 0, .int .i64 0, .string { data := #[] }, .slice none 0 0])
  obtain ⟨u0, u1, u2⟩ := HS.out.cells3
  go_enter Try.func37, Try.ntmps37
  go_wp2_with fail
  refine (c_l5Ready o l m s _ hs).mono ?_
  rintro e w1 ⟨rfl, hb1⟩
  have HZ1 := hid (HZ.out.on hb1)
  have HS1 := HS.out.on hb1
  have hB1 := bel_trans HB0.out hb1
  clear u0 u1 u2 hb1
  obtain ⟨u0, u1, u2⟩ := HS1.cells3
  obtain ⟨p0, p1, p2, p3, p4⟩ := HZ1.out.cells5e
  have f0 := HZ1.out.frozen 0
  have f1 := HZ1.out.frozen 1
  have f2 := HZ1.out.frozen 2
  have f3 := HZ1.out.frozen 3
  have f4 := HZ1.out.frozen 4
  cases h : dataFits o l m s with
  | false =>
    go_wp2_with fail
    obtain ⟨Wz, hWz⟩ : ∃ Wz, Wz = (((((w1.setCell ⟨w.heap.size + 1, 0, none⟩ (.int .i64 0)).setCell ⟨w.heap.size + 1, 1, none⟩ (.int .i64 0)).setCell ⟨w.heap.size + 1, 2, none⟩ (.int .i64 0)).setCell ⟨w.heap.size + 1, 3, none⟩ (.string { data := #[] })).setCell ⟨w.heap.size + 1, 4, none⟩ (.slice none 0 0)) := ⟨_, rfl⟩
    rw [← hWz]
    have KZ : Blk Wz (w.heap.size + 1) 55 #[.int .i64 0, .int .i64 0, .int .i64 0, .string { data := #[] }, .slice none 0 0] := by rw [hWz]; exact HZ1.out.put5e _ _ _ _ _
    have KB : Below w.heap.size w Wz := by rw [hWz]; exact bel_put5 hB1 (by omega) _ _ _ _ _
    clear hWz u0 u1 u2 p0 p1 p2 p3 p4 f0 f1 f2 f3 f4
    obtain ⟨z0, z1, z2, z3, z4⟩ := KZ.cells5e
    exact bodyPost_ret (v := .tuple #[.agg #[.int .i64 0, .int .i64 0, .int .i64 0, .string { data := #[] }, .slice none 0 0], .bool false]) (by simp [results, Try.results37, go_sem, z0, z1, z2, z3, z4]) rfl ⟨by rw [esV, h]; rfl, KB⟩
  | true =>
    go_wp2_with fail
    obtain ⟨Wz, hWz⟩ : ∃ Wz, Wz = (((((w1.setCell ⟨w.heap.size + 1, 0, none⟩ (.int .i64 o)).setCell ⟨w.heap.size + 1, 1, none⟩ (.int .i64 l)).setCell ⟨w.heap.size + 1, 2, none⟩ (.int .i64 m)).setCell ⟨w.heap.size + 1, 3, none⟩ (.string s)).setCell ⟨w.heap.size + 1, 4, none⟩ (.slice none 0 0)) := ⟨_, rfl⟩
    rw [← hWz]
    have KZ : Blk Wz (w.heap.size + 1) 55 #[.int .i64 o, .int .i64 l, .int .i64 m, .string s, .slice none 0 0] := by rw [hWz]; exact HZ1.out.put5e _ _ _ _ _
    have KB : Below w.heap.size w Wz := by rw [hWz]; exact bel_put5 hB1 (by omega) _ _ _ _ _
    clear hWz u0 u1 u2 p0 p1 p2 p3 p4 f0 f1 f2 f3 f4
    obtain ⟨z0, z1, z2, z3, z4⟩ := KZ.cells5e
    exact bodyPost_ret (v := .tuple #[.agg #[.int .i64 o, .int .i64 l, .int .i64 m, .string s, .slice none 0 0], .bool true]) (by simp [results, Try.results37, go_sem, z0, z1, z2, z3, z4]) rfl ⟨by rw [esV, h]; rfl, KB⟩

theorem c_eqSettingE (o l m : Int) (w : World) : Calls Try.prog 93 #[.agg #[.int .i64 o, .int .i64 l, .int .i64 m], .agg #[.int .i64 o, .int .i64 l, .int .i64 m]] w fun e w' => e = .returned (.bool true) ∧ Below w.heap.size w w' := by
  go_enter Try.func93, Try.ntmps93
  go_wp2
  go_ret
  exact ⟨rfl, by (repeat (first | with_reducible (first | assumption | exact Below.refl _ _ | refine bel_alloc ?_ _ | refine bel_drew ?_ | refine bel_drewN ?_ _ | refine bel_set ?_ (by first | omega | (simp; done) | (simp; omega)) _ | refine bel_trans ?_ (by assumption)) | assumption | refine bel_trans ?_ (by assumption)))⟩

theorem c_eqFileS0 (w : World) : Calls Try.prog 94 #[.slice none 0 0, .slice none 0 0] w (Same (.bool true) w) := by
  go_enter Try.func94, Try.ntmps94
  go_wp2_with fail
  go_loop [5] (fun i => i = .int .i64 0) (fun _ => 0)
  case atStart => rfl
  case round =>
    subst hrel
    go_wp2
    go_ret
    exact ⟨rfl, rfl⟩

theorem c_markFileS0 (k : Int) (w : World) : Calls Try.prog 95 #[.slice none 0 0, .int .i64 k] w (Same (.int .i64 k) w) := by
  go_enter Try.func95, Try.ntmps95
  go_wp2_with fail
  go_loop [1, 5] (fun j i => j = .int .i64 k ∧ i = .int .i64 0) (fun _ _ => 0)
  case atStart => exact ⟨rfl, rfl⟩
  case round =>
    obtain ⟨rfl, rfl⟩ := hrel
    go_wp2
    go_ret
    exact ⟨rfl, rfl⟩

theorem c_heldFileS0 (k : Int) (w : World) : Calls Try.prog 96 #[.slice none 0 0, .int .i64 k] w (Same (.int .i64 k) w) := by
  go_enter Try.func96, Try.ntmps96
  go_wp2_with fail
  go_loop [1, 5] (fun j i => j = .int .i64 k ∧ i = .int .i64 0) (fun _ _ => 0)
  case atStart => exact ⟨rfl, rfl⟩
  case round =>
    obtain ⟨rfl, rfl⟩ := hrel
    go_wp2
    go_ret
    exact ⟨rfl, rfl⟩

theorem c_eqStore0 (a b c : Int) (t : ByteArray) (w : World) : Calls Try.prog 40 #[.agg #[.int .i64 a, .int .i64 b, .int .i64 c, .string t, .slice none 0 0], .agg #[.int .i64 a, .int .i64 b, .int .i64 c, .string t, .slice none 0 0]] w fun e w' => e = .returned (.bool true) ∧ Below w.heap.size w w' := by
  have HT := (Blk.top w (.cells #[.int .i64 a, .int .i64 b, .int .i64 c, .string t, .slice none 0 0] 55) 55 #[.int .i64 a, .int .i64 b, .int .i64 c, .string t, .slice none 0 0])
  have HS := ((Blk.new w 55 #[.int .i64 a, .int .i64 b, .int .i64 c, .string t, .slice none 0 0]).alloc (.cells #[.int .i64 a, .int .i64 b, .int .i64 c, .string t, .slice none 0 0] 55))
  have HB := hid (bel_alloc (bel_alloc (Below.refl _ w) (.cells #[.int .i64 a, .int .i64 b, .int .i64 c, .string t, .slice none 0 0] 55)) (.cells #[.int .i64 a, .int .i64 b, .int .i64 c, .string t, .slice none 0 0] 55))
  have HS' := hid HS
  have HT' := hid HT
  obtain ⟨u0, u1, u2, u3, u4⟩ := HS.cells5e
  obtain ⟨v0, v1, v2, v3, v4⟩ := HT.cells5e
  clear HS HT
  go_enter Try.func40, Try.ntmps40
  go_wp2_with fail
  refine (c_eqSettingE a b c _).mono ?_
  rintro e w1 ⟨rfl, hb1⟩
  clear u0 u1 u2 u3 u4 v0 v1 v2 v3 v4
  have HS := HS'.out.on hb1
  have HT := HT'.out.on hb1
  have HB1 := hid (bel_trans HB.out hb1)
  clear hb1
  obtain ⟨u0, u1, u2, u3, u4⟩ := HS.cells5e
  obtain ⟨v0, v1, v2, v3, v4⟩ := HT.cells5e
  go_wp2_with fail
  refine (c_eqFileS0 _).mono ?_
  rintro e w' ⟨rfl, rfl⟩
  go_wp2_with fail
  go_ret
  exact ⟨rfl, HB1.out⟩

theorem c_markStore0 (a b c k : Int) (t : ByteArray) (w : World) (hk : 0 ≤ k ∧ k ≤ 1000) : Calls Try.prog 41 #[.agg #[.int .i64 a, .int .i64 b, .int .i64 c, .string t, .slice none 0 0], .int .i64 k] w fun e w' => e = .returned (.int .i64 k) ∧ Below w.heap.size w w' := by
  have HS := (Blk.new w 55 #[.int .i64 a, .int .i64 b, .int .i64 c, .string t, .slice none 0 0])
  have HB := hid (bel_alloc (Below.refl _ w) (.cells #[.int .i64 a, .int .i64 b, .int .i64 c, .string t, .slice none 0 0] 55))
  obtain ⟨u0, u1, u2, u3, u4⟩ := HS.cells5e
  clear HS
  go_enter Try.func41, Try.ntmps41
  go_wp2_with fail
  refine (c_markFileS0 k _).mono ?_
  rintro e w' ⟨rfl, rfl⟩
  go_wp2_with fail
  go_ret
  exact ⟨rfl, HB.out⟩

theorem c_heldStore0 (a b c k : Int) (t : ByteArray) (w : World) (hk : 0 ≤ k ∧ k ≤ 1000) : Calls Try.prog 42 #[.agg #[.int .i64 a, .int .i64 b, .int .i64 c, .string t, .slice none 0 0], .int .i64 k] w fun e w' => e = .returned (.int .i64 k) ∧ Below w.heap.size w w' := by
  have HS := (Blk.new w 55 #[.int .i64 a, .int .i64 b, .int .i64 c, .string t, .slice none 0 0])
  have HB := hid (bel_alloc (Below.refl _ w) (.cells #[.int .i64 a, .int .i64 b, .int .i64 c, .string t, .slice none 0 0] 55))
  obtain ⟨u0, u1, u2, u3, u4⟩ := HS.cells5e
  clear HS
  go_enter Try.func42, Try.ntmps42
  go_wp2_with fail
  refine (c_heldFileS0 k _).mono ?_
  rintro e w' ⟨rfl, rfl⟩
  go_wp2_with fail
  go_ret
  exact ⟨rfl, HB.out⟩

theorem walk_FnExactEmptyStore (o l m : Int) (d : ByteArray) (w : World) (h_o : -9223372036854775808 ≤ o ∧ o ≤ 9223372036854775807) (h_l : -9223372036854775808 ≤ l ∧ l ≤ 9223372036854775807) (h_m : -9223372036854775808 ≤ m ∧ m ≤ 9223372036854775807) (h_d : d.size ≤ maxLen) :
    Calls Try.prog 8 #[.agg #[.int .i64 o, .int .i64 l, .int .i64 m], .string d] w fun e w' => e = .returned (.bool true) ∧ Below w.heap.size w w' := by
  by_cases big_d : 1048576 < d.size
  · unfold maxLen at *
    go_enter Try.func8, Try.ntmps8
    go_wp2_with fail
    go_ret
    exact ⟨rfl, by (repeat (first | with_reducible (first | assumption | exact Below.refl _ _ | refine bel_alloc ?_ _ | refine bel_drew ?_ | refine bel_drewN ?_ _ | refine bel_set ?_ (by first | omega | (simp; done) | (simp; omega)) _ | refine bel_trans ?_ (by assumption)) | assumption | refine bel_trans ?_ (by assumption)))⟩
  obtain ⟨a, b, c, t, hV⟩ : ∃ (a b c : Int) (t : ByteArray), esV o l m d = .agg #[.int .i64 a, .int .i64 b, .int .i64 c, .string t, .slice none 0 0] := by
    unfold esV; split
    · exact ⟨_, _, _, _, rfl⟩
    · exact ⟨_, _, _, _, rfl⟩
  obtain ⟨r, hr⟩ : ∃ r, r = dataFits o l m d := ⟨_, rfl⟩
  have H1 := hid (fun w => c_toSetting o l m w)
  have H2 := hid (fun w => c_sEmptyStore o l m d w h_d)
  have H3 := hid (fun w => c_EmptyStore o l m d w h_d)
  rw [hV, ← hr] at H2 H3
  have H4 := hid (fun w => c_eqStore0 a b c t w)
  have H5 := hid (fun w => c_markStore0 a b c 1 t w (by omega))
  have H6 := hid (fun w => c_heldStore0 a b c 1 t w (by omega))
  clear hV hr h_o h_l h_m
  obtain ⟨q0, q1, q2⟩ := (Blk.new w 51 #[.int .i64 o, .int .i64 l, .int .i64 m]).cells3
  go_enter Try.func8, Try.ntmps8
  go_wp2_with fail
  refine (H1.out _).mono ?_
  rintro e w1 ⟨rfl, hb1⟩
  have kS1 := (Blk.new _ 51 #[.int .i64 o, .int .i64 l, .int .i64 m]).on hb1
  have hB1 : Below w.heap.size w w1 := by (repeat (first | with_reducible (first | assumption | exact Below.refl _ _ | refine bel_alloc ?_ _ | refine bel_drew ?_ | refine bel_drewN ?_ _ | refine bel_set ?_ (by first | omega | (simp; done) | (simp; omega)) _ | refine bel_trans ?_ (by assumption)) | assumption | refine bel_trans ?_ (by assumption)))
  clear hb1
  clear q0 q1 q2
  obtain ⟨qS0, qS1, qS2⟩ := kS1.cells3
  have lS1 := kS1.lt
  go_wp2_with fail
  refine (H2.out _).mono ?_
  rintro e w2 ⟨rfl, hb2⟩
  have kS2 := (kS1).on hb2
  have hB2 : Below w.heap.size w w2 := by (repeat (first | with_reducible (first | assumption | exact Below.refl _ _ | refine bel_alloc ?_ _ | refine bel_drew ?_ | refine bel_drewN ?_ _ | refine bel_set ?_ (by first | omega | (simp; done) | (simp; omega)) _ | refine bel_trans ?_ (by assumption)) | assumption | refine bel_trans ?_ (by assumption)))
  clear hb2 hB1 kS1 qS0 qS1 qS2
  obtain ⟨qS0, qS1, qS2⟩ := kS2.cells3
  have lS2 := kS2.lt
  obtain ⟨n0, n1, n2, n3, n4⟩ := (Blk.new w2 55 #[.int .i64 a, .int .i64 b, .int .i64 c, .string t, .slice none 0 0]).cells5e
  go_wp2_with fail
  refine (H1.out _).mono ?_
  rintro e w3 ⟨rfl, hb3⟩
  have kS3 := (kS2.alloc _).on hb3
  have kR3 := (Blk.new _ 55 #[.int .i64 a, .int .i64 b, .int .i64 c, .string t, .slice none 0 0]).on hb3
  have hB3 : Below w.heap.size w w3 := by (repeat (first | with_reducible (first | assumption | exact Below.refl _ _ | refine bel_alloc ?_ _ | refine bel_drew ?_ | refine bel_drewN ?_ _ | refine bel_set ?_ (by first | omega | (simp; done) | (simp; omega)) _ | refine bel_trans ?_ (by assumption)) | assumption | refine bel_trans ?_ (by assumption)))
  clear hb3 hB2 kS2 qS0 qS1 qS2
  clear n0 n1 n2 n3 n4
  obtain ⟨qS0, qS1, qS2⟩ := kS3.cells3
  have lS3 := kS3.lt
  obtain ⟨qR0, qR1, qR2, qR3, qR4⟩ := kR3.cells5e
  have lR3 := kR3.lt
  go_wp2_with fail
  refine (H3.out _).mono ?_
  rintro e w4 ⟨rfl, hb4⟩
  have kS4 := (kS3).on hb4
  have kR4 := (kR3).on hb4
  have hB4 : Below w.heap.size w w4 := by (repeat (first | with_reducible (first | assumption | exact Below.refl _ _ | refine bel_alloc ?_ _ | refine bel_drew ?_ | refine bel_drewN ?_ _ | refine bel_set ?_ (by first | omega | (simp; done) | (simp; omega)) _ | refine bel_trans ?_ (by assumption)) | assumption | refine bel_trans ?_ (by assumption)))
  clear hb4 hB3 kS3 qS0 qS1 qS2 kR3 qR0 qR1 qR2 qR3 qR4
  obtain ⟨qS0, qS1, qS2⟩ := kS4.cells3
  have lS4 := kS4.lt
  obtain ⟨qR0, qR1, qR2, qR3, qR4⟩ := kR4.cells5e
  have lR4 := kR4.lt
  obtain ⟨n0, n1, n2, n3, n4⟩ := (Blk.new w4 55 #[.int .i64 a, .int .i64 b, .int .i64 c, .string t, .slice none 0 0]).cells5e
  go_wp2_with fail
  refine (H4.out _).mono ?_
  rintro e w5 ⟨rfl, hb5⟩
  have kS5 := (kS4.alloc _).on hb5
  have kR5 := (kR4.alloc _).on hb5
  have kG5 := (Blk.new _ 55 #[.int .i64 a, .int .i64 b, .int .i64 c, .string t, .slice none 0 0]).on hb5
  have hB5 : Below w.heap.size w w5 := by (repeat (first | with_reducible (first | assumption | exact Below.refl _ _ | refine bel_alloc ?_ _ | refine bel_drew ?_ | refine bel_drewN ?_ _ | refine bel_set ?_ (by first | omega | (simp; done) | (simp; omega)) _ | refine bel_trans ?_ (by assumption)) | assumption | refine bel_trans ?_ (by assumption)))
  clear hb5 hB4 kS4 qS0 qS1 qS2 kR4 qR0 qR1 qR2 qR3 qR4
  clear n0 n1 n2 n3 n4
  obtain ⟨qS0, qS1, qS2⟩ := kS5.cells3
  have lS5 := kS5.lt
  obtain ⟨qR0, qR1, qR2, qR3, qR4⟩ := kR5.cells5e
  have lR5 := kR5.lt
  obtain ⟨qG0, qG1, qG2, qG3, qG4⟩ := kG5.cells5e
  have lG5 := kG5.lt
  go_wp2_with fail
  refine (H5.out _).mono ?_
  rintro e w6 ⟨rfl, hb6⟩
  have kS6 := (kS5).on hb6
  have kR6 := (kR5).on hb6
  have kG6 := (kG5).on hb6
  have hB6 : Below w.heap.size w w6 := by (repeat (first | with_reducible (first | assumption | exact Below.refl _ _ | refine bel_alloc ?_ _ | refine bel_drew ?_ | refine bel_drewN ?_ _ | refine bel_set ?_ (by first | omega | (simp; done) | (simp; omega)) _ | refine bel_trans ?_ (by assumption)) | assumption | refine bel_trans ?_ (by assumption)))
  clear hb6 hB5 kS5 qS0 qS1 qS2 kR5 qR0 qR1 qR2 qR3 qR4 kG5 qG0 qG1 qG2 qG3 qG4
  obtain ⟨qS0, qS1, qS2⟩ := kS6.cells3
  have lS6 := kS6.lt
  obtain ⟨qR0, qR1, qR2, qR3, qR4⟩ := kR6.cells5e
  have lR6 := kR6.lt
  obtain ⟨qG0, qG1, qG2, qG3, qG4⟩ := kG6.cells5e
  have lG6 := kG6.lt
  go_wp2_with fail
  refine (H6.out _).mono ?_
  rintro e w7 ⟨rfl, hb7⟩
  have kS7 := (kS6).on hb7
  have kR7 := (kR6).on hb7
  have kG7 := (kG6).on hb7
  have hB7 : Below w.heap.size w w7 := by (repeat (first | with_reducible (first | assumption | exact Below.refl _ _ | refine bel_alloc ?_ _ | refine bel_drew ?_ | refine bel_drewN ?_ _ | refine bel_set ?_ (by first | omega | (simp; done) | (simp; omega)) _ | refine bel_trans ?_ (by assumption)) | assumption | refine bel_trans ?_ (by assumption)))
  clear hb7 hB6 kS6 qS0 qS1 qS2 kR6 qR0 qR1 qR2 qR3 qR4 kG6 qG0 qG1 qG2 qG3 qG4
  obtain ⟨qS0, qS1, qS2⟩ := kS7.cells3
  have lS7 := kS7.lt
  obtain ⟨qR0, qR1, qR2, qR3, qR4⟩ := kR7.cells5e
  have lR7 := kR7.lt
  obtain ⟨qG0, qG1, qG2, qG3, qG4⟩ := kG7.cells5e
  have lG7 := kG7.lt
  go_wp2_with fail
  refine (H1.out _).mono ?_
  rintro e w8 ⟨rfl, hb8⟩
  have kS8 := (kS7).on hb8
  have kR8 := (kR7).on hb8
  have kG8 := (kG7).on hb8
  have hB8 : Below w.heap.size w w8 := by (repeat (first | with_reducible (first | assumption | exact Below.refl _ _ | refine bel_alloc ?_ _ | refine bel_drew ?_ | refine bel_drewN ?_ _ | refine bel_set ?_ (by first | omega | (simp; done) | (simp; omega)) _ | refine bel_trans ?_ (by assumption)) | assumption | refine bel_trans ?_ (by assumption)))
  clear hb8 hB7 kS7 qS0 qS1 qS2 kR7 qR0 qR1 qR2 qR3 qR4 kG7 qG0 qG1 qG2 qG3 qG4
  obtain ⟨qS0, qS1, qS2⟩ := kS8.cells3
  have lS8 := kS8.lt
  obtain ⟨qR0, qR1, qR2, qR3, qR4⟩ := kR8.cells5e
  have lR8 := kR8.lt
  obtain ⟨qG0, qG1, qG2, qG3, qG4⟩ := kG8.cells5e
  have lG8 := kG8.lt
  go_wp2_with fail
  refine (H3.out _).mono ?_
  rintro e w9 ⟨rfl, hb9⟩
  have kS9 := (kS8).on hb9
  have kR9 := (kR8).on hb9
  have kG9 := (kG8).on hb9
  have hB9 : Below w.heap.size w w9 := by (repeat (first | with_reducible (first | assumption | exact Below.refl _ _ | refine bel_alloc ?_ _ | refine bel_drew ?_ | refine bel_drewN ?_ _ | refine bel_set ?_ (by first | omega | (simp; done) | (simp; omega)) _ | refine bel_trans ?_ (by assumption)) | assumption | refine bel_trans ?_ (by assumption)))
  clear hb9 hB8 kS8 qS0 qS1 qS2 kR8 qR0 qR1 qR2 qR3 qR4 kG8 qG0 qG1 qG2 qG3 qG4
  obtain ⟨qS0, qS1, qS2⟩ := kS9.cells3
  have lS9 := kS9.lt
  obtain ⟨qR0, qR1, qR2, qR3, qR4⟩ := kR9.cells5e
  have lR9 := kR9.lt
  obtain ⟨qG0, qG1, qG2, qG3, qG4⟩ := kG9.cells5e
  have lG9 := kG9.lt
  obtain ⟨n0, n1, n2, n3, n4⟩ := (Blk.new w9 55 #[.int .i64 a, .int .i64 b, .int .i64 c, .string t, .slice none 0 0]).cells5e
  go_wp2_with fail
  refine (H4.out _).mono ?_
  rintro e w10 ⟨rfl, hb10⟩
  have kS10 := (kS9.alloc _).on hb10
  have kR10 := (kR9.alloc _).on hb10
  have kG10 := (kG9.alloc _).on hb10
  have kU10 := (Blk.new _ 55 #[.int .i64 a, .int .i64 b, .int .i64 c, .string t, .slice none 0 0]).on hb10
  have hB10 : Below w.heap.size w w10 := by (repeat (first | with_reducible (first | assumption | exact Below.refl _ _ | refine bel_alloc ?_ _ | refine bel_drew ?_ | refine bel_drewN ?_ _ | refine bel_set ?_ (by first | omega | (simp; done) | (simp; omega)) _ | refine bel_trans ?_ (by assumption)) | assumption | refine bel_trans ?_ (by assumption)))
  clear hb10 hB9 kS9 qS0 qS1 qS2 kR9 qR0 qR1 qR2 qR3 qR4 kG9 qG0 qG1 qG2 qG3 qG4
  clear n0 n1 n2 n3 n4
  obtain ⟨qS0, qS1, qS2⟩ := kS10.cells3
  have lS10 := kS10.lt
  obtain ⟨qR0, qR1, qR2, qR3, qR4⟩ := kR10.cells5e
  have lR10 := kR10.lt
  obtain ⟨qG0, qG1, qG2, qG3, qG4⟩ := kG10.cells5e
  have lG10 := kG10.lt
  obtain ⟨qU0, qU1, qU2, qU3, qU4⟩ := kU10.cells5e
  have lU10 := kU10.lt
  go_wp2_with fail
  refine (H6.out _).mono ?_
  rintro e w11 ⟨rfl, hb11⟩
  have kS11 := (kS10).on hb11
  have kR11 := (kR10).on hb11
  have kG11 := (kG10).on hb11
  have kU11 := (kU10).on hb11
  have hB11 : Below w.heap.size w w11 := by (repeat (first | with_reducible (first | assumption | exact Below.refl _ _ | refine bel_alloc ?_ _ | refine bel_drew ?_ | refine bel_drewN ?_ _ | refine bel_set ?_ (by first | omega | (simp; done) | (simp; omega)) _ | refine bel_trans ?_ (by assumption)) | assumption | refine bel_trans ?_ (by assumption)))
  clear hb11 hB10 kS10 qS0 qS1 qS2 kR10 qR0 qR1 qR2 qR3 qR4 kG10 qG0 qG1 qG2 qG3 qG4 kU10 qU0 qU1 qU2 qU3 qU4
  obtain ⟨qS0, qS1, qS2⟩ := kS11.cells3
  have lS11 := kS11.lt
  obtain ⟨qR0, qR1, qR2, qR3, qR4⟩ := kR11.cells5e
  have lR11 := kR11.lt
  obtain ⟨qG0, qG1, qG2, qG3, qG4⟩ := kG11.cells5e
  have lG11 := kG11.lt
  obtain ⟨qU0, qU1, qU2, qU3, qU4⟩ := kU11.cells5e
  have lU11 := kU11.lt
  go_wp2_with fail
  go_ret
  exact ⟨rfl, by (repeat (first | with_reducible (first | assumption | exact Below.refl _ _ | refine bel_alloc ?_ _ | refine bel_drew ?_ | refine bel_drewN ?_ _ | refine bel_set ?_ (by first | omega | (simp; done) | (simp; omega)) _ | refine bel_trans ?_ (by assumption)) | assumption | refine bel_trans ?_ (by assumption)))⟩
end Go.Proofs.Ytlocmgibmclgnaa
