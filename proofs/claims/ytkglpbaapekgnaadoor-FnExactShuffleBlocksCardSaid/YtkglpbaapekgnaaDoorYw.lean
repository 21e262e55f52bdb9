/- Contracts: a block's bytes and whether it is one, FormatBlock in both programs, and the walk of its exact law. The layout of the header is as the program's text lays it. -/
import Derived.Test.YtkglpbaapekgnaaDoorYv
namespace Go.Proofs.YtkglpbaapekgnaaDoor
open Go.ChangeShapes Go.WideShapes Go.ChangeAt Go.RowKit Go.Joins
set_option linter.unusedVariables false
set_option linter.unusedSimpArgs false

theorem okB_not2 {b : Bl} (h1 : inB b.n 0 39 = true) (h2 : inB b.z 1 64 = true) (hr : b.raw = false) : decide b.ok = inB (b.body.size : Int) 1 (b.z - 1) := by
  have h1 := inB_iff.1 h1
  have h2 := inB_iff.1 h2
  rw [Bool.eq_iff_iff]
  simp [Bl.ok, hr, inB]
  omega

set_option maxRecDepth 100000 in
theorem c_l5Form (b : Bl) (w : World) (hn : -9223372036854775808 ≤ b.n ∧ b.n ≤ 9223372036854775807) (hz : -9223372036854775808 ≤ b.z ∧ b.z ≤ 9223372036854775807) (hs : b.body.size ≤ maxLen) : Calls Tryd.prog 45 #[.agg #[.int .i64 b.n, .bool b.raw, .int .i64 b.z, .string b.body]] w fun e w' => e = .returned (.bool (decide b.ok)) ∧ Below w.heap.size w w' := by
  unfold maxLen at hs
  have HN := hid (fun (v : World) => c_l5Number b.n v)
  have HZ := hid (fun (v : World) => c_l1In b.z 1 64 v)
  have HM := hid (fun (v : World) => c_l1In b.body.size 1 (b.z - 1) v)
  obtain ⟨p0, p1, p2, p3⟩ := (Blk.new w 27 #[.int .i64 b.n, .bool b.raw, .int .i64 b.z, .string b.body]).cells4y
  cases h1 : inB b.n 0 39 with
  | false =>
    have HF := hid (okB_no1 h1)
    simp only [h1] at HN
    clear h1
    go_enter Tryd.func45, Tryd.ntmps45
    go_wp2_with (first | (go_at_call 70; refine (HN.out _).mono ?_; rintro e w' ⟨rfl, rfl⟩) | (go_at_call 61; refine (HZ.out _).mono ?_; rintro e w' ⟨rfl, rfl⟩))
    go_ret
    exact ⟨ret_bool HF.out.symm, by (repeat (first | with_reducible (first | assumption | exact Below.refl _ _ | refine bel_alloc ?_ _ | refine bel_drew ?_ | refine bel_drewN ?_ _ | refine bel_set ?_ (by first | omega | (simp; done) | (simp; omega)) _ | refine bel_trans ?_ (by assumption)) | assumption | refine bel_trans ?_ (by assumption)))⟩
  | true =>
    simp only [h1] at HN
    cases h2 : inB b.z 1 64 with
    | false =>
      have HF := hid (okB_no2 h2)
      simp only [h2] at HZ
      clear h1 h2
      go_enter Tryd.func45, Tryd.ntmps45
      go_wp2_with (first | (go_at_call 70; refine (HN.out _).mono ?_; rintro e w' ⟨rfl, rfl⟩) | (go_at_call 61; refine (HZ.out _).mono ?_; rintro e w' ⟨rfl, rfl⟩))
      go_ret
      exact ⟨ret_bool HF.out.symm, by (repeat (first | with_reducible (first | assumption | exact Below.refl _ _ | refine bel_alloc ?_ _ | refine bel_drew ?_ | refine bel_drewN ?_ _ | refine bel_set ?_ (by first | omega | (simp; done) | (simp; omega)) _ | refine bel_trans ?_ (by assumption)) | assumption | refine bel_trans ?_ (by assumption)))⟩
    | true =>
      have h3 := inB_iff.1 h2
      simp only [h2] at HZ
      have H1 := hid h1
      have H2 := hid h2
      clear h1
      go_enter Tryd.func45, Tryd.ntmps45
      go_wp2_with (first | (go_at_call 70; refine (HN.out _).mono ?_; rintro e w' ⟨rfl, rfl⟩) | (go_at_call 61; refine (c_l1In _ _ _ _).mono ?_; rintro e w' ⟨rfl, rfl⟩))
      · rename_i hr
        go_ret
        exact ⟨ret_bool (okB_raw H1.out H2.out hr).symm, by (repeat (first | with_reducible (first | assumption | exact Below.refl _ _ | refine bel_alloc ?_ _ | refine bel_drew ?_ | refine bel_drewN ?_ _ | refine bel_set ?_ (by first | omega | (simp; done) | (simp; omega)) _ | refine bel_trans ?_ (by assumption)) | assumption | refine bel_trans ?_ (by assumption)))⟩
      · rename_i hr
        go_ret
        exact ⟨ret_bool (okB_not2 H1.out H2.out hr).symm, by (repeat (first | with_reducible (first | assumption | exact Below.refl _ _ | refine bel_alloc ?_ _ | refine bel_drew ?_ | refine bel_drewN ?_ _ | refine bel_set ?_ (by first | omega | (simp; done) | (simp; omega)) _ | refine bel_trans ?_ (by assumption)) | assumption | refine bel_trans ?_ (by assumption)))⟩

theorem c_sFormatBlock_yes (b : Bl) (w : World) (hb : b.ok) : Calls Tryd.prog 14 #[.agg #[.int .i64 b.n, .bool b.raw, .int .i64 b.z, .string b.body]] w fun e w' => e = .returned (.tuple #[.string (str b.text), .bool true]) ∧ Below w.heap.size w w' := by
  have hl := b.len hb
  have HF := hid (fun (v : World) => c_l5Form b v (by have := hb.1; omega) (by have := hb.2.1; omega) (by unfold maxLen; omega))
  simp only [decide_eq_true hb] at HF
  have HT := hid (fun (v : World) => c_l5Text b v hb)
  have HK := hid (Blk.new w 27 #[.int .i64 b.n, .bool b.raw, .int .i64 b.z, .string b.body])
  clear hb hl
  obtain ⟨p0, p1, p2, p3⟩ := HK.out.cells4y
  go_enter Tryd.func14, Tryd.ntmps14
  go_wp2_with fail
  refine (HF.out _).mono ?_
  rintro e w1 ⟨rfl, hb1⟩
  clear p0 p1 p2 p3
  obtain ⟨p0, p1, p2, p3⟩ := (HK.out.on hb1).cells4y
  go_wp2_with fail
  refine (HT.out _).mono ?_
  rintro e w2 ⟨rfl, hb2⟩
  go_wp2
  go_ret2
  exact ⟨rfl, by (repeat (first | with_reducible (first | assumption | exact Below.refl _ _ | refine bel_alloc ?_ _ | refine bel_drew ?_ | refine bel_drewN ?_ _ | refine bel_set ?_ (by first | omega | (simp; done) | (simp; omega)) _ | refine bel_trans ?_ (by assumption)) | assumption | refine bel_trans ?_ (by assumption)))⟩

theorem c_sFormatBlock_no (b : Bl) (w : World) (hb : ¬ b.ok) (hn : -9223372036854775808 ≤ b.n ∧ b.n ≤ 9223372036854775807) (hz : -9223372036854775808 ≤ b.z ∧ b.z ≤ 9223372036854775807) (hs : b.body.size ≤ maxLen) : Calls Tryd.prog 14 #[.agg #[.int .i64 b.n, .bool b.raw, .int .i64 b.z, .string b.body]] w fun e w' => e = .returned (.tuple #[.string ByteArray.empty, .bool false]) ∧ Below w.heap.size w w' := by
  have HF := hid (fun (v : World) => c_l5Form b v hn hz hs)
  simp only [decide_eq_false hb] at HF
  obtain ⟨p0, p1, p2, p3⟩ := (Blk.new w 27 #[.int .i64 b.n, .bool b.raw, .int .i64 b.z, .string b.body]).cells4y
  clear hb
  go_enter Tryd.func14, Tryd.ntmps14
  go_wp2_with fail
  refine (HF.out _).mono ?_
  rintro e w1 ⟨rfl, hb1⟩
  go_wp2
  go_ret2
  exact ⟨rfl, by (repeat (first | with_reducible (first | assumption | exact Below.refl _ _ | refine bel_alloc ?_ _ | refine bel_drew ?_ | refine bel_drewN ?_ _ | refine bel_set ?_ (by first | omega | (simp; done) | (simp; omega)) _ | refine bel_trans ?_ (by assumption)) | assumption | refine bel_trans ?_ (by assumption)))⟩

theorem c_FormatBlock_yes (b : Bl) (w : World) (hL : Lay w) (hb : b.ok) : Calls Tryd.prog 16 #[.agg #[.int .i64 b.n, .bool b.raw, .int .i64 b.z, .string b.body]] w fun e w' => e = .returned (.tuple #[.string (str b.text), .bool true]) ∧ Below w.heap.size w w' := by
  have hl := b.len hb
  have HF := hid (fun (v : World) (hv : Below w.heap.size w v) => c_blockValid b v (hL.on hv) (by have := hb.1; omega) (by have := hb.2.1; omega) (by unfold maxLen; omega))
  simp only [decide_eq_true hb] at HF
  have HT := hid (fun (v : World) (hv : Below w.heap.size w v) => c_blockBytes b v hb (hL.on hv))
  have HK := hid (Blk.new w 27 #[.int .i64 b.n, .bool b.raw, .int .i64 b.z, .string b.body])
  clear hb hl hL
  obtain ⟨p0, p1, p2, p3⟩ := HK.out.cells4y
  go_enter Tryd.func16, Tryd.ntmps16
  go_wp2_with fail
  refine (HF.out _ (by (repeat (first | with_reducible (first | assumption | exact Below.refl _ _ | refine bel_alloc ?_ _ | refine bel_drew ?_ | refine bel_drewN ?_ _ | refine bel_set ?_ (by first | omega | (simp; done) | (simp; omega)) _ | refine bel_trans ?_ (by assumption)) | assumption | refine bel_trans ?_ (by assumption))))).mono ?_
  rintro e w1 ⟨rfl, hb1⟩
  clear p0 p1 p2 p3
  obtain ⟨p0, p1, p2, p3⟩ := (HK.out.on hb1).cells4y
  go_wp2_with fail
  refine (HT.out _ (by (repeat (first | with_reducible (first | assumption | exact Below.refl _ _ | refine bel_alloc ?_ _ | refine bel_drew ?_ | refine bel_drewN ?_ _ | refine bel_set ?_ (by first | omega | (simp; done) | (simp; omega)) _ | refine bel_trans ?_ (by assumption)) | assumption | refine bel_trans ?_ (by assumption))))).mono ?_
  rintro e w2 ⟨rfl, hb2⟩
  go_wp2
  go_ret2
  exact ⟨rfl, by (repeat (first | with_reducible (first | assumption | exact Below.refl _ _ | refine bel_alloc ?_ _ | refine bel_drew ?_ | refine bel_drewN ?_ _ | refine bel_set ?_ (by first | omega | (simp; done) | (simp; omega)) _ | refine bel_trans ?_ (by assumption)) | assumption | refine bel_trans ?_ (by assumption)))⟩

theorem c_FormatBlock_no (b : Bl) (w : World) (hL : Lay w) (hb : ¬ b.ok) (hn : -9223372036854775808 ≤ b.n ∧ b.n ≤ 9223372036854775807) (hz : -9223372036854775808 ≤ b.z ∧ b.z ≤ 9223372036854775807) (hs : b.body.size ≤ maxLen) : Calls Tryd.prog 16 #[.agg #[.int .i64 b.n, .bool b.raw, .int .i64 b.z, .string b.body]] w fun e w' => e = .returned (.tuple #[.string ByteArray.empty, .bool false]) ∧ Below w.heap.size w w' := by
  have HF := hid (fun (v : World) (hv : Below w.heap.size w v) => c_blockValid b v (hL.on hv) hn hz hs)
  simp only [decide_eq_false hb] at HF
  obtain ⟨p0, p1, p2, p3⟩ := (Blk.new w 27 #[.int .i64 b.n, .bool b.raw, .int .i64 b.z, .string b.body]).cells4y
  clear hb hL
  go_enter Tryd.func16, Tryd.ntmps16
  go_wp2_with fail
  refine (HF.out _ (by (repeat (first | with_reducible (first | assumption | exact Below.refl _ _ | refine bel_alloc ?_ _ | refine bel_drew ?_ | refine bel_drewN ?_ _ | refine bel_set ?_ (by first | omega | (simp; done) | (simp; omega)) _ | refine bel_trans ?_ (by assumption)) | assumption | refine bel_trans ?_ (by assumption))))).mono ?_
  rintro e w1 ⟨rfl, hb1⟩
  go_wp2
  go_ret2
  exact ⟨rfl, by (repeat (first | with_reducible (first | assumption | exact Below.refl _ _ | refine bel_alloc ?_ _ | refine bel_drew ?_ | refine bel_drewN ?_ _ | refine bel_set ?_ (by first | omega | (simp; done) | (simp; omega)) _ | refine bel_trans ?_ (by assumption)) | assumption | refine bel_trans ?_ (by assumption)))⟩

theorem c_szBlock (b : Bl) (left : Int) (w : World) (hs : b.body.size ≤ maxLen) (hl : 0 ≤ left ∧ left ≤ 1048576) : Calls Tryd.prog 13 #[.agg #[.int .i64 b.n, .bool b.raw, .int .i64 b.z, .string b.body], .int .i64 left] w fun e w' => e = .returned (.int .i64 (if left < b.body.size then -1 else left - b.body.size)) ∧ Below w.heap.size w w' := by
  unfold maxLen at hs
  obtain ⟨p0, p1, p2, p3⟩ := (Blk.new w 23 #[.int .i64 b.n, .bool b.raw, .int .i64 b.z, .string b.body]).cells4y
  by_cases h : left < b.body.size
  · have hd : decide (left - (b.body.size : Int) < 0) = true := decide_eq_true (by omega)
    rw [if_pos h]
    go_enter Tryd.func13, Tryd.ntmps13
    go_wp2
    go_ret
    exact ⟨rfl, by (repeat (first | with_reducible (first | assumption | exact Below.refl _ _ | refine bel_alloc ?_ _ | refine bel_drew ?_ | refine bel_drewN ?_ _ | refine bel_set ?_ (by first | omega | (simp; done) | (simp; omega)) _ | refine bel_trans ?_ (by assumption)) | assumption | refine bel_trans ?_ (by assumption)))⟩
  · have hd : decide (left - (b.body.size : Int) < 0) = false := decide_eq_false (by omega)
    rw [if_neg h]
    go_enter Tryd.func13, Tryd.ntmps13
    go_wp2
    go_ret
    exact ⟨rfl, by (repeat (first | with_reducible (first | assumption | exact Below.refl _ _ | refine bel_alloc ?_ _ | refine bel_drew ?_ | refine bel_drewN ?_ _ | refine bel_set ?_ (by first | omega | (simp; done) | (simp; omega)) _ | refine bel_trans ?_ (by assumption)) | assumption | refine bel_trans ?_ (by assumption)))⟩

theorem Blk.put4y {w : World} {g : Nat} {t : TypeId} {a b c d : Value} (h : Blk w g t #[a, b, c, d]) (a' b' c' d' : Value) : Blk ((((w.setCell ⟨g, 0, none⟩ a').setCell ⟨g, 1, none⟩ b').setCell ⟨g, 2, none⟩ c').setCell ⟨g, 3, none⟩ d') g t #[a', b', c', d'] :=
  (((h.set_ 0 a').set_ 1 b').set_ 2 c').set_ 3 d'

set_option maxRecDepth 100000 in
theorem c_toBlock (b : Bl) (w : World) : Calls Tryd.prog 15 #[.agg #[.int .i64 b.n, .bool b.raw, .int .i64 b.z, .string b.body]] w fun e w' => e = .returned (.agg #[.int .i64 b.n, .bool b.raw, .int .i64 b.z, .string b.body]) ∧ Below w.heap.size w w' := by
  go_enter Tryd.func15, Tryd.ntmps15
  go_wp2
  exact bodyPost_ret (v := .agg #[.int .i64 b.n, .bool b.raw, .int .i64 b.z, .string b.body]) (by simp [results, Tryd.results15, go_sem]) rfl ⟨rfl, by (repeat (first | with_reducible (first | assumption | exact Below.refl _ _ | refine bel_alloc ?_ _ | refine bel_drew ?_ | refine bel_drewN ?_ _ | refine bel_set ?_ (by first | omega | (simp; done) | (simp; omega)) _ | refine bel_trans ?_ (by assumption)) | assumption | refine bel_trans ?_ (by assumption)))⟩

theorem walk_FnExactFormatBlock (n : Int) (raw : Bool) (z : Int) (body : ByteArray) (w : World) (hn : -9223372036854775808 ≤ n ∧ n ≤ 9223372036854775807) (hz : -9223372036854775808 ≤ z ∧ z ≤ 9223372036854775807) (hs : body.size ≤ maxLen) (hL : Lay w) :
    Calls Tryd.prog 3 #[.agg #[.int .i64 n, .bool raw, .int .i64 z, .string body]] w fun e w' => e = .returned (.bool true) ∧ Below w.heap.size w w' := by
  obtain ⟨b, hb⟩ : ∃ b : Bl, b = ⟨n, raw, z, body⟩ := ⟨_, rfl⟩
  obtain ⟨rfl, rfl, rfl, rfl⟩ : n = b.n ∧ raw = b.raw ∧ z = b.z ∧ body = b.body := by subst hb; exact ⟨rfl, rfl, rfl, rfl⟩
  clear hb
  obtain ⟨R, ok, HS, HI⟩ : ∃ (R : ByteArray) (ok : Bool), (∀ v : World, Calls Tryd.prog 14 #[.agg #[.int .i64 b.n, .bool b.raw, .int .i64 b.z, .string b.body]] v fun e w' => e = .returned (.tuple #[.string R, .bool ok]) ∧ Below v.heap.size v w') ∧ (∀ v : World, Lay v → Calls Tryd.prog 16 #[.agg #[.int .i64 b.n, .bool b.raw, .int .i64 b.z, .string b.body]] v fun e w' => e = .returned (.tuple #[.string R, .bool ok]) ∧ Below v.heap.size v w') := by
    by_cases hk : b.ok
    · exact ⟨_, _, fun v => c_sFormatBlock_yes b v hk, fun v hv => c_FormatBlock_yes b v hv hk⟩
    · exact ⟨_, _, fun v => c_sFormatBlock_no b v hk hn hz hs, fun v hv => c_FormatBlock_no b v hv hk hn hz hs⟩
  have HS := hid HS
  have HI := hid HI
  have HZ := hid (fun (v : World) => c_szBlock b 1048576 v hs (by omega))
  have HT := hid (fun (v : World) => c_toBlock b v)
  have HL := hid hL
  have HK := hid (Blk.new w 23 #[.int .i64 b.n, .bool b.raw, .int .i64 b.z, .string b.body])
  clear hn hz hL
  obtain ⟨p0, p1, p2, p3⟩ := HK.out.cells4y
  by_cases h1 : (1048576 : Int) < b.body.size
  · rw [if_pos h1] at HZ
    clear h1 hs
    go_enter Tryd.func3, Tryd.ntmps3
    go_wp2_with fail
    refine (HZ.out _).mono ?_
    rintro e w1 ⟨rfl, hb1⟩
    go_wp2
    go_ret
    exact ⟨rfl, by (repeat (first | with_reducible (first | assumption | exact Below.refl _ _ | refine bel_alloc ?_ _ | refine bel_drew ?_ | refine bel_drewN ?_ _ | refine bel_set ?_ (by first | omega | (simp; done) | (simp; omega)) _ | refine bel_trans ?_ (by assumption)) | assumption | refine bel_trans ?_ (by assumption)))⟩
  · rw [if_neg h1] at HZ
    have hd : decide (1048576 - (b.body.size : Int) < 0) = false := decide_eq_false (by omega)
    obtain ⟨Lf, hLf⟩ : ∃ Lf, Lf = 1048576 - (b.body.size : Int) := ⟨_, rfl⟩
    rw [← hLf] at HZ hd
    clear h1 hs hLf
    go_enter Tryd.func3, Tryd.ntmps3
    go_wp2_with fail
    refine (HZ.out _).mono ?_
    rintro e w1 ⟨rfl, hb1⟩
    have HK1 := hid (HK.out.on hb1)
    clear p0 p1 p2 p3
    obtain ⟨p0, p1, p2, p3⟩ := HK1.out.cells4y
    go_wp2_with fail
    refine (HT.out _).mono ?_
    rintro e w2 ⟨rfl, hb2⟩
    have HK2 := hid (HK1.out.on hb2)
    clear p0 p1 p2 p3
    go_wp2_with fail
    refine (HS.out _).mono ?_
    rintro e w3 ⟨rfl, hb3⟩
    have HK3 := hid (HK2.out.on hb3)
    obtain ⟨p0, p1, p2, p3⟩ := HK3.out.cells4y
    go_wp2_with fail
    refine (HT.out _).mono ?_
    rintro e w4 ⟨rfl, hb4⟩
    clear p0 p1 p2 p3
    have hbl : Below w.heap.size w w4 := by (repeat (first | with_reducible (first | assumption | exact Below.refl _ _ | refine bel_alloc ?_ _ | refine bel_drew ?_ | refine bel_drewN ?_ _ | refine bel_set ?_ (by first | omega | (simp; done) | (simp; omega)) _ | refine bel_trans ?_ (by assumption)) | assumption | refine bel_trans ?_ (by assumption)))
    have HBl := hid hbl
    clear hb1 hb2 hb3 hb4 hbl
    go_wp2_with fail
    refine (HI.out _ (HL.out.on HBl.out)).mono ?_
    rintro e w5 ⟨rfl, hb5⟩
    go_wp2
    go_ret
    exact ⟨rfl, bel_trans HBl.out hb5⟩
end Go.Proofs.YtkglpbaapekgnaaDoor
