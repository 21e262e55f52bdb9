/- The walk of the exact law on ParseSetting. -/
import Derived.Test.YtgfclblooadomabDoorPi
import Derived.Test.YtgfclblooadomabDoorTo
namespace Go.Proofs.YtgfclblooadomabDoor
open Go.ChangeShapes Go.WideShapes Go.ChangeAt Go.RowKit Go.Joins
set_option linter.unusedVariables false

theorem str_inj {a b : List UInt8} (h : str a = str b) : a = b := by
  have := congrArg (fun x : ByteArray => x.data.toList) h
  simpa [str_list] using this
theorem dec_inj {a b : Int} (ha : 0 ≤ a ∧ a ≤ 10) (hb : 0 ≤ b ∧ b ≤ 10) (h : dec a = dec b) : a = b := by
  have h1 := atoi_dec ha.1 ha.2
  rw [h, atoi_dec hb.1 hb.2] at h1
  cases h1; rfl
theorem fmtS_inj {o l m o' l' m' : Int} {t : ByteArray} (h : setOk o l m = true) (e : fmtS o l m = t) (h' : setOk o' l' m' = true) (e' : fmtS o' l' m' = t) : o' = o ∧ l' = l ∧ m' = m := by
  have h1 := split_fmt h e
  rw [split_fmt h' e'] at h1
  simp only [List.cons.injEq, and_true] at h1
  obtain ⟨s1, s2, s3⟩ := setOk_iff.1 h
  obtain ⟨r1, r2, r3⟩ := setOk_iff.1 h'
  exact ⟨ordL_inj r1 s1 (str_inj h1.1), dec_inj (by omega) (by omega) (str_inj h1.2.1), dec_inj (by omega) (by omega) (str_inj h1.2.2)⟩

theorem PS_yes {t : ByteArray} {e : Ending} {o l m : Int} (h : setOk o l m = true) (he : fmtS o l m = t) (hp : PS t e) : e = .returned (.tuple #[.agg #[.int .i64 o, .int .i64 l, .int .i64 m], .bool true]) := by
  rcases hp with ⟨o', l', m', h', he', rfl⟩ | ⟨hn, _⟩
  · obtain ⟨rfl, rfl, rfl⟩ := fmtS_inj h he h' he'
    rfl
  · exact absurd ⟨h, he⟩ (hn o l m)
theorem PS_no {t : ByteArray} {e : Ending} (hn : ∀ o l m : Int, Fail t o l m) (hp : PS t e) : e = .returned (.tuple #[.agg #[.int .i64 0, .int .i64 0, .int .i64 0], .bool false]) := by
  rcases hp with ⟨o', l', m', h', he', rfl⟩ | ⟨_, rfl⟩
  · exact absurd ⟨h', he'⟩ (hn o' l' m')
  · rfl

theorem c_eqSetting (o l m : Int) (w : World) : Calls Tryd.prog 10 #[.agg #[.int .i64 o, .int .i64 l, .int .i64 m], .agg #[.int .i64 o, .int .i64 l, .int .i64 m]] w fun e w' => e = .returned (.bool true) ∧ Below w.heap.size w w' := by
  go_enter Tryd.func10, Tryd.ntmps10
  go_wp2
  go_ret
  exact ⟨rfl, by (repeat (first | exact Below.refl _ _ | assumption | refine bel_alloc ?_ _ | refine bel_drew ?_ | refine bel_drewN ?_ _ | refine bel_set ?_ (by first | omega | (simp; done) | (simp; omega)) _ | refine bel_trans ?_ (by assumption)))⟩

set_option maxRecDepth 100000 in
theorem walk_FnExactParseSetting (t : ByteArray) (w : World) (h_t : t.size ≤ maxLen) (hE : ErrAt w) (mm : Int) (hm : w.cell? ⟨3, 0, none⟩ = some (.int .i64 mm)) :
    Calls Tryd.prog 4 #[.string t] w fun e w' => e = .returned (.bool true) ∧ Below w.heap.size w w' := by
  by_cases big : 1048576 < t.size
  · unfold maxLen at *
    go_enter Tryd.func4, Tryd.ntmps4
    go_wp2_with fail
    go_ret
    exact ⟨rfl, by (repeat (first | exact Below.refl _ _ | assumption | refine bel_alloc ?_ _ | refine bel_drew ?_ | refine bel_drewN ?_ _ | refine bel_set ?_ (by first | omega | (simp; done) | (simp; omega)) _ | refine bel_trans ?_ (by assumption)))⟩
  · have hR : ∃ (o l m : Int) (b : Bool), (∀ w, Calls Tryd.prog 8 #[.string t] w fun e w' => e = .returned (.tuple #[.agg #[.int .i64 o, .int .i64 l, .int .i64 m], .bool b]) ∧ Below w.heap.size w w') ∧
        (∀ w, ErrAt w → w.cell? ⟨3, 0, none⟩ = some (.int .i64 mm) → Calls Tryd.prog 9 #[.string t] w fun e w' => e = .returned (.tuple #[.agg #[.int .i64 o, .int .i64 l, .int .i64 m], .bool b]) ∧ Below w.heap.size w w') := by
      by_cases hx : ∃ o l m : Int, setOk o l m = true ∧ fmtS o l m = t
      · obtain ⟨o, l, m, h, e⟩ := hx
        exact ⟨o, l, m, true, fun w => (c_sParseSetting t w (by omega)).mono fun _ _ ⟨hp, hb⟩ => ⟨PS_yes h e hp, hb⟩, fun w hE hm => (c_ParseSetting t w (by omega) hE mm hm).mono fun _ _ ⟨hp, hb⟩ => ⟨PS_yes h e hp, hb⟩⟩
      · have hn : ∀ o l m : Int, Fail t o l m := fun o l m hf => hx ⟨o, l, m, hf⟩
        exact ⟨0, 0, 0, false, fun w => (c_sParseSetting t w (by omega)).mono fun _ _ ⟨hp, hb⟩ => ⟨PS_no hn hp, hb⟩, fun w hE hm => (c_ParseSetting t w (by omega) hE mm hm).mono fun _ _ ⟨hp, hb⟩ => ⟨PS_no hn hp, hb⟩⟩
    obtain ⟨o, l, m, b, hs, hi⟩ := hR
    have H1 := hid hs
    have H2 := hid hi
    have hbb : (b != b) = false := by simp
    clear hs hi
    go_enter Tryd.func4, Tryd.ntmps4
    go_wp2_with fail
    refine (H1.out _).mono ?_
    rintro e W1 ⟨rfl, hb1⟩
    go_wp2_with fail
    have k2 := Blk.new W1 25 #[.int .i64 o, .int .i64 l, .int .i64 m]
    obtain ⟨M, hM⟩ : ∃ M, M = W1.heap.size := ⟨_, rfl⟩
    obtain ⟨W2, hW2⟩ : ∃ W2, W2 = W1.alloc (.cells #[.int .i64 o, .int .i64 l, .int .i64 m] 25) := ⟨_, rfl⟩
    have c2 : Below w.heap.size w W2 := by rw [hW2]; exact bel_alloc hb1 _
    rw [← hM, ← hW2] at k2 ⊢
    clear hM hW2 hb1
    refine (H2.out _ (hE.kept c2) (cell_kept hm c2)).mono ?_
    rintro e W3 ⟨rfl, hb3⟩
    have k3 := k2.on hb3
    have c3 := bel_trans c2 hb3
    obtain ⟨x3, y3, z3⟩ := k3.cells3
    have hlt := k3.lt
    clear k2 c2 hb3
    go_wp2_with fail
    refine (c_eqSetting o l m _).mono ?_
    rintro e W4 ⟨rfl, hb4⟩
    go_wp2
    go_ret
    exact ⟨by simp_all, by (repeat (first | exact Below.refl _ _ | assumption | refine bel_alloc ?_ _ | refine bel_drew ?_ | refine bel_drewN ?_ _ | refine bel_set ?_ (by first | omega | (simp; done) | (simp; omega)) _ | refine bel_trans ?_ (by assumption)))⟩
end Go.Proofs.YtgfclblooadomabDoor
