/- The walk of the exact law on ParseSetting. -/
import Derived.Test.YtgfclblooadomaaDoorPi
import Derived.Test.YtgfclblooadomaaDoorTo
namespace Go.Proofs.YtgfclblooadomaaDoor
open Go.ChangeShapes Go.WideShapes Go.ChangeAt Go.RowKit Go.Joins
set_option linter.unusedVariables false

theorem str_inj {a b : List UInt8} (h : str a = str b) : a = b := by
  have := congrArg (fun x : ByteArray => x.data.toList) h
  simpa [str_list] using this
theorem dec_inj {a b : Int} (ha : 0 ≤ a ∧ a ≤ 10) (hb : 0 ≤ b ∧ b ≤ 10) (h : dec a = dec b) : a = b := by
  have h1 := atoi_dec ha.1 ha.2
  rw [h, atoi_dec hb.1 hb.2] at h1
  cases h1; rfl
theorem fmtS_inj {o l m o' l' m' : Int} {t : ByteArray} (h : setOk o l m = true) (e : fmtS o l m = t) (h' : setOk o' l' m' = true) (e' : fmtS o' l' m' = t) : o' = o ∧ l' = l ∧ m' = m := by
  have h1 := split_fmt h e
  rw [split_fmt h' e'] at h1
  simp only [List.cons.injEq, and_true] at h1
  obtain ⟨s1, s2, s3⟩ := setOk_iff.1 h
  obtain ⟨r1, r2, r3⟩ := setOk_iff.1 h'
  exact ⟨ordL_inj r1 s1 (str_inj h1.1), dec_inj (by omega) (by omega) (str_inj h1.2.1), dec_inj (by omega) (by omega) (str_inj h1.2.2)⟩

theorem PS_yes {t : ByteArray} {e : Ending} {o l m : Int} (h : setOk o l m = true) (he : fmtS o l m = t) (hp : PS t e) : e = .returned (.tuple #[.agg #[.int .i64 o, .int .i64 l, .int .i64 m], .bool true]) := by
  rcases hp with ⟨o', l', m', h', he', rfl⟩ | ⟨hn, _⟩
  · obtain ⟨rfl, rfl, rfl⟩ := fmtS_inj h he h' he'
    rfl
  · exact absurd ⟨h, he⟩ (hn o l m)
theorem PS_no {t : ByteArray} {e : Ending} (hn : ∀ o l m : Int, Fail t o l m) (hp : PS t e) : e = .returned (.tuple #[.agg #[.int .i64 0, .int .i64 0, .int .i64 0], .bool false]) := by
  rcases hp with ⟨o', l', m', h', he', rfl⟩ | ⟨_, rfl⟩
  · exact absurd ⟨h', he'⟩ (hn o' l' m')
  · rfl
end Go.Proofs.YtgfclblooadomaaDoor
