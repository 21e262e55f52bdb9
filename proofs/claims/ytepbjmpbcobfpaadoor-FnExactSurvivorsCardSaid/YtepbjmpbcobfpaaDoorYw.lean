/- Contracts: a block's bytes and whether it is one, FormatBlock in both programs, and the walk of its exact law. The layout of the header is as the program's text lays it. -/
import Derived.Test.YtepbjmpbcobfpaaDoorYv
namespace Go.Proofs.YtepbjmpbcobfpaaDoor
open Go.ChangeShapes Go.WideShapes Go.ChangeAt Go.RowKit Go.Joins
set_option linter.unusedVariables false
set_option linter.unusedSimpArgs false

theorem okB_not2 {b : Bl} (h1 : inB b.n 0 39 = true) (h2 : inB b.z 1 64 = true) (hr : b.raw = false) : decide b.ok = inB (b.body.size : Int) 1 (b.z - 1) := by
  have h1 := inB_iff.1 h1
  have h2 := inB_iff.1 h2
  rw [Bool.eq_iff_iff]
  simp [Bl.ok, hr, inB]
  omega

set_option maxRecDepth 100000 in
theorem c_l5Form (b : Bl) (w : World) (hn : -9223372036854775808 ≤ b.n ∧ b.n ≤ 9223372036854775807) (hz : -9223372036854775808 ≤ b.z ∧ b.z ≤ 9223372036854775807) (hs : b.body.size ≤ maxLen) : Calls Tryd.prog 29 #[.agg #[.int .i64 b.n, .bool b.raw, .int .i64 b.z, .string b.body]] w fun e w' => e = .returned (.bool (decide b.ok)) ∧ Below w.heap.size w w' := by
  unfold maxLen at hs
  have HN := hid (fun (v : World) => c_l5Number b.n v)
  have HZ := hid (fun (v : World) => c_l1In b.z 1 64 v)
  have HM := hid (fun (v : World) => c_l1In b.body.size 1 (b.z - 1) v)
  obtain ⟨p0, p1, p2, p3⟩ := (Blk.new w 35 #[.int .i64 b.n, .bool b.raw, .int .i64 b.z, .string b.body]).cells4y
  cases h1 : inB b.n 0 39 with
  | false =>
    have HF := hid (okB_no1 h1)
    simp only [h1] at HN
    clear h1
    go_enter Tryd.func29, Tryd.ntmps29
    go_wp2_with (first | (go_at_call 35; refine (HN.out _).mono ?_; rintro e w' ⟨rfl, rfl⟩) | (go_at_call 36; refine (HZ.out _).mono ?_; rintro e w' ⟨rfl, rfl⟩))
    go_ret
    exact ⟨ret_bool HF.out.symm, by (repeat (first | with_reducible (first | assumption | exact Below.refl _ _ | refine bel_alloc ?_ _ | refine bel_drew ?_ | refine bel_drewN ?_ _ | refine bel_set ?_ (by first | omega | (simp; done) | (simp; omega)) _ | refine bel_trans ?_ (by assumption)) | assumption | refine bel_trans ?_ (by assumption)))⟩
  | true =>
    simp only [h1] at HN
    cases h2 : inB b.z 1 64 with
    | false =>
      have HF := hid (okB_no2 h2)
      simp only [h2] at HZ
      clear h1 h2
      go_enter Tryd.func29, Tryd.ntmps29
      go_wp2_with (first | (go_at_call 35; refine (HN.out _).mono ?_; rintro e w' ⟨rfl, rfl⟩) | (go_at_call 36; refine (HZ.out _).mono ?_; rintro e w' ⟨rfl, rfl⟩))
      go_ret
      exact ⟨ret_bool HF.out.symm, by (repeat (first | with_reducible (first | assumption | exact Below.refl _ _ | refine bel_alloc ?_ _ | refine bel_drew ?_ | refine bel_drewN ?_ _ | refine bel_set ?_ (by first | omega | (simp; done) | (simp; omega)) _ | refine bel_trans ?_ (by assumption)) | assumption | refine bel_trans ?_ (by assumption)))⟩
    | true =>
      have h3 := inB_iff.1 h2
      simp only [h2] at HZ
      have H1 := hid h1
      have H2 := hid h2
      clear h1
      go_enter Tryd.func29, Tryd.ntmps29
      go_wp2_with (first | (go_at_call 35; refine (HN.out _).mono ?_; rintro e w' ⟨rfl, rfl⟩) | (go_at_call 36; refine (c_l1In _ _ _ _).mono ?_; rintro e w' ⟨rfl, rfl⟩))
      · rename_i hr
        go_ret
        exact ⟨ret_bool (okB_raw H1.out H2.out hr).symm, by (repeat (first | with_reducible (first | assumption | exact Below.refl _ _ | refine bel_alloc ?_ _ | refine bel_drew ?_ | refine bel_drewN ?_ _ | refine bel_set ?_ (by first | omega | (simp; done) | (simp; omega)) _ | refine bel_trans ?_ (by assumption)) | assumption | refine bel_trans ?_ (by assumption)))⟩
      · rename_i hr
        go_ret
        exact ⟨ret_bool (okB_not2 H1.out H2.out hr).symm, by (repeat (first | with_reducible (first | assumption | exact Below.refl _ _ | refine bel_alloc ?_ _ | refine bel_drew ?_ | refine bel_drewN ?_ _ | refine bel_set ?_ (by first | omega | (simp; done) | (simp; omega)) _ | refine bel_trans ?_ (by assumption)) | assumption | refine bel_trans ?_ (by assumption)))⟩

theorem Blk.put4y {w : World} {g : Nat} {t : TypeId} {a b c d : Value} (h : Blk w g t #[a, b, c, d]) (a' b' c' d' : Value) : Blk ((((w.setCell ⟨g, 0, none⟩ a').setCell ⟨g, 1, none⟩ b').setCell ⟨g, 2, none⟩ c').setCell ⟨g, 3, none⟩ d') g t #[a', b', c', d'] :=
  (((h.set_ 0 a').set_ 1 b').set_ 2 c').set_ 3 d'
end Go.Proofs.YtepbjmpbcobfpaaDoor
