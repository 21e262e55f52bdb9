/- Contracts of the loops that append bits. -/
import Derived.Test.YtgfclblooadomaaBits
import Derived.Test.YtgfclblooadomaaOwn
namespace Go.Proofs.Ytgfclblooadomaa
open Go.ChangeShapes Go.WideShapes Go.ChangeAt Go.RowKit Go.Joins
set_option linter.unusedVariables false

theorem Try.info_u8 : (Try.prog.info? 5).map (fun i => (i.zero, i.size, i.bytes)) = some (some (.int .u8 0), 1, 1) := by kernel_rfl

theorem c_appendNumber (o n width : Int) (B : Nat) (v : Value) (m : Nat) (l : List UInt8) (w : World) (hn : 0 ≤ n) (hn2 : n ≤ 9223372036854775807) (hw0 : 0 ≤ width) (hw1 : width ≤ 16) (hm : m ≤ 100000) (hB : B ≤ w.heap.size) (hown : w.ownsRow B 5 1 v m (l.map vb)) :
    Calls Try.prog 78 #[.int .i64 o, v, .int .i64 n, .int .i64 width] w fun e w' => ∃ v', e = .returned v' ∧ w'.ownsRow B 5 1 v' (m + width.toNat) ((l ++ dl o n width width.toNat).map vb) ∧ Below B w w' := by
  go_enter Try.func78, Try.ntmps78
  go_wp2_with fail
  go_loopw [1, 11] (fun v i wr => ∃ k : Nat, k ≤ width ∧ i = .int .i64 k ∧ wr.ownsRow B 5 1 v (m + k) ((l ++ dl o n width k).map vb) ∧ Below B w wr) (fun _ i _ => (width - intOf i).toNat)
  case atStart => exact ⟨0, hw0, rfl, by simpa [dl] using hown, Below.refl _ _⟩
  case round =>
    obtain ⟨k, hk, rfl, hown, hbl⟩ := hrel
    by_cases hlt : k < width
    · have hp : 0 ≤ place o k width ∧ place o k width ≤ 63 := by unfold place; split <;> omega
      have hdg := dgI_bd n (place o k width)
      have hsz := hbl.size
      go_wp2_with (first | (go_at_call 98; refine (c_digit _ _ _ _ _ hn hn2 (by omega) hlt (by omega)).mono ?_; rintro e w' ⟨rfl, rfl⟩) | (at_builtin; refine app_byte rfl _ _ 22 rfl B 5 Try.underlying22 Try.info_u8 _ _ _ rfl hown _ _ (chr_dg _ _) 1 rfl (by omega) (by omega) ?_; intro v1 w1 hown1 hbl1 hg1))
      go_roundw
      case rel => exact ⟨k + 1, by omega, by go_num, by rw [dl_succ, ← List.append_assoc]; exact hown1, hbl.trans hbl1⟩
      case measure => simp [intOf]; omega
    · obtain rfl : width = k := by omega
      go_wp2
      go_ret
      exact ⟨_, rfl, by simpa using hown, hbl⟩
end Go.Proofs.Ytgfclblooadomaa
