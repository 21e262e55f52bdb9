/- The walk of the exact law on ParseOp. -/
import Derived.Test.YthhgamnkidkanaaDoorLo
namespace Go.Proofs.YthhgamnkidkanaaDoor
open Go.ChangeShapes Go.WideShapes Go.ChangeAt Go.RowKit Go.Joins
set_option linter.unusedVariables false
set_option linter.unusedSimpArgs false

theorem c_eqOp (k : Int) (nm : ByteArray) (f t z : Int) (d : ByteArray) (w : World) : Calls Tryd.prog 7 #[.agg #[.int .i64 k, .string nm, .int .i64 f, .int .i64 t, .int .i64 z, .string d], .agg #[.int .i64 k, .string nm, .int .i64 f, .int .i64 t, .int .i64 z, .string d]] w fun e w' => e = .returned (.bool true) ∧ Below w.heap.size w w' := by
  go_enter Tryd.func7, Tryd.ntmps7
  go_wp2
  go_ret
  exact ⟨rfl, by (repeat (first | with_reducible (first | assumption | exact Below.refl _ _ | refine bel_alloc ?_ _ | refine bel_drew ?_ | refine bel_drewN ?_ _ | refine bel_set ?_ (by first | omega | (simp; done) | (simp; omega)) _ | refine bel_trans ?_ (by assumption)) | assumption | refine bel_trans ?_ (by assumption)))⟩

set_option maxRecDepth 100000 in
set_option maxHeartbeats 4000000 in
theorem walk_FnExactParseOp (t : ByteArray) (w : World) (h_t : t.size ≤ maxLen) (hE : ErrAt w) (mm : Int) (hm : w.cell? ⟨2, 0, none⟩ = some (.int .i64 mm)) (hLy : Lay w) (hFm : Frm w) (hTab : Tab w) :
    Calls Tryd.prog 3 #[.string t] w fun e w' => e = .returned (.bool true) ∧ Below w.heap.size w w' := by
  by_cases big : 1048576 < t.size
  · unfold maxLen at *
    go_enter Tryd.func3, Tryd.ntmps3
    go_wp2_with fail
    go_ret
    exact ⟨rfl, by (repeat (first | with_reducible (first | assumption | exact Below.refl _ _ | refine bel_alloc ?_ _ | refine bel_drew ?_ | refine bel_drewN ?_ _ | refine bel_set ?_ (by first | omega | (simp; done) | (simp; omega)) _ | refine bel_trans ?_ (by assumption)) | assumption | refine bel_trans ?_ (by assumption)))⟩
  · obtain ⟨k, nm, f, u, z, D, b, hone⟩ := pop_ex t
    have H1 := hid (fun (v : World) => (c_sParseOp t v (by omega)).mono fun _ _ h => (⟨hone _ h.1, h.2⟩ : _ ∧ _))
    have H2 := hid (fun (v : World) (hb : Below w.heap.size w v) => (c_ParseOp t v (by omega) (hE.kept hb) mm (cell_kept hm hb) (hTab.on hb) (hLy.on hb) (hFm.on hb)).mono fun _ _ h => (⟨hone _ h.1, h.2⟩ : _ ∧ _))
    unfold opV at H1 H2
    have hbb : (b != b) = false := by simp
    clear hone hE hm hTab hLy hFm
    go_enter Tryd.func3, Tryd.ntmps3
    go_wp2_with fail
    refine (H1.out _).mono ?_
    rintro e W1 ⟨rfl, hb1⟩
    go_wp2_with fail
    have k2 := Blk.new W1 23 #[.int .i64 k, .string nm, .int .i64 f, .int .i64 u, .int .i64 z, .string D]
    obtain ⟨M, hM⟩ : ∃ M, M = W1.heap.size := ⟨_, rfl⟩
    obtain ⟨W2, hW2⟩ : ∃ W2, W2 = W1.alloc (.cells #[.int .i64 k, .string nm, .int .i64 f, .int .i64 u, .int .i64 z, .string D] 23) := ⟨_, rfl⟩
    have c2 : Below w.heap.size w W2 := by rw [hW2]; exact bel_alloc hb1 _
    rw [← hM, ← hW2] at k2 ⊢
    clear hM hW2 hb1
    refine (H2.out _ c2).mono ?_
    rintro e W3 ⟨rfl, hb3⟩
    have k3 := k2.on hb3
    have c3 := bel_trans c2 hb3
    obtain ⟨x0, x1, x2, x3, x4, x5⟩ := k3.cells6
    have hlt := k3.lt
    clear k2 c2 hb3
    go_wp2_with fail
    refine (c_eqOp k nm f u z D _).mono ?_
    rintro e W4 ⟨rfl, hb4⟩
    go_wp2
    go_ret
    exact ⟨by simp_all, by (repeat (first | with_reducible (first | assumption | exact Below.refl _ _ | refine bel_alloc ?_ _ | refine bel_drew ?_ | refine bel_drewN ?_ _ | refine bel_set ?_ (by first | omega | (simp; done) | (simp; omega)) _ | refine bel_trans ?_ (by assumption)) | assumption | refine bel_trans ?_ (by assumption)))⟩
end Go.Proofs.YthhgamnkidkanaaDoor
