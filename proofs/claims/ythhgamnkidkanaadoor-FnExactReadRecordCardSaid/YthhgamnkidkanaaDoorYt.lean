/- Contracts: the two bytes of a number, a block's header, its bytes, whether it is one; in both programs. The layout of the header is as the program's text lays it. -/
import Derived.Test.YthhgamnkidkanaaDoorYm
import Derived.Test.YthhgamnkidkanaaDoorSc
import Derived.Test.YthhgamnkidkanaaDoorBb
import Derived.Test.YthhgamnkidkanaaDoorGo
import Derived.Test.YthhgamnkidkanaaDoorYo
import Derived.Deep.QuietTactic
import Derived.BigQuiet
import Derived.LoopN
import Derived.WalkLawsBesides
namespace Go.Proofs.YthhgamnkidkanaaDoor
open Go.ChangeShapes Go.WideShapes Go.ChangeAt Go.RowKit Go.Joins
set_option linter.unusedVariables false
set_option linter.unusedSimpArgs false

theorem run_two {P : Program} {e src dst : TypeId} (hs : P.underlying src = some (.slice e)) (he : P.underlying e = some (.int .u8)) (hd : P.underlying dst = some .string) (n : Nat) (w : World) :
    (convert src dst (.slice (some ⟨w.heap.size, 0, none⟩) 2 2)).run P (w.alloc (.cells #[.int .u8 ((n : Int) / 256 % 256), .int .u8 ((n : Int) % 256)] e)) = .ok (.string (str (two n))) (w.alloc (.cells #[.int .u8 ((n : Int) / 256 % 256), .int .u8 ((n : Int) % 256)] e)) := by
  refine run_convert_bytes_back (l := two n) _ src dst e ⟨w.heap.size, 0, none⟩ 2 hs he hd ?_
  intro j hj
  have h0 : (((UInt8.ofNat (n / 256)).toNat : Nat) : Int) = (n : Int) / 256 % 256 := by rw [UInt8.toNat_ofNat']; omega
  have h1 : (((UInt8.ofNat n).toNat : Nat) : Int) = (n : Int) % 256 := by rw [UInt8.toNat_ofNat']; omega
  refine two_new w _ _ e j _ ?_
  match j, hj with
  | 0, _ => simp only [two, List.getElem_cons_zero, h0]; rfl
  | 1, _ => simp only [two, List.getElem_cons_succ, List.getElem_cons_zero, h1]; rfl

set_option maxRecDepth 100000 in
theorem c_l4Two (n : Nat) (w : World) (h : n ≤ 9223372036854775807) : Calls Tryd.prog 35 #[.int .i64 (n : Int)] w fun e w' => e = .returned (.string (str (two n))) ∧ Below w.heap.size w w' := by
  have hc := run_two Tryd.underlying51 Tryd.underlying5 Tryd.underlying9 n
  go_enter Tryd.func35, Tryd.ntmps35
  go_wp2
  go_ret
  exact ⟨rfl, by (repeat (first | with_reducible (first | assumption | exact Below.refl _ _ | refine bel_alloc ?_ _ | refine bel_drew ?_ | refine bel_drewN ?_ _ | refine bel_set ?_ (by first | omega | (simp; done) | (simp; omega)) _ | refine bel_trans ?_ (by assumption)) | assumption | refine bel_trans ?_ (by assumption)))⟩

set_option maxRecDepth 100000 in
theorem c_twoBytes (n : Nat) (w : World) (h : n ≤ 9223372036854775807) : Calls Tryd.prog 37 #[.int .i64 (n : Int)] w fun e w' => e = .returned (.string (str (two n))) ∧ Below w.heap.size w w' := by
  have hc := run_two Tryd.underlying51 Tryd.underlying5 Tryd.underlying9 n
  go_enter Tryd.func37, Tryd.ntmps37
  go_wp2
  go_ret
  exact ⟨rfl, by (repeat (first | with_reducible (first | assumption | exact Below.refl _ _ | refine bel_alloc ?_ _ | refine bel_drew ?_ | refine bel_drewN ?_ _ | refine bel_set ?_ (by first | omega | (simp; done) | (simp; omega)) _ | refine bel_trans ?_ (by assumption)) | assumption | refine bel_trans ?_ (by assumption)))⟩

/-- the layout of a header, as the program's text lays it -/
def Lay (w : World) : Prop := ∃ t, w.heap[ 1 ]? = some (.cells #[.int .i64 1, .int .i64 181, .int .i64 181, .int .i64 1, .int .i64 0, .int .i64 1, .int .i64 2, .int .i64 0, .int .i64 39, .int .i64 2, .int .i64 1, .int .i64 64, .int .i64 2, .int .i64 1, .int .i64 64] t (0, 0))

theorem Lay.on {w w' : World} (h : Lay w) (hb : Below w.heap.size w w') : Lay w' := by
  obtain ⟨t, h⟩ := h
  exact ⟨t, (Blk.on (t := t) h hb)⟩

/-- a byte that is a number's lowest one -/
theorem u8_low (X : Int) (h : 0 ≤ X) : X % 256 = ((UInt8.ofNat X.toNat).toNat : Int) := by
  rw [UInt8.toNat_ofNat']; omega

theorem c_allows (c lo hi n : Int) (w : World) : Calls Tryd.prog 50 #[.agg #[.int .i64 c, .int .i64 lo, .int .i64 hi], .int .i64 n] w fun e w' => e = .returned (.bool (inB n lo hi)) ∧ Below w.heap.size w w' := by
  by_cases h1 : lo ≤ n
  · by_cases h2 : n ≤ hi
    all_goals
      go_enter Tryd.func50, Tryd.ntmps50
      go_wp2
      go_ret
      exact ⟨ret_bool (by simp [inB]; omega), by (repeat (first | with_reducible (first | assumption | exact Below.refl _ _ | refine bel_alloc ?_ _ | refine bel_drew ?_ | refine bel_drewN ?_ _ | refine bel_set ?_ (by first | omega | (simp; done) | (simp; omega)) _ | refine bel_trans ?_ (by assumption)) | assumption | refine bel_trans ?_ (by assumption)))⟩
  · go_enter Tryd.func50, Tryd.ntmps50
    go_wp2
    go_ret
    exact ⟨ret_bool (by simp [inB]; omega), by (repeat (first | with_reducible (first | assumption | exact Below.refl _ _ | refine bel_alloc ?_ _ | refine bel_drew ?_ | refine bel_drewN ?_ _ | refine bel_set ?_ (by first | omega | (simp; done) | (simp; omega)) _ | refine bel_trans ?_ (by assumption)) | assumption | refine bel_trans ?_ (by assumption)))⟩

theorem Lay.cells {w : World} (h : Lay w) : w.cell? ⟨1, 0, none⟩ = some (.int .i64 1) ∧ w.cell? ⟨1, 1, none⟩ = some (.int .i64 181) ∧ w.cell? ⟨1, 2, none⟩ = some (.int .i64 181) ∧ w.cell? ⟨1, 3, none⟩ = some (.int .i64 1) ∧ w.cell? ⟨1, 4, none⟩ = some (.int .i64 0) ∧ w.cell? ⟨1, 5, none⟩ = some (.int .i64 1) ∧ w.cell? ⟨1, 6, none⟩ = some (.int .i64 2) ∧ w.cell? ⟨1, 7, none⟩ = some (.int .i64 0) ∧ w.cell? ⟨1, 8, none⟩ = some (.int .i64 39) ∧ w.cell? ⟨1, 9, none⟩ = some (.int .i64 2) ∧ w.cell? ⟨1, 10, none⟩ = some (.int .i64 1) ∧ w.cell? ⟨1, 11, none⟩ = some (.int .i64 64) ∧ w.cell? ⟨1, 12, none⟩ = some (.int .i64 2) ∧ w.cell? ⟨1, 13, none⟩ = some (.int .i64 1) ∧ w.cell? ⟨1, 14, none⟩ = some (.int .i64 64) ∧ 1 < w.heap.size := by
  obtain ⟨t, h⟩ := h
  have c := fun i => cell_of_row w 1 i _ t (0, 0) h
  exact ⟨c 0, c 1, c 2, c 3, c 4, c 5, c 6, c 7, c 8, c 9, c 10, c 11, c 12, c 13, c 14, Blk.lt (t := t) h⟩

/-- a string of one byte that stands in memory -/
theorem run_oney {P : Program} {w : World} {g : Nat} {e src dst : TypeId} (hs : P.underlying src = some (.slice e)) (he : P.underlying e = some (.int .u8)) (hd : P.underlying dst = some .string) {c : UInt8} (hc : w.cell? ⟨g, 0, none⟩ = some (.int .u8 (c.toNat : Int))) :
    (convert src dst (.slice (some ⟨g, 0, none⟩) 1 1)).run P w = .ok (.string (str [c])) w := by
  refine run_convert_bytes_back (l := [c]) _ src dst e ⟨g, 0, none⟩ 1 hs he hd ?_
  intro j hj
  have : j = 0 := by simpa using hj
  subst this
  have e0 : ((⟨g, 0, none⟩ : Addr).add 0) = ⟨g, 0, none⟩ := by simp [Addr.add]
  rw [e0, hc]
  rfl

theorem Bl.inner_str (b : Bl) : str [b.kind] ++ str (two b.n.toNat) ++ str (two b.z.toNat) ++ str (two b.body.size) ++ b.body = str b.inner := by
  rw [← str_self b.body]
  simp only [str_append, str_size, len_toList, Bl.inner]
  simp [str_list, str_size, len_toList]

theorem Bl.text_str (b : Bl) : str [181] ++ str b.inner ++ str (two (M.ck b.inner)) = str b.text := by
  simp only [str_append, Bl.text]
  simp
end Go.Proofs.YthhgamnkidkanaaDoor
