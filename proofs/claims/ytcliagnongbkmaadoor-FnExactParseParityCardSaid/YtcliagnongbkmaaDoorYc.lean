/- Slices of places: opened as an argument; the laws' own helpers on them. No condition but that they are not too long. -/
import Derived.Test.YtcliagnongbkmaaDoorBb
import Derived.Test.YtcliagnongbkmaaDoorBa
import Derived.Deep.SlicePairs
import Derived.Deep.QuietTactic
import Derived.BigQuiet
namespace Go.Proofs.YtcliagnongbkmaaDoor
open Go.ChangeShapes Go.WideShapes Go.ChangeAt Go.RowKit Go.Joins Go.Deep
set_option linter.unusedVariables false
set_option linter.unusedSimpArgs false

theorem Tryd.info_place : (Tryd.prog.info? 52).map (fun i => (i.zero, i.size, i.bytes)) = some (some (.agg #[.int .i64 0, .int .i64 0]), 2, 16) := by kernel_rfl

/-- numbers within an int -/
def PlB (ps : List Pr) : Prop := ∀ (i : Nat) (p : Pr), ps[i]? = some p → (-9223372036854775808 ≤ p.1 ∧ p.1 ≤ 9223372036854775807) ∧ (-9223372036854775808 ≤ p.2 ∧ p.2 ≤ 9223372036854775807)

theorem choose_lt2 {α : Type} [Inhabited α] {n : Nat} {p : Nat → α → Prop} (h : ∀ i, i < n → ∃ q, p i q) : ∃ f : Nat → α, ∀ i, i < n → p i (f i) :=
  ⟨fun i => if hi : i < n then (h i hi).choose else default, fun i hi => by simp only [dif_pos hi]; exact (h i hi).choose_spec⟩

theorem plc_at {w : World} {L cap : Nat} {A : Option Addr} {ps : List Pr} (h : PsAt w L A cap ps) (i : Nat) (hi : i < ps.length) : ∃ b off, A = some ⟨b, off, none⟩ ∧ b < L ∧ w.cell? ⟨b, off + i * 2, none⟩ = some (.int .i64 ps[i].1) ∧ w.cell? ⟨b, off + i * 2 + 1, none⟩ = some (.int .i64 ps[i].2) := by
  obtain ⟨b, off, e, hb, hc⟩ := h.2.2.2 (by omega)
  have := hc i ps[i] (List.getElem?_eq_getElem hi)
  exact ⟨b, off, e, hb, this.1, this.2⟩

theorem own_plc {w : World} {B : Nat} {e : TypeId} {G n cap : Nat} {l : List Pr} (h : w.ownsRow B e 2 (.slice (some ⟨G, 0, none⟩) n cap) n (prs l)) (k : Nat) (p : Pr) (hk : l[k]? = some p) : w.cell? ⟨G, k * 2, none⟩ = some (.int .i64 p.1) ∧ w.cell? ⟨G, k * 2 + 1, none⟩ = some (.int .i64 p.2) := by
  have hl := h.1
  rw [prs_len] at hl
  have hk2 := get_lt hk
  have := prs_get l k p hk
  exact ⟨(h.cellAt _ (by omega)).trans this.1, (h.cellAt _ (by omega)).trans this.2⟩

theorem c_eqPlace (a b : Int) (w : World) : Calls Tryd.prog 33 #[.agg #[.int .i64 a, .int .i64 b], .agg #[.int .i64 a, .int .i64 b]] w fun e w' => e = .returned (.bool true) ∧ Below w.heap.size w w' := by
  go_enter Tryd.func33, Tryd.ntmps33
  go_wp2
  go_ret
  exact ⟨rfl, by (repeat (first | with_reducible (first | assumption | exact Below.refl _ _ | refine bel_alloc ?_ _ | refine bel_drew ?_ | refine bel_drewN ?_ _ | refine bel_set ?_ (by first | omega | (simp; done) | (simp; omega)) _ | refine bel_trans ?_ (by assumption)) | assumption | refine bel_trans ?_ (by assumption)))⟩

theorem c_eqPlaceS (A A2 : Option Addr) (cap cap2 : Nat) (ps : List Pr) (L L2 : Nat) (w : World) (h : PsAt w L A cap ps) (h2 : PsAt w L2 A2 cap2 ps) (hL : L ≤ w.heap.size) (hL2 : L2 ≤ w.heap.size) (hn : ps.length ≤ 1048576) : Calls Tryd.prog 11 #[.slice A ps.length cap, .slice A2 ps.length cap2] w fun e w' => e = .returned (.bool true) ∧ Below w.heap.size w w' := by
  go_enter Tryd.func11, Tryd.ntmps11
  go_wp2_with fail
  go_loopw [5] (fun i wr => ∃ k : Nat, k ≤ ps.length ∧ i = .int .i64 k ∧ Below w.heap.size w wr) (fun i _ => ps.length - (intOf i).toNat)
  case atStart => exact ⟨0, Nat.zero_le _, rfl, by (repeat (first | with_reducible (first | assumption | exact Below.refl _ _ | refine bel_alloc ?_ _ | refine bel_drew ?_ | refine bel_drewN ?_ _ | refine bel_set ?_ (by first | omega | (simp; done) | (simp; omega)) _ | refine bel_trans ?_ (by assumption)) | assumption | refine bel_trans ?_ (by assumption)))⟩
  case round =>
    obtain ⟨k, hk, rfl, hbl⟩ := hrel
    by_cases hlt : k < ps.length
    · obtain ⟨b, off, rfl, hb, hc0, hc1⟩ := plc_at (h.below hbl hL) k hlt
      obtain ⟨d, off2, rfl, hd, hd0, hd1⟩ := plc_at (h2.below hbl hL2) k hlt
      obtain ⟨p, hp⟩ : ∃ p, p = ps[k] := ⟨_, rfl⟩
      rw [← hp] at hc0 hc1 hd0 hd1
      clear hp
      go_wp2_with fail
      go_region_with (go_at_call 33; refine (c_eqPlace _ _ _).mono ?_; rintro e w2 ⟨rfl, hb2⟩; have hc2 := bcell hb2)
      all_goals
        go_wp2
        go_roundw
        case rel => exact ⟨k + 1, by omega, by go_num, by (repeat (first | with_reducible (first | assumption | exact Below.refl _ _ | refine bel_alloc ?_ _ | refine bel_drew ?_ | refine bel_drewN ?_ _ | refine bel_set ?_ (by first | omega | (simp; done) | (simp; omega)) _ | refine bel_trans ?_ (by assumption)) | assumption | refine bel_trans ?_ (by assumption)))⟩
        case measure => simp [intOf]; omega
    · go_wp2
      go_ret
      exact ⟨rfl, by (repeat (first | with_reducible (first | assumption | exact Below.refl _ _ | refine bel_alloc ?_ _ | refine bel_drew ?_ | refine bel_drewN ?_ _ | refine bel_set ?_ (by first | omega | (simp; done) | (simp; omega)) _ | refine bel_trans ?_ (by assumption)) | assumption | refine bel_trans ?_ (by assumption)))⟩
end Go.Proofs.YtcliagnongbkmaaDoor
