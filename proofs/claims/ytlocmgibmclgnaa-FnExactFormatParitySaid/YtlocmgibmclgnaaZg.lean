/- The walk of FnExactFormatParity. No condition. -/
import Derived.Test.YtlocmgibmclgnaaZf
namespace Go.Proofs.Ytlocmgibmclgnaa
open Go.ChangeShapes Go.WideShapes Go.ChangeAt Go.RowKit Go.Joins
set_option linter.unusedVariables false
set_option linter.unusedSimpArgs false

theorem walk_FnExactFormatParity (l : List ByteArray) (A : Option Addr) (cap : Nat) (w : World) (h : StrsAt w w.heap.size A cap l) (hS : StrsB l) :
    Calls Try.prog 6 #[.slice A l.length cap] w fun e w' => e = .returned (.bool true) ∧ Below w.heap.size w w' := by
  by_cases big : (1048576 : Int) < l.length + tot l
  · go_enter Try.func6, Try.ntmps6
    go_wp2_with fail
    refine (c_szStringS_no A cap l w.heap.size 1048576 _ h hS (Nat.le_refl _) (by omega) (by omega) big).mono ?_
    rintro e w1 ⟨rfl, rfl⟩
    go_wp2
    go_ret
    exact ⟨rfl, by (repeat (first | with_reducible (first | assumption | exact Below.refl _ _ | refine bel_alloc ?_ _ | refine bel_drew ?_ | refine bel_drewN ?_ _ | refine bel_set ?_ (by first | omega | (simp; done) | (simp; omega)) _ | refine bel_trans ?_ (by assumption)) | assumption | refine bel_trans ?_ (by assumption)))⟩
  · have hn : l.length ≤ 1048576 := by omega
    have hs : ∀ s ∈ l, s.size ≤ 1048576 := fun s hs => by have := size_le_tot l s hs; omega
    obtain ⟨F, hF⟩ : ∃ F : Int, F = 1048576 - l.length - tot l := ⟨_, rfl⟩
    have hF0 : ¬ F < 0 := by omega
    have HZ := hid (fun (v : World) => by have := c_szStringS_yes A cap l w.heap.size 1048576 v; rw [← hF] at this; exact this)
    have HI := hid (fun (A : Option Addr) (cap L : Nat) (v : World) (h : StrsAt v L A cap l) (hL : L ≤ v.heap.size) => c_FormatParity A cap l L v h hL hn hs)
    have HJ := hid (fun (A : Option Addr) (cap L : Nat) (v : World) (h : StrsAt v L A cap l) (hL : L ≤ v.heap.size) => c_sFormatParity A cap l L v h hL hn hs)
    have HB := hid (show l.length + tot l ≤ (1048576 : Int) by omega)
    obtain ⟨Z, hZ⟩ : ∃ Z, Z = fpV l := ⟨_, rfl⟩
    rw [← hZ] at HI HJ
    clear hF big hs hZ
    have HH := hid h
    clear h
    go_enter Try.func6, Try.ntmps6
    go_wp2_with fail
    refine (HZ.out _ HH.out (Nat.le_refl _) (by omega) HB.out).mono ?_
    rintro e w0 ⟨rfl, rfl⟩
    go_wp2_with fail
    refine (c_toStringS A cap l _ _ HH.out (Nat.le_refl _) hn).mono ?_
    rintro e w1 ⟨g1, rfl, hown1, hb1⟩
    go_wp2_with fail
    refine (HJ.out _ _ _ _ (own_strs_at hown1) (Nat.le_refl _)).mono ?_
    rintro e w2 ⟨rfl, hb2⟩
    have k2 := hb1.trans (hb2.mono hb1.size)
    have s2 := k2.size
    clear hown1 hb1 hb2
    go_wp2_with fail
    refine (c_toStringS A cap l _ _ (HH.out.below k2 (Nat.le_refl _)) s2 hn).mono ?_
    rintro e w3 ⟨g3, rfl, hown3, hb3⟩
    have r3 := own_strs_at hown3
    have k3 := k2.trans (hb3.mono s2)
    have s3 := k3.size
    clear hown3 hb3 k2 s2
    go_wp2_with fail
    refine (HI.out _ _ _ _ r3 (Nat.le_refl _)).mono ?_
    rintro e w4 ⟨rfl, hb4⟩
    have k4 := k3.trans (hb4.mono s3)
    have s4 := k4.size
    have z4 := hb4.size
    have r4 := r3.below hb4 (Nat.le_refl _)
    clear r3 hb4 k3
    go_wp2_with fail
    refine (c_toStringS A cap l _ _ (HH.out.below k4 (Nat.le_refl _)) s4 hn).mono ?_
    rintro e w5 ⟨g5, rfl, hown5, hb5⟩
    have r5 := own_strs_at hown5
    have k5 := k4.trans (hb5.mono s4)
    have s5 := k5.size
    have z5 := hb5.size
    have q4 := r4.below hb5 z4
    clear hown5 hb5 k4 r4
    go_wp2_with fail
    refine (c_eqStringS _ _ _ _ l _ _ _ q4 r5 (by omega) (Nat.le_refl _) hn).mono ?_
    rintro e w6 ⟨rfl, hb6⟩
    have k6 := k5.trans (hb6.mono s5)
    clear hb6 k5
    go_wp2
    go_ret
    exact ⟨rfl, by (repeat (first | with_reducible (first | assumption | exact Below.refl _ _ | refine bel_alloc ?_ _ | refine bel_drew ?_ | refine bel_drewN ?_ _ | refine bel_set ?_ (by first | omega | (simp; done) | (simp; omega)) _ | refine bel_trans ?_ (by assumption)) | assumption | refine bel_trans ?_ (by assumption)))⟩
end Go.Proofs.Ytlocmgibmclgnaa
