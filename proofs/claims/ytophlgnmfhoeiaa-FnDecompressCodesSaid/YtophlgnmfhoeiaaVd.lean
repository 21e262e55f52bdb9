/- The walk of the law on the data of a stream. -/
import Derived.Test.YtophlgnmfhoeiaaVk
import Derived.Test.YtophlgnmfhoeiaaDe
import Derived.Test.YtophlgnmfhoeiaaBj
import Derived.Test.YtophlgnmfhoeiaaPc
import Derived.Test.YtophlgnmfhoeiaaPd
import Derived.Test.YtophlgnmfhoeiaaRp
import Derived.Test.YtophlgnmfhoeiaaBs
namespace Go.Proofs.Ytophlgnmfhoeiaa
open Go.ChangeShapes Go.WideShapes Go.ChangeAt Go.RowKit Go.Joins
set_option linter.unusedVariables false

theorem Kn.Ok.dat_lt {k : Kn} (h : k.Ok) {n : Nat} {cs : List Int} (hg : k.good n cs = true) : ∀ b ∈ k.dat cs, (b.toNat : Int) < k.c := by
  induction cs generalizing k n with
  | nil => intro b hb; simp [Kn.dat] at hb
  | cons code t ih =>
    intro b hb
    rw [Kn.dat, List.mem_append] at hb
    by_cases h1 : code = k.c + 1
    · subst h1
      rw [Kn.good_end] at hg
      have : t = [] := by simpa using hg
      subst this
      rw [Kn.part_none _ _ (.inr rfl)] at hb
      simp [Kn.dat] at hb
    · have hs := h.good_step hg h1
      rcases hb with hb | hb
      · by_cases h2 : code = k.c
        · rw [Kn.part_none _ _ (.inl h2)] at hb; cases hb
        · rw [Kn.good_code _ _ _ _ h2 h1] at hg
          simp only [Bool.and_eq_true, decide_eq_true_eq] at hg
          rw [Kn.part_code _ _ h2 h1] at hb
          exact h.any_lt hg.1 b hb
      · have := ih hs.1 hs.2.2.2 b hb
        rw [Kn.step_c] at this; exact this
theorem Kn.Ok.dat_fits {k : Kn} (h : k.Ok) {cs : List Int} (hg : k.good 0 cs = true) : dataFits k.o k.l k.m (str (k.dat cs)) = true := by
  have h1 := h.dat_len (n := 0) (by omega) hg
  have h2 := h.dat_lt hg
  rw [dataFits, h.set, str_size, str_list]
  have h3 : (k.dat cs).all (ltc (pow2 k.l)) = true := by
    rw [List.all_eq_true]
    intro b hb
    exact decide_eq_true (h2 b hb)
  rw [h3]; simp; omega

set_option maxHeartbeats 4000000 in
set_option maxRecDepth 100000 in
theorem walk_FnDecompressCodes (A' : Option Addr) (n cap : Nat) (w : World) (hc : CodeAt w w.heap.size A' n cap) : Calls Try.prog 12 #[.slice A' n cap] w fun e w' => e = .returned (.bool true) ∧ Below w.heap.size w w' := by
  by_cases big : 1048576 < n
  · have h1 := hc.1
    have h2 := hc.2.1
    unfold maxLen at h2
    go_enter Try.func12, Try.ntmps12
    go_wp2_with fail
    go_ret
    exact ⟨rfl, by (repeat (first | with_reducible (first | assumption | exact Below.refl _ _ | refine bel_alloc ?_ _ | refine bel_drew ?_ | refine bel_drewN ?_ _ | refine bel_set ?_ (by first | omega | (simp; done) | (simp; omega)) _ | refine bel_trans ?_ (by assumption)) | assumption | refine bel_trans ?_ (by assumption)))⟩
  · go_enter Try.func12, Try.ntmps12
    go_wp2_with fail
    refine (c_DrawDecompress _ _ _ _ hc).mono ?_
    rintro e w1 ⟨k, A, cp, s, rfl, hw, hl, hs, ho, b1⟩
    have HZ := hid (KB.new ho)
    have c1 := bel_alloc b1 (.cells #[.int .i64 k.o, .int .i64 k.l, .int .i64 k.m, .slice A k.ps.length cp, .int .i64 k.base, .int .i64 k.last] 32)
    clear ho b1 hc
    obtain ⟨p0, p1, p2, p3, p4, p5⟩ := HZ.out.bx.cells6
    have hsm : s.size ≤ maxLen := by unfold maxLen; omega
    by_cases hk : UnpOk k s
    · skip
      have H1 := hid (fun (v : World) (h : KB w1.heap.size w1.heap.size k A cp v) => c_Decompress_yes k A cp _ v h.ps h.le hw s hk)
      have H2 := hid (fun (v : World) (h : KB w1.heap.size w1.heap.size k A cp v) => c_sDecompress_yes k A cp _ v h.ps h.le hw s hk)
      have H3 := hid (fun (v : World) (h : KB w1.heap.size w1.heap.size k A cp v) => c_UnpackCodes_yes k A cp _ v h.ps h.le hw s hk)
      have hgood := Kn.uc_good hk.1 s
      have hlen := Kn.uc_len hk.1 s
      have hfit := hk.1.dat_fits hgood
      have hdl := hk.1.dat_len (n := 0) (by omega) hgood
      have HOk := hid (show CodesOk k (k.uc s) from ⟨hk.1, hlen, hgood⟩)
      obtain ⟨CS, hCS⟩ : ∃ CS, CS = k.uc s := ⟨_, rfl⟩
      rw [← hCS] at H1 H2 H3 HOk hfit hdl hlen
      obtain ⟨D, hD⟩ : ∃ D, D = str (k.dat CS) := ⟨_, rfl⟩
      have hDs : D.size ≤ 2000 := by rw [hD, str_size]; omega
      rw [← hD] at H1 H2 hfit
      obtain ⟨E, hE⟩ : ∃ E, E = k.ue s := ⟨_, rfl⟩
      obtain ⟨U, hU⟩ : ∃ U, U = k.uu s := ⟨_, rfl⟩
      rw [← hE, ← hU] at H1 H2 H3
      have H4 := hid (fun (v : World) (h : KB w1.heap.size w1.heap.size k A cp v) (A2 : Option Addr) (c2 : Nat) (hn : NumsAt v v.heap.size A2 c2 CS) => c_CodesData_yes k A cp _ v h.ps h.le hw A2 c2 v.heap.size CS hn (Nat.le_refl _) (by omega) HOk.out)
      rw [← hD] at H4
      have H5 := hid (fun (v : World) => c_DataFits k.o k.l k.m D v (by unfold maxLen; omega))
      rw [hfit] at H5
      clear hk hw hsm hgood hfit hdl hCS hD hE hU
      by_cases hE4 : E = 4
      · skip
        subst hE4
        go_wp2_with fail
        refine (H1.out _ HZ.out).mono ?_
        rintro e w2 ⟨rfl, hb2⟩
        replace HZ := hid (HZ.out.on hb2)
        have c2 := bel_trans c1 hb2
        clear p0 p1 p2 p3 p4 p5
        obtain ⟨p0, p1, p2, p3, p4, p5⟩ := HZ.out.bx.cells6
        go_wp2_with fail
        refine (H2.out _ HZ.out).mono ?_
        rintro e w3 ⟨rfl, hb3⟩
        replace HZ := hid (HZ.out.on hb3)
        have c3 := bel_trans c2 hb3
        clear p0 p1 p2 p3 p4 p5
        obtain ⟨p0, p1, p2, p3, p4, p5⟩ := HZ.out.bx.cells6
        go_wp2
        go_ret
        exact ⟨rfl, by (repeat (first | with_reducible (first | assumption | exact Below.refl _ _ | refine bel_alloc ?_ _ | refine bel_drew ?_ | refine bel_drewN ?_ _ | refine bel_set ?_ (by first | omega | (simp; done) | (simp; omega)) _ | refine bel_trans ?_ (by assumption)) | assumption | refine bel_trans ?_ (by assumption)))⟩
      · skip
        have e4 : (E == 4) = false := eq_no (by omega)
        clear hE4
        go_wp2_with fail
        refine (H1.out _ HZ.out).mono ?_
        rintro e w2 ⟨rfl, hb2⟩
        replace HZ := hid (HZ.out.on hb2)
        have c2 := bel_trans c1 hb2
        clear p0 p1 p2 p3 p4 p5
        obtain ⟨p0, p1, p2, p3, p4, p5⟩ := HZ.out.bx.cells6
        go_wp2_with fail
        refine (H2.out _ HZ.out).mono ?_
        rintro e w3 ⟨rfl, hb3⟩
        replace HZ := hid (HZ.out.on hb3)
        have c3 := bel_trans c2 hb3
        clear p0 p1 p2 p3 p4 p5
        obtain ⟨p0, p1, p2, p3, p4, p5⟩ := HZ.out.bx.cells6
        go_wp2_with fail
        refine (H3.out _ HZ.out).mono ?_
        rintro e w4 ⟨A2, c2, rfl, ho4, hb4⟩
        replace HZ := hid (HZ.out.on hb4)
        have c4 := bel_trans c3 hb4
        clear p0 p1 p2 p3 p4 p5
        obtain ⟨p0, p1, p2, p3, p4, p5⟩ := HZ.out.bx.cells6
        have HN := hid (own_ints_at ho4)
        clear ho4 hb4
        go_wp2_with fail
        refine (H4.out _ HZ.out A2 c2 HN.out).mono ?_
        rintro e w5 ⟨rfl, hb5⟩
        replace HZ := hid (HZ.out.on hb5)
        have c5 := bel_trans c4 hb5
        clear p0 p1 p2 p3 p4 p5
        obtain ⟨p0, p1, p2, p3, p4, p5⟩ := HZ.out.bx.cells6
        clear hb5
        go_wp2_with fail
        refine (H5.out _).mono ?_
        rintro e w6 ⟨rfl, hb6⟩
        replace HZ := hid (HZ.out.on hb6)
        have c6 := bel_trans c5 hb6
        clear p0 p1 p2 p3 p4 p5
        obtain ⟨p0, p1, p2, p3, p4, p5⟩ := HZ.out.bx.cells6
        go_wp2
        go_ret
        exact ⟨rfl, by (repeat (first | with_reducible (first | assumption | exact Below.refl _ _ | refine bel_alloc ?_ _ | refine bel_drew ?_ | refine bel_drewN ?_ _ | refine bel_set ?_ (by first | omega | (simp; done) | (simp; omega)) _ | refine bel_trans ?_ (by assumption)) | assumption | refine bel_trans ?_ (by assumption)))⟩
    · skip
      have H1 := hid (fun (v : World) (h : KB w1.heap.size w1.heap.size k A cp v) => c_Decompress_no k A cp _ v h.ps h.le hw s hsm hk)
      have H2 := hid (fun (v : World) (h : KB w1.heap.size w1.heap.size k A cp v) => c_sDecompress_no k A cp _ v h.ps h.le hw s hsm hk)
      clear hk hw hsm
      go_wp2_with fail
      refine (H1.out _ HZ.out).mono ?_
      rintro e w2 ⟨rfl, hb2⟩
      replace HZ := hid (HZ.out.on hb2)
      have c2 := bel_trans c1 hb2
      clear p0 p1 p2 p3 p4 p5
      obtain ⟨p0, p1, p2, p3, p4, p5⟩ := HZ.out.bx.cells6
      go_wp2_with fail
      refine (H2.out _ HZ.out).mono ?_
      rintro e w3 ⟨rfl, hb3⟩
      replace HZ := hid (HZ.out.on hb3)
      have c3 := bel_trans c2 hb3
      clear p0 p1 p2 p3 p4 p5
      obtain ⟨p0, p1, p2, p3, p4, p5⟩ := HZ.out.bx.cells6
      go_wp2
      go_ret
      exact ⟨rfl, by (repeat (first | with_reducible (first | assumption | exact Below.refl _ _ | refine bel_alloc ?_ _ | refine bel_drew ?_ | refine bel_drewN ?_ _ | refine bel_set ?_ (by first | omega | (simp; done) | (simp; omega)) _ | refine bel_trans ?_ (by assumption)) | assumption | refine bel_trans ?_ (by assumption)))⟩
end Go.Proofs.Ytophlgnmfhoeiaa
