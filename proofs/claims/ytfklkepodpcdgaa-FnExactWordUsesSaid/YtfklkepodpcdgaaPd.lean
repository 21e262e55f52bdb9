/- The contracts of PackCodes in the specification. No condition but that the numbers are int's. -/
import Derived.Test.YtfklkepodpcdgaaPc
import Derived.Test.YtfklkepodpcdgaaBk
import Derived.Test.YtfklkepodpcdgaaBs
import Derived.Test.YtfklkepodpcdgaaUs
namespace Go.Proofs.Ytfklkepodpcdgaa
open Go.ChangeShapes Go.WideShapes Go.ChangeAt Go.RowKit Go.Joins
set_option linter.unusedVariables false
set_option linter.unusedSectionVars false

theorem nums_cell {w : World} {L b off cap : Nat} {l : List Int} (h : NumsAt w L (some ⟨b, off, none⟩) cap l) {i : Nat} {x : Int} (hx : l[i]? = some x) : w.cell? ⟨b, off + i, none⟩ = some (.int .i64 x) := by
  have := get_lt hx
  obtain ⟨b', off', e, _, hc⟩ := h.2.2.2 (by omega)
  simp at e
  obtain ⟨rfl, rfl⟩ := e
  exact hc i x hx
def PRel (k : Kn) (A : Option Addr) (cap : Nat) (codes Ws : List Int) (N : Nat) (A3 : Option Addr) (c3 : Nat) (w : World) (v i : Value) (wr : World) : Prop :=
  ∃ n : Nat, n ≤ N ∧ i = .int .i64 n ∧ Blk wr w.heap.size 55 #[.int .i64 k.o, .int .i64 k.l, .int .i64 k.m, .slice A k.ps.length cap, .int .i64 k.base, .int .i64 k.last] ∧ wr.ownsRow w.heap.size 3 1 (.slice A3 N c3) N (Ws.map iv) ∧
    wr.ownsRow w.heap.size 5 1 v (packL k.o (codes.take n) (Ws.take n)).length ((packL k.o (codes.take n) (Ws.take n)).map vb) ∧ Below w.heap.size w wr

theorem Kn.Ok.pack_ok {k : Kn} (h : k.Ok) {cs : List Int} (hg : k.good 0 cs = true) (hl : cs.length ≤ 3100) : (str (k.bits cs)).size ≤ 40000 ∧ (str (k.bits cs)).data.toList.all isBit = true := by
  have := h.bits_ok hg hl
  simp only [packOk, bitsOk, Bool.and_eq_true, decide_eq_true_eq] at this
  exact ⟨by omega, this.2.2⟩

theorem Kn.Ok.pack_eq {k : Kn} (h : k.Ok) (cs : List Int) : str (M.pack (!(k.o == 0)) (bitsL (str (k.bits cs)))) = k.packed cs := by
  have ho : orderOk k.o = true := orderOk_iff.2 (setOk_iff.1 h.set).1
  rw [not_zero ho]; rfl
section
variable (k : Kn) (A : Option Addr) (cap L : Nat) (w : World) (h : PsAt w L A cap k.ps) (hL : L ≤ w.heap.size) (A2 : Option Addr) (cap2 L2 : Nat) (codes : List Int) (hc : NumsAt w L2 A2 cap2 codes) (hL2 : L2 ≤ w.heap.size)

include h hL hc hL2

set_option maxHeartbeats 4000000 in
set_option maxRecDepth 100000 in
theorem c_l2Pack_yes (hk : CodesOk k codes) : Calls Try.prog 194 #[.agg #[.int .i64 k.o, .int .i64 k.l, .int .i64 k.m, .slice A k.ps.length cap, .int .i64 k.base, .int .i64 k.last], .slice A2 codes.length cap2] w fun e w' => e = .returned (.string (str (k.bits codes))) ∧ Below w.heap.size w w' := by
  obtain ⟨hk1, hk2, hk3⟩ := hk
  have HT := hid (fun (v : World) (hb : Below w.heap.size w v) => c_l2Walk_yes k A cap L v (h.below hb hL) (Nat.le_trans hL hb.size) A2 cap2 L2 codes (hc.below hb hL2) (Nat.le_trans hL2 hb.size) ⟨hk1, hk2, hk3⟩)
  unfold WYes at HT
  have kN := Blk.new w 55 #[.int .i64 k.o, .int .i64 k.l, .int .i64 k.m, .slice A k.ps.length cap, .int .i64 k.base, .int .i64 k.last]
  obtain ⟨p0, p1, p2, p3, p4, p5⟩ := kN.cells6
  have hord : k.o = 0 ∨ k.o = 1 := (setOk_iff.1 hk1.set).1
  have HE := hid (hk1.good_each hk3)
  have HBp := hid (bits_packL k codes)
  have HNm := hid hc
  have hwl : (k.widths codes).length = codes.length := Kn.widths_length k codes
  obtain ⟨Ws, hWs⟩ : ∃ Ws, Ws = k.widths codes := ⟨_, rfl⟩
  obtain ⟨Ds, hDs⟩ : ∃ Ds, Ds = str (k.dat codes) := ⟨_, rfl⟩
  simp only [← hWs, ← hDs] at HT
  rw [← hWs] at HE HBp hwl
  obtain ⟨N, hN⟩ : ∃ N, N = codes.length := ⟨_, rfl⟩
  have HL := hid hN
  have HWl := hid hwl
  rw [hwl, ← hN] at HT
  rw [← hN] at hk2 ⊢
  clear h hc hk1 hk3 hWs hDs hwl hN
  go_enter Try.func194, Try.ntmps194
  go_wp2_with fail
  have hB0 : Below w.heap.size w ((w.alloc (.cells #[.int .i64 k.o, .int .i64 k.l, .int .i64 k.m, .slice A k.ps.length cap, .int .i64 k.base, .int .i64 k.last] 55)).alloc (.cells #[] 5)) := by (repeat (first | with_reducible (first | assumption | exact Below.refl _ _ | refine bel_alloc ?_ _ | refine bel_drew ?_ | refine bel_drewN ?_ _ | refine bel_set ?_ (by first | omega | (simp; done) | (simp; omega)) _ | refine bel_trans ?_ (by assumption)) | assumption | refine bel_trans ?_ (by assumption)))
  have o5 : ((w.alloc (.cells #[.int .i64 k.o, .int .i64 k.l, .int .i64 k.m, .slice A k.ps.length cap, .int .i64 k.base, .int .i64 k.last] 55)).alloc (.cells #[] 5)).ownsRow w.heap.size 5 1 (.slice (some ⟨w.heap.size + 1, 0, none⟩) 0 0) 0 (([] : List UInt8).map vb) := by
    have h1 := World.ownsRow_made (e := 5) (size := 1) (base := w.heap.size) (w.alloc (.cells #[.int .i64 k.o, .int .i64 k.l, .int .i64 k.m, .slice A k.ps.length cap, .int .i64 k.base, .int .i64 k.last] 55)) #[] 0 (by rw [World.size_alloc]; omega) (by simp [maxLen]) rfl
    rw [World.size_alloc] at h1; exact h1
  have HO5 := hid o5
  clear o5
  refine (HT.out _ hB0).mono ?_
  rintro e w1 ⟨k', A', cap', A3, c3, rfl, ho3, hb1⟩
  have hB1 := bel_trans hB0 hb1
  have HO6 := hid (own_on HO5.out hb1)
  have kN1 := (kN.alloc (.cells #[] 5)).on hb1
  have HW0 := hid ho3
  have hz1 := hB1.size
  clear ho3 hb1 HO5 hB0 kN p0 p1 p2 p3 p4 p5
  go_wp2_with fail
  obtain ⟨W2, hW2⟩ : ∃ W2, W2 = w1.alloc (.cells #[.int .i64 k'.o, .int .i64 k'.l, .int .i64 k'.m, .slice A' k'.ps.length cap', .int .i64 k'.base, .int .i64 k'.last] 55) := ⟨_, rfl⟩
  rw [← hW2]
  have HI : Hid (PRel k A cap codes Ws N A3 c3 w (.slice (some ⟨w.heap.size + 1, 0, none⟩) 0 0) (.int .i64 0) W2) := hid (by
    refine ⟨0, Nat.zero_le _, rfl, by rw [hW2]; exact kN1.alloc _, ?_, ?_, by rw [hW2]; exact bel_alloc hB1 _⟩
    · rw [hW2]; exact (own_mono HW0.out (by simp only [World.size_alloc]; omega)).alloc _
    · rw [hW2]; simpa [packL] using HO6.out.alloc _)
  clear HO6 HW0 kN1 hB1 hz1 hW2
  go_loopw [5, 10] (fun v i wr => PRel k A cap codes Ws N A3 c3 w v i wr) (fun _ i _ => N - (intOf i).toNat)
  case atStart => exact HI.out
  case round =>
    obtain ⟨n, hnN, rfl, kb, hwr, hown, hbl⟩ := hrel
    clear HI
    obtain ⟨Lb, hLb⟩ : ∃ Lb, Lb = packL k.o (codes.take n) (Ws.take n) := ⟨_, rfl⟩
    rw [← hLb] at hown
    have HLb := hid hLb
    clear hLb
    have hLl : Lb.length ≤ 31000 := by
      have h1 := packL_len k.o (codes.take n) (Ws.take n) (fun x hx => by obtain ⟨i, hi⟩ := List.mem_iff_getElem?.1 (List.mem_of_mem_take hx); exact (HE.out.2 i x hi).2)
      rw [← HLb.out] at h1
      simp at h1
      omega
    obtain ⟨Ab, cb, rfl⟩ := own_sl hown
    have HO := hid hown
    have HWr := hid hwr
    clear hown hwr
    have hz := hbl.size
    by_cases hlt : n < N
    · have hlt2 : n < codes.length := by have := HL.out; omega
      have hlt3 : n < Ws.length := by rw [HWl.out]; exact hlt2
      obtain ⟨b, off, rfl, hb, hc0⟩ := int_at (HNm.out.below hbl hL2) n hlt2
      obtain ⟨b2, off2, rfl, hb2, hw0⟩ := int_at (own_ints_at HWr.out) n hlt3
      obtain ⟨c, hcd⟩ : ∃ c, c = codes[n] := ⟨_, rfl⟩
      obtain ⟨x, hxd⟩ : ∃ x, x = Ws[n] := ⟨_, rfl⟩
      have hcb := HE.out.1 n c (by rw [hcd]; exact List.getElem?_eq_getElem hlt2)
      have hxb := HE.out.2 n x (by rw [hxd]; exact List.getElem?_eq_getElem hlt3)
      have HSn := hid (packL_snoc k.o codes Ws n c x (by rw [hcd]; exact List.getElem?_eq_getElem hlt2) (by rw [hxd]; exact List.getElem?_eq_getElem hlt3))
      have HCd := hid (fun (v : World) => c_l1Code k.o c x v hord hcb.1 (by omega) (by omega) (by omega))
      obtain ⟨D, hD⟩ : ∃ D, D = codeBitsS k.o c x := ⟨_, rfl⟩
      have hDs : D.size = x.toNat := by rw [hD, codeBitsS, str_size, codeBits_len]
      have HDl := hid (show D.data.toList = M.codeBits (k.o == 1) c.toNat x.toNat by rw [hD, codeBitsS, str_list])
      rw [← hD] at HCd
      have HXg := hid (show Ws[n]? = some x by rw [hxd]; exact List.getElem?_eq_getElem hlt3)
      rw [← hcd] at hc0
      rw [← hxd] at hw0
      clear hcd hxd hlt2 hlt3 hD
      obtain ⟨p0, p1, p2, p3, p4, p5⟩ := kb.cells6
      have hS := s3_mk p0 hc0 hw0 hbl
      go_wp2_with fail
      refine wp_region_noPanic ?_
      refine wp_region_held_drew (S := (fun v => v.cell? ⟨w.heap.size, 0, none⟩ = some (.int .i64 k.o) ∧ v.cell? ⟨b, off + n, none⟩ = some (.int .i64 c) ∧ v.cell? ⟨b2, off2 + n, none⟩ = some (.int .i64 x) ∧ Below w.heap.size w v)) (by kernel_rfl) (s3_drew hS) (fun hHeld => ?_)
      refine tk 0 ?_
      refine tk 1 ?_
      refine tk 2 ?_
      refine tk 3 ?_
      refine tk 4 ?_
      refine tk 5 ?_
      refine tk 6 ?_
      refine tk 7 ?_
      refine tk 8 ?_
      refine tk 9 ?_
      refine tk 10 ?_
      refine tk 11 ?_
      refine wpAnyH_ready (rs := [12]) (by kernel_rfl) (by simp) ?_
      refine AllReadyH.cons (o := ?or1_12) ?ir1_12 (fun K hK => ?sr1_12) AllReadyH.nil
      case ir1_12 => (simp only [List.getElem?_toArray, List.getElem?_cons_succ, List.getElem?_cons_zero]; rfl)
      (first | ((refine step_str (by rfl) (.tmp 26) (.tmp 38) 128 9 (by rfl) w.heap.size 5 Try.underlying128 Try.underlying9 Try.info_u8w _ Lb.length Lb (by rfl) (own_on HO.out.drew hb3) D (by rfl) (by omega) (by have := hb3.size; exact Nat.le_trans hz this) ?_; intro v9 w9 hown9 hb9 hg9; have kb9 := (kb.drew.on hb3).grown hg9 (apart_ne (own_apart_blk (own_on HO.out.drew hb3) (kb.drew.on hb3) tykn_tu) rfl); have HW9 := hid ((own_on HWr.out.drew hb3).kept hg9 (own_apart (own_on HWr.out.drew hb3) (own_on HO.out.drew hb3) tyne_iu)); have hB9 : Below w.heap.size w w9 := (bel_trans (bel_drew hbl) hb3).trans hb9; obtain ⟨A9, c9, rfl⟩ := own_sl hown9; obtain ⟨r0, r1, r2, r3, r4, r5⟩ := kb9.cells6; have hc9 := cell_on (cell_on hc0 (bel_trans (bel_drew (Below.refl _ wr)) hb3) (show b < _ by omega)) hb9 (show b < _ by omega); have hw9 := nums_cell (own_ints_at HW9.out) HXg.out)) | (go_simp; (first | (go_at_call 170; refine (HCd.out _).mono ?_; rintro e w3 ⟨rfl, hb3⟩) | skip)))
      refine hK.out _ _ ?kr1_12 (fun hHeld => ?_)
      case kr1_12 => (try dsimp only); (first | with_reducible assumption | with_reducible exact s3_mk r0 hc9 hw9 hB9 | exact s3_bel (by assumption) (by assumption) | assumption | exact s3_alloc (by assumption) _ | exact s3_mk r0 hc9 hw9 hB9)
      clear hK K
      try simp only [Act.put, List.setIfInBounds_toArray, List.set_cons_zero, List.set_cons_succ]
      refine wpAnyH_ready (rs := [13]) (by kernel_rfl) (by simp) ?_
      refine AllReadyH.cons (o := ?or1_13) ?ir1_13 (fun K hK => ?sr1_13) AllReadyH.nil
      case ir1_13 => (simp only [List.getElem?_toArray, List.getElem?_cons_succ, List.getElem?_cons_zero]; rfl)
      (first | ((refine step_str (by rfl) (.tmp 26) (.tmp 38) 128 9 (by rfl) w.heap.size 5 Try.underlying128 Try.underlying9 Try.info_u8w _ Lb.length Lb (by rfl) (own_on HO.out.drew hb3) D (by rfl) (by omega) (by have := hb3.size; exact Nat.le_trans hz this) ?_; intro v9 w9 hown9 hb9 hg9; have kb9 := (kb.drew.on hb3).grown hg9 (apart_ne (own_apart_blk (own_on HO.out.drew hb3) (kb.drew.on hb3) tykn_tu) rfl); have HW9 := hid ((own_on HWr.out.drew hb3).kept hg9 (own_apart (own_on HWr.out.drew hb3) (own_on HO.out.drew hb3) tyne_iu)); have hB9 : Below w.heap.size w w9 := (bel_trans (bel_drew hbl) hb3).trans hb9; obtain ⟨A9, c9, rfl⟩ := own_sl hown9; obtain ⟨r0, r1, r2, r3, r4, r5⟩ := kb9.cells6; have hc9 := cell_on (cell_on hc0 (bel_trans (bel_drew (Below.refl _ wr)) hb3) (show b < _ by omega)) hb9 (show b < _ by omega); have hw9 := nums_cell (own_ints_at HW9.out) HXg.out)) | (go_simp; (first | (go_at_call 170; refine (HCd.out _).mono ?_; rintro e w3 ⟨rfl, hb3⟩) | skip)))
      refine hK.out _ _ ?kr1_13 (fun hHeld => ?_)
      case kr1_13 => (try dsimp only); (first | with_reducible assumption | with_reducible exact s3_mk r0 hc9 hw9 hB9 | exact s3_bel (by assumption) (by assumption) | assumption | exact s3_alloc (by assumption) _ | exact s3_mk r0 hc9 hw9 hB9)
      clear hK K
      try simp only [Act.put, List.setIfInBounds_toArray, List.set_cons_zero, List.set_cons_succ]
      refine tk 14 ?_
      refine wpAnyH_done (by kernel_rfl) ?_ _
      refine NoPanic.normal ?_
      have HR := hid (show w9.ownsRow w.heap.size 5 1 (.slice A9 (Lb.length + x.toNat) c9) (packL k.o (codes.take (n + 1)) (Ws.take (n + 1))).length ((packL k.o (codes.take (n + 1)) (Ws.take (n + 1))).map vb) by
        have h9 := hown9
        rw [HDl.out, hDs] at h9
        rw [HSn.out, ← HLb.out, List.length_append, codeBits_len]
        exact h9)
      clear hS hHeld hown9 hb9 hb3 hg9
      go_wp2
      go_roundw
      case rel => exact ⟨n + 1, by omega, by go_num, kb9, HW9.out, HR.out, hB9⟩
      case measure => simp [intOf]; omega
    · have hnn : n = N := by omega
      have HB := hid (show Lb = k.bits codes by rw [HLb.out, HBp.out, hnn, HL.out, List.take_length, ← HWl.out, List.take_length])
      have hcv := run_own_str (P := Try.prog) Try.underlying128 Try.underlying5 Try.underlying9 HO.out
      go_wp2
      go_ret
      exact ⟨by rw [HB.out]; rfl, hbl⟩

end
end Go.Proofs.Ytfklkepodpcdgaa
