/- The contract of PackCodes in the program. No condition but that the numbers are int's. -/
import Derived.Test.YtblmifbpoopbdaaBk
import Derived.Test.YtblmifbpoopbdaaBj
namespace Go.Proofs.Ytblmifbpoopbdaa
open Go.ChangeShapes Go.WideShapes Go.ChangeAt Go.RowKit Go.Joins
set_option linter.unusedVariables false
set_option linter.unusedSectionVars false

theorem s3_mk {v v0 : World} {a0 a1 a2 : Addr} {x0 x1 x2 : Value} (h0 : v.cell? a0 = some x0) (h1 : v.cell? a1 = some x1) (h2 : v.cell? a2 = some x2) (hb : Below v0.heap.size v0 v) : v.cell? a0 = some x0 ∧ v.cell? a1 = some x1 ∧ v.cell? a2 = some x2 ∧ Below v0.heap.size v0 v := ⟨h0, h1, h2, hb⟩
section
variable (k : Kn) (A : Option Addr) (cap L : Nat) (w : World) (h : PsAt w L A cap k.ps) (hL : L ≤ w.heap.size) (hw : k.Wf) (A2 : Option Addr) (cap2 L2 : Nat) (codes : List Int) (hc : NumsAt w L2 A2 cap2 codes) (hL2 : L2 ≤ w.heap.size)
include h hL hw hc hL2
theorem c_PackCodes_no (hn : codes.length ≤ 1048576) (hk : ¬ CodesOk k codes) : Calls Try.prog 137 #[.agg #[.int .i64 k.o, .int .i64 k.l, .int .i64 k.m, .slice A k.ps.length cap, .int .i64 k.base, .int .i64 k.last], .slice A2 codes.length cap2] w fun e w' => e = .returned (.tuple #[.string ByteArray.empty, .bool false]) ∧ Below w.heap.size w w' := by
  have HT := hid (fun (v : World) (hb : Below w.heap.size w v) => c_trailOf_no k A cap L v (h.below hb hL) (Nat.le_trans hL hb.size) hw A2 cap2 L2 codes (hc.below hb hL2) (Nat.le_trans hL2 hb.size) hn hk)
  obtain ⟨p0, p1, p2, p3, p4, p5⟩ := (Blk.new w 27 #[.int .i64 k.o, .int .i64 k.l, .int .i64 k.m, .slice A k.ps.length cap, .int .i64 k.base, .int .i64 k.last]).cells6
  clear h hc hw hk
  go_enter Try.func137, Try.ntmps137
  go_wp2_with fail
  refine (HT.out _ (by (repeat (first | with_reducible (first | assumption | exact Below.refl _ _ | refine bel_alloc ?_ _ | refine bel_drew ?_ | refine bel_drewN ?_ _ | refine bel_set ?_ (by first | omega | (simp; done) | (simp; omega)) _ | refine bel_trans ?_ (by assumption)) | assumption | refine bel_trans ?_ (by assumption))))).mono ?_
  rintro e w1 ⟨rfl, hb1⟩
  go_wp2
  go_ret2
  exact ⟨rfl, by (repeat (first | with_reducible (first | assumption | exact Below.refl _ _ | refine bel_alloc ?_ _ | refine bel_drew ?_ | refine bel_drewN ?_ _ | refine bel_set ?_ (by first | omega | (simp; done) | (simp; omega)) _ | refine bel_trans ?_ (by assumption)) | assumption | refine bel_trans ?_ (by assumption)))⟩

set_option maxHeartbeats 4000000 in
set_option maxRecDepth 100000 in
theorem c_PackCodes_yes (hk : CodesOk k codes) : Calls Try.prog 137 #[.agg #[.int .i64 k.o, .int .i64 k.l, .int .i64 k.m, .slice A k.ps.length cap, .int .i64 k.base, .int .i64 k.last], .slice A2 codes.length cap2] w fun e w' => e = .returned (.tuple #[.string (k.packed codes), .bool true]) ∧ Below w.heap.size w w' := by
  obtain ⟨hk1, hk2, hk3⟩ := hk
  have HT := hid (fun (v : World) (hb : Below w.heap.size w v) => c_trailOf_yes k A cap L v (h.below hb hL) (Nat.le_trans hL hb.size) hw A2 cap2 L2 codes (hc.below hb hL2) (Nat.le_trans hL2 hb.size) (by omega) ⟨hk1, hk2, hk3⟩)
  have kN := Blk.new w 27 #[.int .i64 k.o, .int .i64 k.l, .int .i64 k.m, .slice A k.ps.length cap, .int .i64 k.base, .int .i64 k.last]
  obtain ⟨p0, p1, p2, p3, p4, p5⟩ := kN.cells6
  have hord : k.o = 0 ∨ k.o = 1 := (setOk_iff.1 hk1.set).1
  have HE := hid (hk1.good_each hk3)
  have HOk := hid (hk1.bits_ok hk3 hk2)
  have HBp := hid (bits_packL k codes)
  have hwl : (k.widths codes).length = codes.length := Kn.widths_length k codes
  obtain ⟨Ws, hWs⟩ : ∃ Ws, Ws = k.widths codes := ⟨_, rfl⟩
  rw [← hWs] at HE HBp hwl
  have HWs := hid hWs
  have HPk := hid (show k.packed codes = packS k.o (str (k.bits codes)) from rfl)
  obtain ⟨N, hN⟩ : ∃ N, N = codes.length := ⟨_, rfl⟩
  have HL := hid hN
  have HWl := hid hwl
  rw [← hN] at hk2 HT ⊢
  clear h hc hw hk1 hk3 hWs hwl hN
  go_enter Try.func137, Try.ntmps137
  go_wp2_with fail
  refine (HT.out _ (by (repeat (first | with_reducible (first | assumption | exact Below.refl _ _ | refine bel_alloc ?_ _ | refine bel_drew ?_ | refine bel_drewN ?_ _ | refine bel_set ?_ (by first | omega | (simp; done) | (simp; omega)) _ | refine bel_trans ?_ (by assumption)) | assumption | refine bel_trans ?_ (by assumption))))).mono ?_
  rintro e w1 ⟨g, T, rfl, ⟨A1, c1, vc, vw, vd, hT⟩, hTo, hTc, hTw, hTd, hb1⟩
  have oc := hT.cs
  have ow := hT.ws
  rw [hTc] at oc
  rw [hTw, ← HWs.out] at ow
  obtain ⟨Ac, cc, rfl⟩ := own_sl oc
  obtain ⟨Aw, cw, rfl⟩ := own_sl ow
  have HC := hid (own_ints_at oc)
  have HW := hid (own_ints_at ow)
  have kT := hT.blk
  have q8 := kT.cell 8
  have q9 := kT.cell 9
  have kN1 := kN.on hb1
  have hB1 : Below w.heap.size w w1 := by (repeat (first | with_reducible (first | assumption | exact Below.refl _ _ | refine bel_alloc ?_ _ | refine bel_drew ?_ | refine bel_drewN ?_ _ | refine bel_set ?_ (by first | omega | (simp; done) | (simp; omega)) _ | refine bel_trans ?_ (by assumption)) | assumption | refine bel_trans ?_ (by assumption)))
  have hg1 := kT.lt
  have hn1 := kN1.lt
  simp only [List.getElem?_toArray, List.getElem?_cons_succ, List.getElem?_cons_zero] at q8 q9
  rw [← HL.out] at q8
  rw [HWl.out, ← HL.out] at q9
  have q0 := kN1.cell 0
  simp only [List.getElem?_toArray, List.getElem?_cons_zero] at q0
  clear hT hTo hTc hTw hTd oc ow kT p0 p1 p2 p3 p4 p5 hb1 kN kN1
  go_wp2_with fail
  go_loopw [8, 24] (fun v i wr => ∃ n : Nat, n ≤ N ∧ i = .int .i64 n ∧ wr.ownsRow w1.heap.size 5 1 v (packL k.o (codes.take n) (Ws.take n)).length ((packL k.o (codes.take n) (Ws.take n)).map vb) ∧ Below w1.heap.size w1 wr) (fun _ i _ => N - (intOf i).toNat)
  case atStart => exact ⟨0, Nat.zero_le _, rfl, by simpa [packL] using own_nil w1 w1.heap.size 5, Below.refl _ _⟩
  case round =>
    obtain ⟨n, hnN, rfl, hown, hbl⟩ := hrel
    obtain ⟨Lb, hLb⟩ : ∃ Lb, Lb = packL k.o (codes.take n) (Ws.take n) := ⟨_, rfl⟩
    rw [← hLb] at hown
    have HLb := hid hLb
    clear hLb
    have hLl : Lb.length ≤ 31000 := by
      have h1 := packL_len k.o (codes.take n) (Ws.take n) (fun x hx => by obtain ⟨i, hi⟩ := List.mem_iff_getElem?.1 (List.mem_of_mem_take hx); exact (HE.out.2 i x hi).2)
      rw [← HLb.out] at h1
      simp at h1
      omega
    obtain ⟨Ab, cb, rfl⟩ := own_sl hown
    have HO := hid hown
    clear hown
    have r8 := cell_on q8 hbl (show g < _ from hg1)
    have r9 := cell_on q9 hbl (show g < _ from hg1)
    have r0 := cell_on q0 hbl (show w.heap.size < _ from hn1)
    have hz := hbl.size
    by_cases hlt : n < N
    · have hlt2 : n < codes.length := by have := HL.out; omega
      have hlt3 : n < Ws.length := by rw [HWl.out]; exact hlt2
      obtain ⟨b, off, rfl, hb, hc0⟩ := int_at (HC.out.below hbl (Nat.le_refl _)) n hlt2
      obtain ⟨b2, off2, rfl, hb2, hw0⟩ := int_at (HW.out.below hbl (Nat.le_refl _)) n hlt3
      obtain ⟨c, hcd⟩ : ∃ c, c = codes[n] := ⟨_, rfl⟩
      obtain ⟨x, hxd⟩ : ∃ x, x = Ws[n] := ⟨_, rfl⟩
      have hcb := HE.out.1 n c (by rw [hcd]; exact List.getElem?_eq_getElem hlt2)
      have hxb := HE.out.2 n x (by rw [hxd]; exact List.getElem?_eq_getElem hlt3)
      have HSn := hid (packL_snoc k.o codes Ws n c x (by rw [hcd]; exact List.getElem?_eq_getElem hlt2) (by rw [hxd]; exact List.getElem?_eq_getElem hlt3))
      have HDl := hid (dl_codeBits k.o c x hord hcb.1)
      rw [← hcd] at hc0
      rw [← hxd] at hw0
      clear hcd hxd hlt2 hlt3
      have hS := s3_mk r0 r9 hw0 hbl
      go_wp2_with fail
      refine wp_region_noPanic ?_
      refine wp_region_held_drew (S := (fun v => v.cell? ⟨w.heap.size, 0, none⟩ = some (.int .i64 k.o) ∧ v.cell? ⟨g, 9, none⟩ = some (.slice (some ⟨b2, off2, none⟩) N cw) ∧ v.cell? ⟨b2, off2 + n, none⟩ = some (.int .i64 x) ∧ Below w1.heap.size w1 v)) (by kernel_rfl) (s3_drew hS) (fun hHeld => ?_)
      refine tk 0 ?_
      refine tk 1 ?_
      refine tk 2 ?_
      refine tk 3 ?_
      refine tk 4 ?_
      refine tk 5 ?_
      refine tk 6 ?_
      refine tk 7 ?_
      refine tk 8 ?_
      refine tk 9 ?_
      refine tk 10 ?_
      refine tk 11 ?_
      refine wpAnyH_ready (rs := [12]) (by kernel_rfl) (by simp) ?_
      refine AllReadyH.cons (o := ?or1_12) ?ir1_12 (fun K hK => ?sr1_12) AllReadyH.nil
      case ir1_12 => (simp only [List.getElem?_toArray, List.getElem?_cons_succ, List.getElem?_cons_zero]; rfl)
      (first | (go_simp; (first | (go_at_call 198; refine (c_appendNumber k.o c x w1.heap.size _ Lb.length Lb _ hcb.1 (by omega) (by omega) (by omega) (by omega) (by first | exact hz | exact Nat.le_trans hz (Nat.le_refl _)) (by first | exact HO.out.drew | exact HO.out)).mono ?_; rintro e w9 ⟨v9, rfl, hown9, hb9⟩; obtain ⟨A9, c9, rfl⟩ := own_sl hown9; have hB9 : Below w1.heap.size w1 w9 := (bel_drew hbl).trans hb9) | skip)))
      refine hK.out _ _ ?kr1_12 (fun hHeld => ?_)
      case kr1_12 => (try dsimp only); (first | with_reducible assumption | with_reducible exact s3_mk (cell_on q0 hB9 (show w.heap.size < _ from hn1)) (cell_on q9 hB9 (show g < _ from hg1)) (cell_on (show wr.drew.cell? _ = _ from hw0) hb9 (show b2 < _ from hb2)) hB9 | exact s3_bel (by assumption) (by assumption) | assumption | exact s3_alloc (by assumption) _ | exact s3_mk (cell_on q0 hB9 (show w.heap.size < _ from hn1)) (cell_on q9 hB9 (show g < _ from hg1)) (cell_on (show wr.drew.cell? _ = _ from hw0) hb9 (show b2 < _ from hb2)) hB9)
      clear hK K
      try simp only [Act.put, List.setIfInBounds_toArray, List.set_cons_zero, List.set_cons_succ]
      refine tk 13 ?_
      refine wpAnyH_done (by kernel_rfl) ?_ _
      refine NoPanic.normal ?_
      have HR := hid (show w9.ownsRow w1.heap.size 5 1 (.slice A9 (Lb.length + x.toNat) c9) (packL k.o (codes.take (n + 1)) (Ws.take (n + 1))).length ((packL k.o (codes.take (n + 1)) (Ws.take (n + 1))).map vb) by
        have h9 := hown9
        rw [HDl.out] at h9
        rw [HSn.out, ← HLb.out, List.length_append, codeBits_len]
        exact h9)
      clear hS hHeld hown9 hb9
      go_wp2
      go_roundw
      case rel => exact ⟨n + 1, by omega, by go_num, HR.out, hB9⟩
      case measure => simp [intOf]; omega
    · have hnn : n = N := by omega
      have HB := hid (show Lb = k.bits codes by rw [HLb.out, HBp.out, hnn, HL.out, List.take_length, ← HWl.out, List.take_length])
      have hcv := run_own_str (P := Try.prog) Try.underlying22 Try.underlying5 Try.underlying9 HO.out
      have HP := hid (fun (v : World) => c_PackBits_yes k.o (str Lb) v (by rw [str_size]; unfold maxLen; omega) (by rw [HB.out]; exact HOk.out))
      obtain ⟨S, hS⟩ : ∃ S, S = packS k.o (str Lb) := ⟨_, rfl⟩
      rw [← hS] at HP
      have HS := hid (show S = k.packed codes by rw [hS, HB.out]; rfl)
      clear hS hnn
      go_wp2_with fail
      refine (HP.out _).mono ?_
      rintro e w9 ⟨rfl, hb9⟩
      go_wp2
      go_ret2
      exact ⟨by rw [HS.out]; rfl, (hB1.trans (hbl.mono hB1.size)).trans (hb9.mono (Nat.le_trans hB1.size hz))⟩

end
end Go.Proofs.Ytblmifbpoopbdaa
