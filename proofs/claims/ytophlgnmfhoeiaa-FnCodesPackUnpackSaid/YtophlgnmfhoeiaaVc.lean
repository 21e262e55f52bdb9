/- The walk of the law on codes that are packed and unpacked. -/
import Derived.Test.YtophlgnmfhoeiaaVk
import Derived.Test.YtophlgnmfhoeiaaDf
import Derived.Test.YtophlgnmfhoeiaaPc
import Derived.Test.YtophlgnmfhoeiaaPd
import Derived.Test.YtophlgnmfhoeiaaRp
import Derived.Test.YtophlgnmfhoeiaaBs
import Derived.Test.YtophlgnmfhoeiaaSi
namespace Go.Proofs.Ytophlgnmfhoeiaa
open Go.ChangeShapes Go.WideShapes Go.ChangeAt Go.RowKit Go.Joins
set_option linter.unusedVariables false

/-- what is known in box b, and codes, all below L -/
structure KC (L b : Nat) (k : Kn) (A : Option Addr) (cap : Nat) (cs : List Int) (A2 : Option Addr) (c2 : Nat) (wr : World) : Prop where
  kb : KB L b k A cap wr
  ns : NumsAt wr L A2 c2 cs
theorem KC.on {L b : Nat} {k : Kn} {A : Option Addr} {cap : Nat} {cs : List Int} {A2 : Option Addr} {c2 : Nat} {wr w' : World} (h : KC L b k A cap cs A2 c2 wr) (hb : Below wr.heap.size wr w') : KC L b k A cap cs A2 c2 w' := ⟨h.kb.on hb, h.ns.below hb h.kb.le⟩
theorem KC.cells7 {L b0 b off : Nat} {k : Kn} {A : Option Addr} {cap : Nat} {cs : List Int} {c2 : Nat} {W : World} (h : KC L b0 k A cap cs (some ⟨b, off, none⟩) c2 W) {i : Nat} {x : Int} (hi : cs[i]? = some x) :
    W.cell? ⟨b0, 0, none⟩ = some (.int .i64 k.o) ∧ W.cell? ⟨b0, 1, none⟩ = some (.int .i64 k.l) ∧ W.cell? ⟨b0, 2, none⟩ = some (.int .i64 k.m) ∧ W.cell? ⟨b0, 3, none⟩ = some (.slice A k.ps.length cap) ∧ W.cell? ⟨b0, 4, none⟩ = some (.int .i64 k.base) ∧ W.cell? ⟨b0, 5, none⟩ = some (.int .i64 k.last) ∧ W.cell? ⟨b, off + i, none⟩ = some (.int .i64 x) ∧ True := by
  obtain ⟨h0, h1, h2, h3, h4, h5⟩ := h.kb.bx.cells6
  obtain ⟨b2, off2, e, _, hc⟩ := h.ns.2.2.2 (by have := get_lt hi; omega)
  obtain ⟨rfl, rfl⟩ : b = b2 ∧ off = off2 := by simpa using e
  exact ⟨h0, h1, h2, h3, h4, h5, hc i x hi, trivial⟩

set_option maxHeartbeats 4000000 in
set_option maxRecDepth 100000 in
theorem walk_FnCodesPackUnpack (A' : Option Addr) (n cap : Nat) (w : World) (hc : CodeAt w w.heap.size A' n cap) : Calls Try.prog 7 #[.slice A' n cap] w fun e w' => e = .returned (.bool true) ∧ Below w.heap.size w w' := by
  by_cases big : 1048576 < n
  · have h1 := hc.1
    have h2 := hc.2.1
    unfold maxLen at h2
    go_enter Try.func7, Try.ntmps7
    go_wp2_with fail
    go_ret
    exact ⟨rfl, by (repeat (first | with_reducible (first | assumption | exact Below.refl _ _ | refine bel_alloc ?_ _ | refine bel_drew ?_ | refine bel_drewN ?_ _ | refine bel_set ?_ (by first | omega | (simp; done) | (simp; omega)) _ | refine bel_trans ?_ (by assumption)) | assumption | refine bel_trans ?_ (by assumption)))⟩
  · go_enter Try.func7, Try.ntmps7
    go_wp2_with fail
    refine (c_DrawPackCodes _ _ _ _ hc).mono ?_
    rintro e w1 ⟨k, A, cp, cs, A2, c2, rfl, hw, hl, hcl, hbd, ho, hoc, b1⟩
    have HZ := hid (show KC w1.heap.size w1.heap.size k A cp cs A2 c2 (w1.alloc (.cells #[.int .i64 k.o, .int .i64 k.l, .int .i64 k.m, .slice A k.ps.length cp, .int .i64 k.base, .int .i64 k.last] 32)) from ⟨KB.new ho, (own_ints_at hoc).below (bel_alloc (Below.refl _ _) _) (Nat.le_refl _)⟩)
    have c1 := bel_alloc b1 (.cells #[.int .i64 k.o, .int .i64 k.l, .int .i64 k.m, .slice A k.ps.length cp, .int .i64 k.base, .int .i64 k.last] 32)
    clear ho hoc b1 hc
    obtain ⟨p0, p1, p2, p3, p4, p5⟩ := HZ.out.kb.bx.cells6
    by_cases hk : CodesOk k cs
    · skip
      have H1 := hid (fun (v : World) (h : KC w1.heap.size w1.heap.size k A cp cs A2 c2 v) => c_PackCodes_yes k A cp _ v h.kb.ps h.kb.le hw _ _ _ cs h.ns h.kb.le hk)
      have H2 := hid (fun (v : World) (h : KC w1.heap.size w1.heap.size k A cp cs A2 c2 v) => c_sPackCodes_yes k A cp _ v h.kb.ps h.kb.le _ _ _ cs h.ns h.kb.le hw hk)
      have hset := hk.1.set
      have HE := hid (fun (v : World) => c_EndCode_yes k.o k.l k.m v hset)
      have HK := hid hk
      have HW := hid hw
      have hsz := hk.1.packed_le hk.2.2 hk.2.1
      obtain ⟨P, hP⟩ : ∃ P, P = k.packed cs := ⟨_, rfl⟩
      rw [← hP] at H1 H2 hsz
      have HP := hid hP
      have hcb : 2 ≤ pow2 k.l ∧ pow2 k.l ≤ 256 := by have := hk.1.cbd; have e : k.c = pow2 k.l := rfl; omega
      have ec : pow2 k.l = k.c := rfl
      obtain ⟨C, hC⟩ : ∃ C, C = pow2 k.l := ⟨_, rfl⟩
      rw [← hC] at HE hcb ec
      have HC := hid ec
      clear hk hw hset hP hC ec
      by_cases h0 : cs.length = 0
      · skip
        have e0 : ((cs.length : Int) == 0) = true := eq_yes (by omega)
        clear h0
        go_wp2_with fail
        refine (H1.out _ HZ.out).mono ?_
        rintro e w2 ⟨rfl, hb2⟩
        replace HZ := hid (HZ.out.on hb2)
        have c2 := bel_trans c1 hb2
        clear hb2 p0 p1 p2 p3 p4 p5
        obtain ⟨p0, p1, p2, p3, p4, p5⟩ := HZ.out.kb.bx.cells6
        go_wp2_with fail
        refine (H2.out _ HZ.out).mono ?_
        rintro e w3 ⟨rfl, hb3⟩
        replace HZ := hid (HZ.out.on hb3)
        have c3 := bel_trans c2 hb3
        clear hb3 p0 p1 p2 p3 p4 p5
        obtain ⟨p0, p1, p2, p3, p4, p5⟩ := HZ.out.kb.bx.cells6
        have hS := HZ.out.kb.bx.cells6t
        go_wp2_with fail
        replace HZ := hid (HZ.out.on (bel_drew (Below.refl w3.heap.size w3)))
        replace c3 := bel_drew c3
        refine wp_region_noPanic ?_
        refine wp_region_held_drew (S := (fun v => v.cell? ⟨w1.heap.size, 0, none⟩ = some (.int .i64 k.o) ∧ v.cell? ⟨w1.heap.size, 1, none⟩ = some (.int .i64 k.l) ∧ v.cell? ⟨w1.heap.size, 2, none⟩ = some (.int .i64 k.m) ∧ v.cell? ⟨w1.heap.size, 3, none⟩ = some (.slice A k.ps.length cp) ∧ v.cell? ⟨w1.heap.size, 4, none⟩ = some (.int .i64 k.base) ∧ v.cell? ⟨w1.heap.size, 5, none⟩ = some (.int .i64 k.last) ∧ True)) (by kernel_rfl) (t6_drew hS) (fun hHeld => ?_)
        refine tk 0 ?_
        refine tk 1 ?_
        refine tk 2 ?_
        refine tk 3 ?_
        refine tk 4 ?_
        refine tk 5 ?_
        refine tk 6 ?_
        refine tk 7 ?_
        refine tk 8 ?_
        refine tk 9 ?_
        refine tk 10 ?_
        refine tk 11 ?_
        refine tk 12 ?_
        refine tk 13 ?_
        refine tk 14 ?_
        refine tk 15 ?_
        refine tk 16 ?_
        refine tk 17 ?_
        refine tu 18 ?_
        refine tu 19 ?_
        refine tu 20 ?_
        refine tu 21 ?_
        refine tu 22 ?_
        refine tu 23 ?_
        refine tu 24 ?_
        refine tu 25 ?_
        refine tu 26 ?_
        refine tu 27 ?_
        refine tk 28 ?_
        refine wpAnyH_done (by kernel_rfl) ?_ _
        refine NoPanic.normal ?_
        clear hS p0 p1 p2 p3 p4 p5
        (try clear hHeld)
        obtain ⟨p0, p1, p2, p3, p4, p5⟩ := HZ.out.kb.bx.cells6
        go_wp2
        go_ret
        exact ⟨rfl, by (repeat (first | with_reducible (first | assumption | exact Below.refl _ _ | refine bel_alloc ?_ _ | refine bel_drew ?_ | refine bel_drewN ?_ _ | refine bel_set ?_ (by first | omega | (simp; done) | (simp; omega)) _ | refine bel_trans ?_ (by assumption)) | assumption | refine bel_trans ?_ (by assumption)))⟩
      · skip
        have e0 : ((cs.length : Int) == 0) = false := eq_no (by omega)
        obtain ⟨m, hm⟩ : ∃ m : Nat, cs.length = m + 1 := ⟨cs.length - 1, by omega⟩
        obtain ⟨x, hx⟩ : ∃ x, cs[m]? = some x := ⟨cs[m], List.getElem?_eq_getElem (by omega)⟩
        have hm1 : ((m : Int) + 1 == 0) = false := eq_no (by omega)
        have hml : m ≤ 3101 := by omega
        have hmm : (m : Int) < (m : Int) + 1 := by omega
        have ewm : IntKind.i64.wrap (m : Int) = (m : Int) := IntWalk.i64_in _ (by omega)
        obtain ⟨b, off, rfl, hh⟩ := int_at HZ.out.ns m (by omega)
        clear hh
        have hlast : cs.getLast? = some x := by rw [List.getLast?_eq_getElem?, hm]; exact hx
        have HX := hid hx
        have HL := hid hlast
        have HM := hid hm
        clear h0 hx hlast hm
        by_cases hxe : x = C + 1
        · skip
          have ex : (x != C + 1) = false := ne_no hxe
          have H3 := hid (show ∀ (v : World) (h : KC w1.heap.size w1.heap.size k A cp cs (some ⟨b, off, none⟩) c2 v), Calls Try.prog 48 #[.agg #[.int .i64 k.o, .int .i64 k.l, .int .i64 k.m, .slice A k.ps.length cp, .int .i64 k.base, .int .i64 k.last], .string P] v (fun e w' => ∃ A' cap', e = .returned (.tuple #[.slice A' cs.length cap', .int .i64 0, .int .i64 (P.size : Nat)]) ∧ w'.ownsRow v.heap.size 3 1 (.slice A' cs.length cap') cs.length (cs.map iv) ∧ Below v.heap.size v w') by
            intro v h
            have := c_UnpackCodes_yes k A cp _ v h.kb.ps h.kb.le HW.out P ⟨HK.out.1, hsz⟩
            obtain ⟨u1, u2, u3⟩ := HK.out.1.uc_packed HK.out.2.2 HK.out.2.1 (by rw [HL.out, hxe, HC.out])
            rw [← HP.out] at u1 u2 u3
            rw [u1, u2, u3] at this
            exact this)
          have HI := hid (fun (v : World) (A5 : Option Addr) (c5 : Nat) (h : KC w1.heap.size w1.heap.size k A cp cs (some ⟨b, off, none⟩) c2 v) (h5 : NumsAt v v.heap.size A5 c5 cs) => c_soInts A5 (some ⟨b, off, none⟩) c5 c2 cs v.heap.size w1.heap.size v h5 h.ns (Nat.le_refl _) h.kb.le (by omega))
          clear hxe
          go_wp2_with fail
          refine (H1.out _ HZ.out).mono ?_
          rintro e w2 ⟨rfl, hb2⟩
          replace HZ := hid (HZ.out.on hb2)
          have c2 := bel_trans c1 hb2
          clear hb2 p0 p1 p2 p3 p4 p5
          obtain ⟨p0, p1, p2, p3, p4, p5⟩ := HZ.out.kb.bx.cells6
          go_wp2_with fail
          refine (H2.out _ HZ.out).mono ?_
          rintro e w3 ⟨rfl, hb3⟩
          replace HZ := hid (HZ.out.on hb3)
          have c3 := bel_trans c2 hb3
          clear hb3 p0 p1 p2 p3 p4 p5
          obtain ⟨p0, p1, p2, p3, p4, p5⟩ := HZ.out.kb.bx.cells6
          rw [HM.out]
          have hS := HZ.out.cells7 HX.out
          go_wp2_with fail
          replace HZ := hid (HZ.out.on (bel_drew (Below.refl w3.heap.size w3)))
          replace c3 := bel_drew c3
          refine wp_region_noPanic ?_
          refine wp_region_held_drew (S := (fun v => v.cell? ⟨w1.heap.size, 0, none⟩ = some (.int .i64 k.o) ∧ v.cell? ⟨w1.heap.size, 1, none⟩ = some (.int .i64 k.l) ∧ v.cell? ⟨w1.heap.size, 2, none⟩ = some (.int .i64 k.m) ∧ v.cell? ⟨w1.heap.size, 3, none⟩ = some (.slice A k.ps.length cp) ∧ v.cell? ⟨w1.heap.size, 4, none⟩ = some (.int .i64 k.base) ∧ v.cell? ⟨w1.heap.size, 5, none⟩ = some (.int .i64 k.last) ∧ v.cell? ⟨b, off + m, none⟩ = some (.int .i64 x) ∧ True)) (by kernel_rfl) (t7_drew hS) (fun hHeld => ?_)
          refine tk 0 ?_
          refine tk 1 ?_
          refine tk 2 ?_
          refine tk 3 ?_
          refine tk 4 ?_
          refine tk 5 ?_
          refine tk 6 ?_
          refine tk 7 ?_
          refine tk 8 ?_
          refine tk 9 ?_
          refine tk 10 ?_
          refine tk 11 ?_
          refine tk 12 ?_
          refine tk 13 ?_
          refine tk 14 ?_
          refine tk 15 ?_
          refine tk 16 ?_
          refine tk 17 ?_
          refine tk 18 ?_
          refine tk 19 ?_
          refine tk 20 ?_
          refine tk 21 ?_
          refine tk 22 ?_
          refine tk 23 ?_
          refine tk 24 ?_
          refine tk 25 ?_
          refine wpAnyH_ready (rs := [26]) (by kernel_rfl) (by simp) ?_
          refine AllReadyH.cons (o := ?or2_26) ?ir2_26 (fun K hK => ?sr2_26) AllReadyH.nil
          case ir2_26 => (simp only [List.getElem?_toArray, List.getElem?_cons_succ, List.getElem?_cons_zero]; rfl)
          (first | (go_simp; (first | (go_at_call 43; refine (HE.out _).mono ?_; rintro e wE ⟨rfl, hbE⟩; replace HZ := hid (HZ.out.on hbE); replace c3 := bel_trans c3 hbE) | skip)))
          refine hK.out _ _ ?kr2_26 (fun hHeld => ?_)
          case kr2_26 => (try dsimp only); (first | with_reducible assumption | with_reducible exact HZ.out.cells7 HX.out | exact t7_bel (by assumption) (by assumption) | assumption | exact t7_alloc (by assumption) _ | exact HZ.out.cells7 HX.out)
          clear hK K
          try simp only [Act.put, List.setIfInBounds_toArray, List.set_cons_zero, List.set_cons_succ]
          refine tk 27 ?_
          refine tk 28 ?_
          refine wpAnyH_done (by kernel_rfl) ?_ _
          refine NoPanic.normal ?_
          clear hS p0 p1 p2 p3 p4 p5
          (try clear hHeld)
          obtain ⟨p0, p1, p2, p3, p4, p5⟩ := HZ.out.kb.bx.cells6
          go_wp2_with fail
          refine (H3.out _ HZ.out).mono ?_
          rintro e w4 ⟨A5, c5, rfl, ho5, hb5⟩
          have c4 := bel_trans c3 hb5
          replace HZ := hid (HZ.out.on hb5)
          have H5 := hid (own_ints_at ho5)
          clear hb5 ho5 p0 p1 p2 p3 p4 p5
          rw [HM.out] at HI
          rw [HM.out]
          go_wp2_with fail
          refine (HI.out _ A5 c5 HZ.out H5.out).mono ?_
          rintro e w5 ⟨rfl, hb6⟩
          go_wp2
          go_ret
          exact ⟨rfl, bel_trans c4 hb6⟩
        · skip
          have ex : (x != C + 1) = true := ne_yes (by omega)
          clear hxe
          go_wp2_with fail
          refine (H1.out _ HZ.out).mono ?_
          rintro e w2 ⟨rfl, hb2⟩
          replace HZ := hid (HZ.out.on hb2)
          have c2 := bel_trans c1 hb2
          clear hb2 p0 p1 p2 p3 p4 p5
          obtain ⟨p0, p1, p2, p3, p4, p5⟩ := HZ.out.kb.bx.cells6
          go_wp2_with fail
          refine (H2.out _ HZ.out).mono ?_
          rintro e w3 ⟨rfl, hb3⟩
          replace HZ := hid (HZ.out.on hb3)
          have c3 := bel_trans c2 hb3
          clear hb3 p0 p1 p2 p3 p4 p5
          obtain ⟨p0, p1, p2, p3, p4, p5⟩ := HZ.out.kb.bx.cells6
          rw [HM.out]
          have hS := HZ.out.cells7 HX.out
          go_wp2_with fail
          replace HZ := hid (HZ.out.on (bel_drew (Below.refl w3.heap.size w3)))
          replace c3 := bel_drew c3
          refine wp_region_noPanic ?_
          refine wp_region_held_drew (S := (fun v => v.cell? ⟨w1.heap.size, 0, none⟩ = some (.int .i64 k.o) ∧ v.cell? ⟨w1.heap.size, 1, none⟩ = some (.int .i64 k.l) ∧ v.cell? ⟨w1.heap.size, 2, none⟩ = some (.int .i64 k.m) ∧ v.cell? ⟨w1.heap.size, 3, none⟩ = some (.slice A k.ps.length cp) ∧ v.cell? ⟨w1.heap.size, 4, none⟩ = some (.int .i64 k.base) ∧ v.cell? ⟨w1.heap.size, 5, none⟩ = some (.int .i64 k.last) ∧ v.cell? ⟨b, off + m, none⟩ = some (.int .i64 x) ∧ True)) (by kernel_rfl) (t7_drew hS) (fun hHeld => ?_)
          refine tk 0 ?_
          refine tk 1 ?_
          refine tk 2 ?_
          refine tk 3 ?_
          refine tk 4 ?_
          refine tk 5 ?_
          refine tk 6 ?_
          refine tk 7 ?_
          refine tk 8 ?_
          refine tk 9 ?_
          refine tk 10 ?_
          refine tk 11 ?_
          refine tk 12 ?_
          refine tk 13 ?_
          refine tk 14 ?_
          refine tk 15 ?_
          refine tk 16 ?_
          refine tk 17 ?_
          refine tk 18 ?_
          refine tk 19 ?_
          refine tk 20 ?_
          refine tk 21 ?_
          refine tk 22 ?_
          refine tk 23 ?_
          refine tk 24 ?_
          refine tk 25 ?_
          refine wpAnyH_ready (rs := [26]) (by kernel_rfl) (by simp) ?_
          refine AllReadyH.cons (o := ?or3_26) ?ir3_26 (fun K hK => ?sr3_26) AllReadyH.nil
          case ir3_26 => (simp only [List.getElem?_toArray, List.getElem?_cons_succ, List.getElem?_cons_zero]; rfl)
          (first | (go_simp; (first | (go_at_call 43; refine (HE.out _).mono ?_; rintro e wE ⟨rfl, hbE⟩; replace HZ := hid (HZ.out.on hbE); replace c3 := bel_trans c3 hbE) | skip)))
          refine hK.out _ _ ?kr3_26 (fun hHeld => ?_)
          case kr3_26 => (try dsimp only); (first | with_reducible assumption | with_reducible exact HZ.out.cells7 HX.out | exact t7_bel (by assumption) (by assumption) | assumption | exact t7_alloc (by assumption) _ | exact HZ.out.cells7 HX.out)
          clear hK K
          try simp only [Act.put, List.setIfInBounds_toArray, List.set_cons_zero, List.set_cons_succ]
          refine tk 27 ?_
          refine tk 28 ?_
          refine wpAnyH_done (by kernel_rfl) ?_ _
          refine NoPanic.normal ?_
          clear hS p0 p1 p2 p3 p4 p5
          (try clear hHeld)
          obtain ⟨p0, p1, p2, p3, p4, p5⟩ := HZ.out.kb.bx.cells6
          go_wp2
          go_ret
          exact ⟨rfl, by (repeat (first | with_reducible (first | assumption | exact Below.refl _ _ | refine bel_alloc ?_ _ | refine bel_drew ?_ | refine bel_drewN ?_ _ | refine bel_set ?_ (by first | omega | (simp; done) | (simp; omega)) _ | refine bel_trans ?_ (by assumption)) | assumption | refine bel_trans ?_ (by assumption)))⟩
    · skip
      have H1 := hid (fun (v : World) (h : KC w1.heap.size w1.heap.size k A cp cs A2 c2 v) => c_PackCodes_no k A cp _ v h.kb.ps h.kb.le hw _ _ _ cs h.ns h.kb.le (by omega) hk)
      have H2 := hid (fun (v : World) (h : KC w1.heap.size w1.heap.size k A cp cs A2 c2 v) => c_sPackCodes_no k A cp _ v h.kb.ps h.kb.le _ _ _ cs h.ns h.kb.le hw (by omega) hk)
      clear hk hw hbd
      go_wp2_with fail
      refine (H1.out _ HZ.out).mono ?_
      rintro e w2 ⟨rfl, hb2⟩
      replace HZ := hid (HZ.out.on hb2)
      have c2 := bel_trans c1 hb2
      clear hb2 p0 p1 p2 p3 p4 p5
      obtain ⟨p0, p1, p2, p3, p4, p5⟩ := HZ.out.kb.bx.cells6
      go_wp2_with fail
      refine (H2.out _ HZ.out).mono ?_
      rintro e w3 ⟨rfl, hb3⟩
      replace HZ := hid (HZ.out.on hb3)
      have c3 := bel_trans c2 hb3
      clear hb3 p0 p1 p2 p3 p4 p5
      obtain ⟨p0, p1, p2, p3, p4, p5⟩ := HZ.out.kb.bx.cells6
      have hS := HZ.out.kb.bx.cells6t
      go_wp2_with fail
      replace HZ := hid (HZ.out.on (bel_drew (Below.refl w3.heap.size w3)))
      replace c3 := bel_drew c3
      refine wp_region_noPanic ?_
      refine wp_region_held_drew (S := (fun v => v.cell? ⟨w1.heap.size, 0, none⟩ = some (.int .i64 k.o) ∧ v.cell? ⟨w1.heap.size, 1, none⟩ = some (.int .i64 k.l) ∧ v.cell? ⟨w1.heap.size, 2, none⟩ = some (.int .i64 k.m) ∧ v.cell? ⟨w1.heap.size, 3, none⟩ = some (.slice A k.ps.length cp) ∧ v.cell? ⟨w1.heap.size, 4, none⟩ = some (.int .i64 k.base) ∧ v.cell? ⟨w1.heap.size, 5, none⟩ = some (.int .i64 k.last) ∧ True)) (by kernel_rfl) (t6_drew hS) (fun hHeld => ?_)
      refine tk 0 ?_
      refine tk 1 ?_
      refine tk 2 ?_
      refine tk 3 ?_
      refine tk 4 ?_
      refine tk 5 ?_
      refine tk 6 ?_
      refine tk 7 ?_
      refine tk 8 ?_
      refine tk 9 ?_
      refine tk 10 ?_
      refine tk 11 ?_
      refine tk 12 ?_
      refine tu 13 ?_
      refine tu 14 ?_
      refine tu 15 ?_
      refine tk 16 ?_
      refine tk 17 ?_
      refine tu 18 ?_
      refine tu 19 ?_
      refine tu 20 ?_
      refine tu 21 ?_
      refine tu 22 ?_
      refine tu 23 ?_
      refine tu 24 ?_
      refine tu 25 ?_
      refine tu 26 ?_
      refine tu 27 ?_
      refine tk 28 ?_
      refine wpAnyH_done (by kernel_rfl) ?_ _
      refine NoPanic.normal ?_
      clear hS p0 p1 p2 p3 p4 p5
      (try clear hHeld)
      obtain ⟨p0, p1, p2, p3, p4, p5⟩ := HZ.out.kb.bx.cells6
      go_wp2
      go_ret
      exact ⟨rfl, by (repeat (first | with_reducible (first | assumption | exact Below.refl _ _ | refine bel_alloc ?_ _ | refine bel_drew ?_ | refine bel_drewN ?_ _ | refine bel_set ?_ (by first | omega | (simp; done) | (simp; omega)) _ | refine bel_trans ?_ (by assumption)) | assumption | refine bel_trans ?_ (by assumption)))⟩
end Go.Proofs.Ytophlgnmfhoeiaa
