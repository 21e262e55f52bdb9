/- The contract of longest. No condition but that what is known is valid, and that the first byte is a literal. -/
import Derived.Test.YtblmifbpoopbdaaNm
import Derived.Test.YtblmifbpoopbdaaWsx
namespace Go.Proofs.Ytblmifbpoopbdaa
open Go.ChangeShapes Go.WideShapes Go.ChangeAt Go.RowKit Go.Joins
set_option linter.unusedVariables false

theorem dat_at (D : ByteArray) (i : Nat) (h : i < D.size) : D.data.toList[i]? = some D[i] := by
  rw [List.getElem?_eq_getElem (by simpa using h)]; rfl
theorem FQ.t2 {L fb : Nat} {k : Kn} {A : Option Addr} {cap nb cap2 : Nat} {Q : List Pr} {N : Nat → Nat} {Lo : Nat → Option Nat} {bm n : Nat} {wr : World} (h : FQ L fb k A cap nb cap2 Q N Lo bm n wr) : wr.cell? ⟨fb, 5, none⟩ = some (.int .i64 k.last) ∧ wr.cell? ⟨fb, 6, none⟩ = some (.slice (some ⟨nb, 0, none⟩) (top k.c Q) cap2) ∧ True := by
  obtain ⟨_, _, _, _, _, p5, p6, _⟩ := h.bx.cells8
  exact ⟨p5, p6, trivial⟩
theorem FQ.t3 {L fb : Nat} {k : Kn} {A : Option Addr} {cap nb cap2 : Nat} {Q : List Pr} {N : Nat → Nat} {Lo : Nat → Option Nat} {bm n : Nat} {wr : World} (h : FQ L fb k A cap nb cap2 Q N Lo bm n wr) {j rl : Nat} (hj : k.last = (j : Int)) (hc : 0 ≤ k.c) (hw : HasW k.c j Q.length) (hr : fnd k.c Q (wd k.c Q j) = some rl) : wr.cell? ⟨fb, 5, none⟩ = some (.int .i64 (j : Int)) ∧ wr.cell? ⟨fb, 6, none⟩ = some (.slice (some ⟨nb, 0, none⟩) (top k.c Q) cap2) ∧ wr.cell? ⟨nb, j, none⟩ = some (.pointer (some ⟨N rl, 0, none⟩)) ∧ True := by
  obtain ⟨_, _, _, _, _, p5, p6, _⟩ := h.bx.cells8
  obtain ⟨r, h1, _, _, h4, _⟩ := h.code hc hw
  rw [hr] at h1
  obtain rfl := Option.some.inj h1
  rw [hj] at p5
  exact ⟨p5, p6, by simpa using h4, trivial⟩

theorem FQ.s3 {L fb : Nat} {k : Kn} {A : Option Addr} {cap nb cap2 : Nat} {Q : List Pr} {N : Nat → Nat} {Lo : Nat → Option Nat} {bm n : Nat} {wr w0 : World} (h : FQ L fb k A cap nb cap2 Q N Lo bm n wr) {j rl : Nat} (hj : k.last = (j : Int)) (hc : 0 ≤ k.c) (hw : HasW k.c j Q.length) (hr : fnd k.c Q (wd k.c Q j) = some rl) (hb : Below w0.heap.size w0 wr) : wr.cell? ⟨fb, 5, none⟩ = some (.int .i64 (j : Int)) ∧ wr.cell? ⟨fb, 6, none⟩ = some (.slice (some ⟨nb, 0, none⟩) (top k.c Q) cap2) ∧ wr.cell? ⟨nb, j, none⟩ = some (.pointer (some ⟨N rl, 0, none⟩)) ∧ Below w0.heap.size w0 wr := by
  obtain ⟨h1, h2, h3, _⟩ := h.t3 hj hc hw hr
  exact ⟨h1, h2, h3, hb⟩

set_option maxHeartbeats 4000000 in
set_option maxRecDepth 100000 in
theorem c_longest (L fb : Nat) (k : Kn) (A : Option Addr) (cap nb cap2 : Nat) (N : Nat → Nat) (Lo : Nat → Option Nat) (bm n : Nat) (D : ByteArray) (w : World) (hk : k.Ok) (h : FQ L fb k A cap nb cap2 k.ps N Lo bm n w) (h0 : 0 < D.size) (hs : D.size ≤ 1048576) (hl : ((D[0]).toNat : Int) < k.c) :
    Calls Try.prog 113 #[.pointer (some ⟨fb, 0, none⟩), .string D] w fun e w' => e = .returned (.tuple #[.int .i64 (k.find (D.data.toList.take (k.lng D.data.toList))), .int .i64 (k.lng D.data.toList : Nat)]) ∧ Below w.heap.size w w' := by
  have hcb := hk.cbd
  have H := hid h
  have HK := hid hk
  obtain ⟨c0, hc0⟩ : ∃ c0 : Nat, c0 = (D[0]).toNat := ⟨_, rfl⟩
  have hx0 := idx_str (P := Try.prog) Try.underlying9 D 0 h0 .i64 0 rfl
  rw [← hc0] at hx0 hl
  obtain ⟨p0, p1, p2, p3, p4, p5, p6, p7⟩ := h.bx.cells8
  have hw0 : HasW k.c (c0 : Int) k.ps.length := .inl ⟨by omega, hl⟩
  obtain ⟨r0, hr0, hl0, _, hq0, hj0, _⟩ := h.code (by omega) hw0
  have HR0 := hid (show fnd k.c k.ps (D.data.toList.take 1) = some r0 by
    have e : D.data.toList.take 1 = [D[0]] := take_snoc D 0 h0
    rw [word_lit _ _ _ (by omega)] at hr0
    rw [e, ← hr0]
    congr 1
    rw [show byt (c0 : Int) = D[0] from by rw [hc0]; simp [byt]])
  rw [Int.toNat_natCast] at hq0 hj0
  have hj0' : (c0 : Int) < (top k.c k.ps : Nat) := by omega
  obtain ⟨TP, hTP⟩ : ∃ TP, TP = top k.c k.ps := ⟨_, rfl⟩
  rw [← hTP] at p6 hj0'
  have HC0 := hid hc0
  clear hr0 hl0 h hk hcb hc0 hw0 hl hj0
  go_enter Try.func113, Try.ntmps113
  go_wp2_with fail
  go_region
  clear p0 p1 p2 p3 p4 p5 p6 p7 hq0
  go_wp2_with fail
  go_loopw [6, 7] (fun v i wr => ∃ (s r : Nat), i = .int .i64 (s : Int) ∧ v = .pointer (some ⟨N r, 0, none⟩) ∧ 1 ≤ s ∧ s ≤ D.size ∧ Hid (fnd k.c k.ps (D.data.toList.take s) = some r) ∧ Below w.heap.size w wr) (fun _ i _ => (D.size + 1 - (intOf i).toNat))
  case atStart => exact ⟨1, r0, rfl, rfl, by omega, by omega, HR0, by (repeat (first | with_reducible (first | assumption | exact Below.refl _ _ | refine bel_alloc ?_ _ | refine bel_drew ?_ | refine bel_drewN ?_ _ | refine bel_set ?_ (by first | omega | (simp; done) | (simp; omega)) _ | refine bel_trans ?_ (by assumption)) | assumption | refine bel_trans ?_ (by assumption)))⟩
  case round =>
    obtain ⟨s, r, rfl, rfl, hs1, hs2, HR, hbel⟩ := hrel
    have HB := hid hbel
    have HL := hid (fnd_lst HR.out)
    have HF := hid (H.out.on hbel)
    have hrl : r ≤ 100000 := by have := HL.out.ltn HK.out.c0; have := HK.out.len; have := HK.out.cbd; omega
    obtain ⟨n0, n1⟩ := (HF.out.fd.node r HL.out).cells2
    by_cases hlt : s < D.size
    · skip
      have hxs := idx_str (P := Try.prog) Try.underlying9 D s hlt .i64 (s : Int) rfl
      obtain ⟨cs, hcs⟩ : ∃ cs : Nat, cs = (D[s]).toNat := ⟨_, rfl⟩
      have hcl : cs ≤ 255 := by have := (D[s]).toNat_lt; omega
      rw [← hcs] at hxs
      have HW := hid (show wd k.c k.ps r ++ [byt (cs : Int)] = D.data.toList.take (s + 1) by
        rw [(fnd_some HR.out).2.1, take_snoc D s hlt, hcs]; simp [byt])
      obtain ⟨R, hR⟩ : ∃ R, R = ndAt k.c k.ps N (D.data.toList.take (s + 1)) := ⟨_, rfl⟩
      have HL2 := hid (show Calls Try.prog 182 #[.pointer (some ⟨fb, 0, none⟩), .pointer (some ⟨N r, 0, none⟩), .int .i64 (cs : Int)] wr fun e w' => e = .returned (ptr R) ∧ Below wr.heap.size wr w' by
        have := c_longer L fb bm n k.base.toNat k.c k.ps N Lo wr HF.out.fd (HF.out.bx.cell 7) r HL.out hrl cs hcl
        rw [HW.out, ← hR] at this
        exact this)
      have HRR := hid hR
      have HCS := hid hcs
      clear hR hcs hbel
      go_wp2_with fail
      refine HL2.out.mono ?_
      rintro e w2 ⟨rfl, hb2⟩
      have b2 := bel_trans HB.out hb2
      replace HF := hid (HF.out.on hb2)
      clear hb2 HL2 HB n0 n1
      obtain ⟨n0, n1⟩ := (HF.out.fd.node r HL.out).cells2
      obtain ⟨p0, p1, p2, p3, p4, p5, p6, p7⟩ := HF.out.bx.cells8
      cases hf : fnd k.c k.ps (D.data.toList.take (s + 1)) with
      | some r' =>
        have e1 : R = some (N r') := by rw [HRR.out, ndAt, hf]; rfl
        subst e1
        rw [ptr_some]
        have HR2 := hid hf
        clear hf HRR HW p0 p1 p2 p3 p4 p5 p6 p7
        go_wp2
        go_roundw
        case rel => exact ⟨s + 1, r', by go_num, rfl, by omega, by omega, HR2, b2⟩
        case measure => simp [intOf]; omega
      | none =>
        have e1 : R = none := by rw [HRR.out, ndAt, hf]; rfl
        subst e1
        rw [ptr_none]
        have HN := hid hf
        clear hf HRR HW
        by_cases hg : k.grows = true
        · skip
          have hwl := HK.out.lastW hg
          obtain ⟨j, hj⟩ : ∃ j : Nat, k.last = (j : Int) := ⟨k.last.toNat, by unfold HasW at hwl; have := HK.out.cbd; omega⟩
          have HJ := hid hj
          rw [hj] at hwl
          have HWL := hid hwl
          obtain ⟨rl, hrl2, hLl, _, _, hjt, _⟩ := HF.out.code HK.out.c0 hwl
          have hjT : (j : Int) < (top k.c k.ps : Nat) := by simpa using hjt
          have HRL := hid hrl2
          have HLL := hid hLl
          have hjn : j < top k.c k.ps := by omega
          have HG := hid (fun (v : World) (hv : FQ L fb k A cap nb cap2 k.ps N Lo bm n v) => c_grows fb k A cap v HK.out hv.kat)
          rw [hg] at HG
          have HGr := hid hg
          clear hg hwl hj hrl2 hLl hjt
          by_cases hrr : r = rl
          · skip
            subst hrr
            by_cases hcc : cs = c0
            · skip
              have eb : ((cs : Int) == (c0 : Int)) = true := eq_yes (by omega)
              have HNx := hid (fun (v : World) (hv : FQ L fb k A cap nb cap2 k.ps N Lo bm n v) => c_nextWord fb k A cap v HK.out hv.kat)
              have HE := hid (HK.out.stop_next hs1 (by rw [len_toList]; exact hlt) HR.out HN.out HGr.out (by have := HRL.out; rw [← HJ.out] at this; exact this) (by
                rw [dat_at D s hlt, dat_at D 0 h0]
                congr 1
                apply UInt8.toNat_inj.1
                rw [← HCS.out, ← HC0.out, hcc]))
              obtain ⟨X, hX⟩ : ∃ X, X = k.next := ⟨_, rfl⟩
              rw [← hX] at HNx HE
              clear hcc hX
              have hpe := fun (v : World) (hb : Below w2.heap.size w2 v) => HF.out.fd.eql HL.out HLL.out v hb
              simp only [decide_true] at hpe
              have hS := HF.out.s3 HJ.out HK.out.c0 HWL.out HRL.out (Below.refl w2.heap.size w2)
              go_wp2_with fail
              replace HF := hid (HF.out.on (bel_drew (Below.refl w2.heap.size w2)))
              replace b2 := bel_drew b2
              refine wp_region_noPanic ?_
              refine wp_region_held_drew (S := (fun v => v.cell? ⟨fb, 5, none⟩ = some (.int .i64 (j : Int)) ∧ v.cell? ⟨fb, 6, none⟩ = some (.slice (some ⟨nb, 0, none⟩) (top k.c k.ps) cap2) ∧ v.cell? ⟨nb, j, none⟩ = some (.pointer (some ⟨N r, 0, none⟩)) ∧ Below w2.heap.size w2 v)) (by kernel_rfl) (s3_drew hS) (fun hHeld => ?_)
              refine tk 0 ?_
              refine tk 1 ?_
              refine tk 2 ?_
              refine wpAnyH_ready (rs := [3]) (by kernel_rfl) (by simp) ?_
              refine AllReadyH.cons (o := ?or1_3) ?ir1_3 (fun K hK => ?sr1_3) AllReadyH.nil
              case ir1_3 => (simp only [List.getElem?_toArray, List.getElem?_cons_succ, List.getElem?_cons_zero]; rfl)
              (first | (go_simp; (first | (go_at_call 175; refine (HG.out _ HF.out).mono ?_; rintro e wQ ⟨rfl, hbQ⟩; have hbQ0 := hbQ; replace HF := hid (HF.out.on hbQ); replace b2 := bel_trans b2 hbQ; clear hbQ; have hB2 := bel_trans (bel_drew (Below.refl w2.heap.size w2)) hbQ0) | skip)))
              refine hK.out _ _ ?kr1_3 (fun hHeld => ?_)
              case kr1_3 => (try dsimp only); (first | with_reducible assumption | with_reducible exact HF.out.s3 HJ.out HK.out.c0 HWL.out HRL.out hB2 | exact s3_bel (by assumption) (by assumption) | assumption | exact s3_alloc (by assumption) _ | exact HF.out.s3 HJ.out HK.out.c0 HWL.out HRL.out hB2)
              clear hK K
              try simp only [Act.put, List.setIfInBounds_toArray, List.set_cons_zero, List.set_cons_succ]
              refine tk 4 ?_
              refine tk 5 ?_
              refine tk 6 ?_
              refine tk 7 ?_
              refine tk 8 ?_
              refine tk 9 ?_
              refine tk 10 ?_
              refine tk 11 ?_
              refine tk 12 ?_
              refine tk 13 ?_
              refine tk 14 ?_
              refine tk 15 ?_
              refine tk 16 ?_
              refine tk 17 ?_
              refine tk 18 ?_
              refine tk 19 ?_
              refine tk 20 ?_
              refine tk 21 ?_
              refine tk 22 ?_
              refine tk 23 ?_
              refine tk 24 ?_
              refine tk 25 ?_
              refine tk 26 ?_
              refine wpAnyH_done (by kernel_rfl) ?_ _
              refine NoPanic.normal ?_
              clear hS p0 p1 p2 p3 p4 p5 p6 p7 n0 n1
              (try clear hHeld)
              obtain ⟨n0, n1⟩ := (HF.out.fd.node r HL.out).cells2
              go_wp2_with fail
              refine (HNx.out _ HF.out).mono ?_
              rintro e w4 ⟨rfl, hb4⟩
              replace b2 := bel_trans b2 hb4
              go_wp2
              go_ret2
              exact ⟨by rw [HE.out.1, HE.out.2]; rfl, b2⟩
            · skip
              have eb : ((cs : Int) == (c0 : Int)) = false := eq_no (by omega)
              have HNo := hid (show ¬ (k.grows = true ∧ fnd k.c k.ps (k.word k.last) = some r ∧ D.data.toList[s]? = D.data.toList[0]?) by
                rintro ⟨_, _, e⟩
                rw [dat_at D s hlt, dat_at D 0 h0] at e
                have e2 := Option.some.inj e
                apply hcc
                rw [HCS.out, HC0.out, e2])
              clear hcc
              have hpe := fun (v : World) (hb : Below w2.heap.size w2 v) => HF.out.fd.eql HL.out HLL.out v hb
              simp only [decide_true] at hpe
              have hS := HF.out.s3 HJ.out HK.out.c0 HWL.out HRL.out (Below.refl w2.heap.size w2)
              go_wp2_with fail
              replace HF := hid (HF.out.on (bel_drew (Below.refl w2.heap.size w2)))
              replace b2 := bel_drew b2
              refine wp_region_noPanic ?_
              refine wp_region_held_drew (S := (fun v => v.cell? ⟨fb, 5, none⟩ = some (.int .i64 (j : Int)) ∧ v.cell? ⟨fb, 6, none⟩ = some (.slice (some ⟨nb, 0, none⟩) (top k.c k.ps) cap2) ∧ v.cell? ⟨nb, j, none⟩ = some (.pointer (some ⟨N r, 0, none⟩)) ∧ Below w2.heap.size w2 v)) (by kernel_rfl) (s3_drew hS) (fun hHeld => ?_)
              refine tk 0 ?_
              refine tk 1 ?_
              refine tk 2 ?_
              refine wpAnyH_ready (rs := [3]) (by kernel_rfl) (by simp) ?_
              refine AllReadyH.cons (o := ?or2_3) ?ir2_3 (fun K hK => ?sr2_3) AllReadyH.nil
              case ir2_3 => (simp only [List.getElem?_toArray, List.getElem?_cons_succ, List.getElem?_cons_zero]; rfl)
              (first | (go_simp; (first | (go_at_call 175; refine (HG.out _ HF.out).mono ?_; rintro e wQ ⟨rfl, hbQ⟩; have hbQ0 := hbQ; replace HF := hid (HF.out.on hbQ); replace b2 := bel_trans b2 hbQ; clear hbQ; have hB2 := bel_trans (bel_drew (Below.refl w2.heap.size w2)) hbQ0) | skip)))
              refine hK.out _ _ ?kr2_3 (fun hHeld => ?_)
              case kr2_3 => (try dsimp only); (first | with_reducible assumption | with_reducible exact HF.out.s3 HJ.out HK.out.c0 HWL.out HRL.out hB2 | exact s3_bel (by assumption) (by assumption) | assumption | exact s3_alloc (by assumption) _ | exact HF.out.s3 HJ.out HK.out.c0 HWL.out HRL.out hB2)
              clear hK K
              try simp only [Act.put, List.setIfInBounds_toArray, List.set_cons_zero, List.set_cons_succ]
              refine tk 4 ?_
              refine tk 5 ?_
              refine tk 6 ?_
              refine tk 7 ?_
              refine tk 8 ?_
              refine tk 9 ?_
              refine tk 10 ?_
              refine tk 11 ?_
              refine tk 12 ?_
              refine tk 13 ?_
              refine tk 14 ?_
              refine tk 15 ?_
              refine tk 16 ?_
              refine tk 17 ?_
              refine tk 18 ?_
              refine tk 19 ?_
              refine tk 20 ?_
              refine tk 21 ?_
              refine tk 22 ?_
              refine tk 23 ?_
              refine tk 24 ?_
              refine tk 25 ?_
              refine tk 26 ?_
              refine wpAnyH_done (by kernel_rfl) ?_ _
              refine NoPanic.normal ?_
              clear hS p0 p1 p2 p3 p4 p5 p6 p7 n0 n1
              (try clear hHeld)
              obtain ⟨n0, n1⟩ := (HF.out.fd.node r HL.out).cells2
              have HE := hid (HK.out.stop_here hs1 (by rw [len_toList]; exact hlt) HR.out HN.out (HNo.out))
              go_wp2
              go_ret2
              exact ⟨by rw [HE.out.1, HE.out.2]; rfl, b2⟩
          · skip
            have HNo := hid (show ¬ (k.grows = true ∧ fnd k.c k.ps (k.word k.last) = some r ∧ D.data.toList[s]? = D.data.toList[0]?) by
              rintro ⟨_, e, _⟩
              have := HRL.out
              rw [← HJ.out] at this
              have e2 := e.symm.trans this
              exact hrr (Option.some.inj e2))
            have hdr : decide (r = rl) = false := decide_eq_false hrr
            clear hrr
            have hpe := fun (v : World) (hb : Below w2.heap.size w2 v) => HF.out.fd.eql HL.out HLL.out v hb
            simp only [hdr] at hpe
            have hS := HF.out.s3 HJ.out HK.out.c0 HWL.out HRL.out (Below.refl w2.heap.size w2)
            go_wp2_with fail
            replace HF := hid (HF.out.on (bel_drew (Below.refl w2.heap.size w2)))
            replace b2 := bel_drew b2
            refine wp_region_noPanic ?_
            refine wp_region_held_drew (S := (fun v => v.cell? ⟨fb, 5, none⟩ = some (.int .i64 (j : Int)) ∧ v.cell? ⟨fb, 6, none⟩ = some (.slice (some ⟨nb, 0, none⟩) (top k.c k.ps) cap2) ∧ v.cell? ⟨nb, j, none⟩ = some (.pointer (some ⟨N rl, 0, none⟩)) ∧ Below w2.heap.size w2 v)) (by kernel_rfl) (s3_drew hS) (fun hHeld => ?_)
            refine tk 0 ?_
            refine tk 1 ?_
            refine tk 2 ?_
            refine wpAnyH_ready (rs := [3]) (by kernel_rfl) (by simp) ?_
            refine AllReadyH.cons (o := ?or3_3) ?ir3_3 (fun K hK => ?sr3_3) AllReadyH.nil
            case ir3_3 => (simp only [List.getElem?_toArray, List.getElem?_cons_succ, List.getElem?_cons_zero]; rfl)
            (first | (go_simp; (first | (go_at_call 175; refine (HG.out _ HF.out).mono ?_; rintro e wQ ⟨rfl, hbQ⟩; have hbQ0 := hbQ; replace HF := hid (HF.out.on hbQ); replace b2 := bel_trans b2 hbQ; clear hbQ; have hB2 := bel_trans (bel_drew (Below.refl w2.heap.size w2)) hbQ0) | skip)))
            refine hK.out _ _ ?kr3_3 (fun hHeld => ?_)
            case kr3_3 => (try dsimp only); (first | with_reducible assumption | with_reducible exact HF.out.s3 HJ.out HK.out.c0 HWL.out HRL.out hB2 | exact s3_bel (by assumption) (by assumption) | assumption | exact s3_alloc (by assumption) _ | exact HF.out.s3 HJ.out HK.out.c0 HWL.out HRL.out hB2)
            clear hK K
            try simp only [Act.put, List.setIfInBounds_toArray, List.set_cons_zero, List.set_cons_succ]
            refine tk 4 ?_
            refine tk 5 ?_
            refine tk 6 ?_
            refine tk 7 ?_
            refine tk 8 ?_
            refine tk 9 ?_
            refine tk 10 ?_
            refine tk 11 ?_
            refine tk 12 ?_
            refine tk 13 ?_
            refine tk 14 ?_
            refine tk 15 ?_
            refine tk 16 ?_
            refine tk 17 ?_
            refine tk 18 ?_
            refine tk 19 ?_
            refine tu 20 ?_
            refine tu 21 ?_
            refine tu 22 ?_
            refine tu 23 ?_
            refine tu 24 ?_
            refine tu 25 ?_
            refine tk 26 ?_
            refine wpAnyH_done (by kernel_rfl) ?_ _
            refine NoPanic.normal ?_
            clear hS p0 p1 p2 p3 p4 p5 p6 p7 n0 n1
            (try clear hHeld)
            obtain ⟨n0, n1⟩ := (HF.out.fd.node r HL.out).cells2
            have HE := hid (HK.out.stop_here hs1 (by rw [len_toList]; exact hlt) HR.out HN.out (HNo.out))
            go_wp2
            go_ret2
            exact ⟨by rw [HE.out.1, HE.out.2]; rfl, b2⟩
        · skip
          have hgf : k.grows = false := by simpa using hg
          have HG := hid (fun (v : World) (hv : FQ L fb k A cap nb cap2 k.ps N Lo bm n v) => c_grows fb k A cap v HK.out hv.kat)
          rw [hgf] at HG
          have HNo := hid (show ¬ (k.grows = true ∧ fnd k.c k.ps (k.word k.last) = some r ∧ D.data.toList[s]? = D.data.toList[0]?) from fun e => hg e.1)
          clear hg hgf
          have hS := HF.out.t2
          go_wp2_with fail
          replace HF := hid (HF.out.on (bel_drew (Below.refl w2.heap.size w2)))
          replace b2 := bel_drew b2
          refine wp_region_noPanic ?_
          refine wp_region_held_drew (S := (fun v => v.cell? ⟨fb, 5, none⟩ = some (.int .i64 k.last) ∧ v.cell? ⟨fb, 6, none⟩ = some (.slice (some ⟨nb, 0, none⟩) (top k.c k.ps) cap2) ∧ True)) (by kernel_rfl) (t2_drew hS) (fun hHeld => ?_)
          refine tk 0 ?_
          refine tk 1 ?_
          refine tk 2 ?_
          refine wpAnyH_ready (rs := [3]) (by kernel_rfl) (by simp) ?_
          refine AllReadyH.cons (o := ?or4_3) ?ir4_3 (fun K hK => ?sr4_3) AllReadyH.nil
          case ir4_3 => (simp only [List.getElem?_toArray, List.getElem?_cons_succ, List.getElem?_cons_zero]; rfl)
          (first | (go_simp; (first | (go_at_call 175; refine (HG.out _ HF.out).mono ?_; rintro e wQ ⟨rfl, hbQ⟩; replace HF := hid (HF.out.on hbQ); replace b2 := bel_trans b2 hbQ; clear hbQ) | skip)))
          refine hK.out _ _ ?kr4_3 (fun hHeld => ?_)
          case kr4_3 => (try dsimp only); (first | with_reducible assumption | with_reducible exact HF.out.t2 | exact t2_bel (by assumption) (by assumption) | assumption | exact t2_alloc (by assumption) _ | exact HF.out.t2)
          clear hK K
          try simp only [Act.put, List.setIfInBounds_toArray, List.set_cons_zero, List.set_cons_succ]
          refine tk 4 ?_
          refine tu 5 ?_
          refine tu 6 ?_
          refine tu 7 ?_
          refine tu 8 ?_
          refine tu 9 ?_
          refine tu 10 ?_
          refine tu 11 ?_
          refine tu 12 ?_
          refine tu 13 ?_
          refine tu 14 ?_
          refine tu 15 ?_
          refine tu 16 ?_
          refine tu 17 ?_
          refine tk 18 ?_
          refine tk 19 ?_
          refine tu 20 ?_
          refine tu 21 ?_
          refine tu 22 ?_
          refine tu 23 ?_
          refine tu 24 ?_
          refine tu 25 ?_
          refine tk 26 ?_
          refine wpAnyH_done (by kernel_rfl) ?_ _
          refine NoPanic.normal ?_
          clear hS p0 p1 p2 p3 p4 p5 p6 p7 n0 n1
          (try clear hHeld)
          obtain ⟨n0, n1⟩ := (HF.out.fd.node r HL.out).cells2
          have HE := hid (HK.out.stop_here hs1 (by rw [len_toList]; exact hlt) HR.out HN.out (HNo.out))
          go_wp2
          go_ret2
          exact ⟨by rw [HE.out.1, HE.out.2]; rfl, b2⟩
    · skip
      have HE := hid (show k.lng D.data.toList = s ∧ k.find (D.data.toList.take (k.lng D.data.toList)) = r by
        have e : D.data.toList.take s = D.data.toList := List.take_of_length_le (by rw [len_toList]; omega)
        have h1 := HR.out
        rw [e] at h1
        obtain ⟨h2, h3⟩ := Kn.stop_end h1
        refine ⟨by rw [h2, len_toList]; omega, ?_⟩
        rw [h2, List.take_length, h3])
      have hsd : (D.size : Int) = (s : Int) := by omega
      clear hbel
      go_wp2
      go_ret2
      exact ⟨by rw [HE.out.2, HE.out.1]; rfl, HB.out⟩
end Go.Proofs.Ytblmifbpoopbdaa
