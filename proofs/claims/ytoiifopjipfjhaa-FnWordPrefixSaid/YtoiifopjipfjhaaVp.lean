/- The walk of the law on WordPrefix. -/
import Derived.Test.YtoiifopjipfjhaaVk
import Derived.Test.YtoiifopjipfjhaaDp
import Derived.Test.YtoiifopjipfjhaaBf
import Derived.Test.YtoiifopjipfjhaaFm
namespace Go.Proofs.Ytoiifopjipfjhaa
open Go.ChangeShapes Go.WideShapes Go.ChangeAt Go.RowKit Go.Joins
set_option linter.unusedVariables false

theorem cell_lt {v : World} {a : Addr} {x : Value} (h : v.cell? a = some x) : a.block < v.heap.size := by
  apply Classical.byContradiction
  intro hn
  unfold World.cell? at h
  rw [Array.getElem?_eq_none (by omega)] at h
  cases h
theorem KB.byte {L b : Nat} {k : Kn} {A : Option Addr} {cap : Nat} {W : World} (_h : KB L b k A cap W) (X : Int) (t : TypeId) : (W.alloc (.cells #[.int .u8 X] t)).cell? ⟨W.heap.size, 0, none⟩ = some (.int .u8 X) := one_new W _ t 0 _ rfl
theorem run_byte {W : World} {g : Nat} {X : Int} {c : UInt8} (h : W.cell? ⟨g, 0, none⟩ = some (.int .u8 X)) (hX : X = (c.toNat : Int)) : (convert 22 9 (.slice (some ⟨g, 0, none⟩) 1 1)).run Try.prog W = .ok (.string (str [c])) W := by
  refine run_convert_bytes_back (l := [c]) _ _ _ 5 ⟨g, 0, none⟩ 1 Try.underlying22 Try.underlying5 Try.underlying9 ?_
  intro j hj
  have : j = 0 := by simpa using hj
  subst this
  rw [hX] at h
  exact h
theorem PsAt.cell_at {w : World} {L b off cap : Nat} {ps : List Pr} (h : PsAt w L (some ⟨b, off, none⟩) cap ps) {i : Nat} {p : Pr} (hi : ps[i]? = some p) : w.cell? ⟨b, off + i * 2, none⟩ = some (.int .i64 p.1) ∧ w.cell? ⟨b, off + i * 2 + 1, none⟩ = some (.int .i64 p.2) := by
  obtain ⟨b2, off2, e, _, hc⟩ := h.2.2.2 (by have := get_lt hi; omega)
  obtain ⟨rfl, rfl⟩ : b = b2 ∧ off = off2 := by simpa using e
  exact hc i p hi
theorem KB.cells8 {L b0 b off : Nat} {k : Kn} {cap : Nat} {W : World} (h : KB L b0 k (some ⟨b, off, none⟩) cap W) {i : Nat} {p : Pr} (hi : k.ps[i]? = some p) :
    W.cell? ⟨b0, 0, none⟩ = some (.int .i64 k.o) ∧ W.cell? ⟨b0, 1, none⟩ = some (.int .i64 k.l) ∧ W.cell? ⟨b0, 2, none⟩ = some (.int .i64 k.m) ∧ W.cell? ⟨b0, 3, none⟩ = some (.slice (some ⟨b, off, none⟩) k.ps.length cap) ∧ W.cell? ⟨b0, 4, none⟩ = some (.int .i64 k.base) ∧ W.cell? ⟨b0, 5, none⟩ = some (.int .i64 k.last) ∧ W.cell? ⟨b, off + i * 2, none⟩ = some (.int .i64 p.1) ∧ W.cell? ⟨b, off + i * 2 + 1, none⟩ = some (.int .i64 p.2) ∧ True := by
  obtain ⟨h0, h1, h2, h3, h4, h5⟩ := h.bx.cells6
  exact ⟨h0, h1, h2, h3, h4, h5, (h.ps.cell_at hi).1, (h.ps.cell_at hi).2, trivial⟩

set_option maxHeartbeats 4000000 in
set_option maxRecDepth 100000 in
theorem walk_FnWordPrefix (A' : Option Addr) (n cap : Nat) (w : World) (hc : CodeAt w w.heap.size A' n cap) : Calls Try.prog 8 #[.slice A' n cap] w fun e w' => e = .returned (.bool true) ∧ Below w.heap.size w w' := by
  by_cases big : 1048576 < n
  · have h1 := hc.1
    have h2 := hc.2.1
    unfold maxLen at h2
    go_enter Try.func8, Try.ntmps8
    go_wp2_with fail
    go_ret
    exact ⟨rfl, by (repeat (first | with_reducible (first | assumption | exact Below.refl _ _ | refine bel_alloc ?_ _ | refine bel_drew ?_ | refine bel_drewN ?_ _ | refine bel_set ?_ (by first | omega | (simp; done) | (simp; omega)) _ | refine bel_trans ?_ (by assumption)) | assumption | refine bel_trans ?_ (by assumption)))⟩
  · go_enter Try.func8, Try.ntmps8
    go_wp2_with fail
    refine (c_DrawWordOf _ _ _ _ hc).mono ?_
    rintro e w1 ⟨k, A, cp, x, rfl, hw, hl, hx, ho, b1⟩
    have HZ := hid (KB.new ho)
    have c1 := bel_alloc b1 (.cells #[.int .i64 k.o, .int .i64 k.l, .int .i64 k.m, .slice A k.ps.length cp, .int .i64 k.base, .int .i64 k.last] 28)
    clear ho b1 hc
    obtain ⟨p0, p1, p2, p3, p4, p5⟩ := HZ.out.bx.cells6
    by_cases hk : k.Ok
    · skip
      by_cases hf : k.Fol x
      · skip
        have H1 := hid (fun (v : World) (h : KB w1.heap.size w1.heap.size k A cp v) => c_WordOf_yes k A cp _ v h.ps h.le x hk hf hw)
        have H2 := hid (fun (v : World) (h : KB w1.heap.size w1.heap.size k A cp v) => c_sWordOf_yes k A cp _ v h.ps h.le x hk hf hw)
        have hset := hk.set
        have HC := hid (fun (v : World) => c_ClearCode_yes k.o k.l k.m v hset)
        have HE := hid (fun (v : World) => c_EndCode_yes k.o k.l k.m v hset)
        have HS := hid (fun (y : Int) (hy : k.Fol y) (v : World) (h : KB w1.heap.size w1.heap.size k A cp v) => c_soWord k A cp _ v h.ps h.le y hk hy hw)
        obtain ⟨T, hT⟩ : ∃ T, T = str (k.any x) := ⟨_, rfl⟩
        rw [← hT] at H1 H2
        have hcb : 2 ≤ pow2 k.l ∧ pow2 k.l ≤ 256 ∧ pow2 k.l + 3 ≤ pow2 k.m - 1 ∧ pow2 k.m - 1 ≤ 1023 := hk.cbd
        have hfi : 0 ≤ x ∧ x ≤ k.great ∧ x ≠ pow2 k.l ∧ x ≠ pow2 k.l + 1 := (hk.fol_iff x).1 hf
        have enx : k.next = pow2 k.l + 2 + k.ps.length := next_eq k
        have ec : k.c = pow2 k.l := rfl
        obtain ⟨C, hC⟩ : ∃ C, C = pow2 k.l := ⟨_, rfl⟩
        simp only [← hC] at HC HE hcb hfi enx ec
        by_cases hlt : x < C
        · skip
          have hTl : T = str [byt x] := by rw [hT, Kn.lit_any hfi.1 (by rw [ec]; exact hlt)]
          clear HE HS hT hC hw hk hset hf
          have ey := IntWalk.u8_in x (by omega)
          have HY := hid (byt_nat hfi.1 (by omega))
          go_wp2_with fail
          refine (H1.out _ HZ.out).mono ?_
          rintro e w2 ⟨rfl, hb2⟩
          replace HZ := hid (HZ.out.on hb2)
          have c2 := bel_trans c1 hb2
          clear hb2 p0 p1 p2 p3 p4 p5
          obtain ⟨p0, p1, p2, p3, p4, p5⟩ := HZ.out.bx.cells6
          go_wp2_with fail
          refine (H2.out _ HZ.out).mono ?_
          rintro e w3 ⟨rfl, hb3⟩
          replace HZ := hid (HZ.out.on hb3)
          have c3 := bel_trans c2 hb3
          clear hb3 p0 p1 p2 p3 p4 p5
          obtain ⟨p0, p1, p2, p3, p4, p5⟩ := HZ.out.bx.cells6
          go_wp2_with fail
          refine (HC.out _).mono ?_
          rintro e w4 ⟨rfl, hb4⟩
          replace HZ := hid (HZ.out.on hb4)
          have c4 := bel_trans c3 hb4
          clear hb4 p0 p1 p2 p3 p4 p5
          obtain ⟨p0, p1, p2, p3, p4, p5⟩ := HZ.out.bx.cells6
          have hrn := run_one (P := Try.prog) (w := w4) (e := 5) (src := 22) (dst := 9) Try.underlying22 Try.underlying5 Try.underlying9 HY.out.symm
          go_wp2
          go_ret
          exact ⟨rfl, by (repeat (first | with_reducible (first | assumption | exact Below.refl _ _ | refine bel_alloc ?_ _ | refine bel_drew ?_ | refine bel_drewN ?_ _ | refine bel_set ?_ (by first | omega | (simp; done) | (simp; omega)) _ | refine bel_trans ?_ (by assumption)) | assumption | refine bel_trans ?_ (by assumption)))⟩
        · skip
          have hxn : ¬ x < C := hlt
          obtain ⟨i, hi⟩ : ∃ i : Nat, x = C + 2 + (i : Int) := ⟨(x - (C + 2)).toNat, by omega⟩
          have hgl : k.great ≤ k.next := by unfold Kn.great; split <;> omega
          have hlen := hk.len
          have hxe : x - (C + 1) - 1 = (i : Int) := by omega
          by_cases hat : i = k.ps.length
          · skip
            have ea : ((i : Int) == (k.ps.length : Int)) = true := eq_yes (by omega)
            have hg : k.grows = true := by
              rcases hf with hf | hf
              · exfalso; unfold HasW at hf; rw [ec] at hf; omega
              · exact hf.1
            have hnx : x = k.next := by omega
            have hLF := hk.last_fol hg
            have HL := hid (HS.out k.last hLF)
            rw [hk.last_any hg] at HL
            have hne := word_ne _ _ hk.pairs _ (hk.lastW hg)
            obtain ⟨WL, hWL⟩ : ∃ WL, WL = str (k.word k.last) := ⟨_, rfl⟩
            have hTW : T = WL ++ WL.extract 0 1 := by rw [hT, hnx, Kn.any_next, str_take _ 1 WL hWL, hWL, str_append]
            have hWe : WL.toList.isEmpty = false := by
              rw [ByteArray.toList_eq, hWL, str_list]
              cases hq : k.word k.last with
              | nil => exact absurd hq hne
              | cons a t => rfl
            have hWs : 1 ≤ WL.size := by
              rw [hWL, str_size]
              exact List.length_pos_iff.2 hne
            have ha1 : ∀ W, (Op.stringOp .add WL (WL.extract 0 1)).run Try.prog W = .ok (.string (WL ++ WL.extract 0 1)) W := fun W => run_string_add W _ _ (by
              have h1 := word_len _ _ hk.pairs _ (hk.lastW hg)
              have h2 : WL.size = (wd k.c k.ps k.last).length := by rw [hWL, str_size]; rfl
              omega) (by
              have h3 : (WL.extract 0 1).size ≤ 1 := by rw [str_take _ 1 WL hWL, str_size]; simp; omega
              omega)
            rw [← hWL] at HL
            clear hWL hT hne hLF HS hf hk hw hset hgl enx
            have HTW := hid hTW
            have HWe := hid hWe
            clear hTW hWe hi hnx hg ec hlt hC
            subst hat
            go_wp2_with fail
            refine (H1.out _ HZ.out).mono ?_
            rintro e w2 ⟨rfl, hb2⟩
            replace HZ := hid (HZ.out.on hb2)
            have c2 := bel_trans c1 hb2
            clear hb2 p0 p1 p2 p3 p4 p5
            obtain ⟨p0, p1, p2, p3, p4, p5⟩ := HZ.out.bx.cells6
            go_wp2_with fail
            refine (H2.out _ HZ.out).mono ?_
            rintro e w3 ⟨rfl, hb3⟩
            replace HZ := hid (HZ.out.on hb3)
            have c3 := bel_trans c2 hb3
            clear hb3 p0 p1 p2 p3 p4 p5
            obtain ⟨p0, p1, p2, p3, p4, p5⟩ := HZ.out.bx.cells6
            go_wp2_with fail
            refine (HC.out _).mono ?_
            rintro e w4 ⟨rfl, hb4⟩
            replace HZ := hid (HZ.out.on hb4)
            have c4 := bel_trans c3 hb4
            clear hb4 p0 p1 p2 p3 p4 p5
            obtain ⟨p0, p1, p2, p3, p4, p5⟩ := HZ.out.bx.cells6
            go_wp2_with fail
            refine (HE.out _).mono ?_
            rintro e w5 ⟨rfl, hb5⟩
            replace HZ := hid (HZ.out.on hb5)
            have c5 := bel_trans c4 hb5
            clear hb5 p0 p1 p2 p3 p4 p5
            obtain ⟨p0, p1, p2, p3, p4, p5⟩ := HZ.out.bx.cells6
            go_wp2_with fail
            refine (HL.out _ HZ.out).mono ?_
            rintro e w6 ⟨rfl, hb6⟩
            replace HZ := hid (HZ.out.on hb6)
            have c6 := bel_trans c5 hb6
            clear hb6 p0 p1 p2 p3 p4 p5
            obtain ⟨p0, p1, p2, p3, p4, p5⟩ := HZ.out.bx.cells6
            have hTW := HTW.out
            have hWe := HWe.out
            clear HTW HWe
            go_wp2
            go_ret
            exact ⟨rfl, by (repeat (first | with_reducible (first | assumption | exact Below.refl _ _ | refine bel_alloc ?_ _ | refine bel_drew ?_ | refine bel_drewN ?_ _ | refine bel_set ?_ (by first | omega | (simp; done) | (simp; omega)) _ | refine bel_trans ?_ (by assumption)) | assumption | refine bel_trans ?_ (by assumption)))⟩
          · skip
            have ea : ((i : Int) == (k.ps.length : Int)) = false := eq_no (by omega)
            have hil : i < k.ps.length := by omega
            obtain ⟨pp, hpp⟩ : ∃ pp, k.ps[i]? = some pp := ⟨_, List.getElem?_eq_getElem hil⟩
            obtain ⟨hpa, hpf⟩ := hk.pair_any hpp
            have hpb := hk.pairs i pp hpp
            have HL := hid (HS.out pp.1 hpf)
            obtain ⟨PW, hPW⟩ : ∃ PW, PW = str (k.any pp.1) := ⟨_, rfl⟩
            have hTW : T = PW ++ str [byt pp.2] := by rw [hT, hPW, str_append, ← hpa]; congr 2; rw [hi, ec]
            have ey := IntWalk.u8_in pp.2 (by have := hpb.2; omega)
            have HY := hid (byt_nat hpb.2.1 (by have := hpb.2; omega))
            rw [← hPW] at HL
            have HPS := hid (show PW.size = (k.any pp.1).length ∧ (k.any pp.1).length ≤ 1022 from ⟨by rw [hPW, str_size], hk.any_len hpf⟩)
            obtain ⟨b, off, rfl, _⟩ := pair_at HZ.out.ps i hil
            clear hPW hT hpa hpf hpb HS hf hk hw hset hgl enx
            obtain ⟨BY, hBY⟩ : ∃ BY, BY = str [byt pp.2] := ⟨_, rfl⟩
            rw [← hBY] at hTW
            have ha1 : ∀ W, (Op.stringOp .add PW BY).run Try.prog W = .ok (.string (PW ++ BY)) W := fun W => run_string_add W _ _ (by
              have h2 : PW.size ≤ 1022 := by rw [HPS.out.1]; exact HPS.out.2
              omega) (by
              have h3 : BY.size = 1 := by rw [hBY, str_size]; rfl
              omega)
            have hsz : ¬ 9223372036854775807 < PW.size + BY.size := by
              have h2 : PW.size ≤ 1022 := by rw [HPS.out.1]; exact HPS.out.2
              have h3 : BY.size = 1 := by rw [hBY, str_size]; rfl
              omega
            have HTW := hid hTW
            have HBY := hid hBY
            clear hTW hi ec hlt hC hBY
            go_wp2_with fail
            refine (H1.out _ HZ.out).mono ?_
            rintro e w2 ⟨rfl, hb2⟩
            replace HZ := hid (HZ.out.on hb2)
            have c2 := bel_trans c1 hb2
            clear hb2 p0 p1 p2 p3 p4 p5
            obtain ⟨p0, p1, p2, p3, p4, p5⟩ := HZ.out.bx.cells6
            go_wp2_with fail
            refine (H2.out _ HZ.out).mono ?_
            rintro e w3 ⟨rfl, hb3⟩
            replace HZ := hid (HZ.out.on hb3)
            have c3 := bel_trans c2 hb3
            clear hb3 p0 p1 p2 p3 p4 p5
            obtain ⟨p0, p1, p2, p3, p4, p5⟩ := HZ.out.bx.cells6
            go_wp2_with fail
            refine (HC.out _).mono ?_
            rintro e w4 ⟨rfl, hb4⟩
            replace HZ := hid (HZ.out.on hb4)
            have c4 := bel_trans c3 hb4
            clear hb4 p0 p1 p2 p3 p4 p5
            obtain ⟨p0, p1, p2, p3, p4, p5⟩ := HZ.out.bx.cells6
            go_wp2_with fail
            refine (HE.out _).mono ?_
            rintro e w5 ⟨rfl, hb5⟩
            replace HZ := hid (HZ.out.on hb5)
            have c5 := bel_trans c4 hb5
            clear hb5 p0 p1 p2 p3 p4 p5
            obtain ⟨p0, p1, p2, p3, p4, p5⟩ := HZ.out.bx.cells6
            have hTW := HTW.out
            clear HTW
            have hS := HZ.out.cells8 hpp
            clear p0 p1 p2 p3 p4 p5
            go_wp2_with fail
            replace HZ := hid (HZ.out.on (bel_drew (Below.refl w5.heap.size w5)))
            replace c5 := bel_drew c5
            refine wp_region_noPanic ?_
            refine wp_region_held_drew (S := (fun v => v.cell? ⟨w1.heap.size, 0, none⟩ = some (.int .i64 k.o) ∧ v.cell? ⟨w1.heap.size, 1, none⟩ = some (.int .i64 k.l) ∧ v.cell? ⟨w1.heap.size, 2, none⟩ = some (.int .i64 k.m) ∧ v.cell? ⟨w1.heap.size, 3, none⟩ = some (.slice (some ⟨b, off, none⟩) k.ps.length cp) ∧ v.cell? ⟨w1.heap.size, 4, none⟩ = some (.int .i64 k.base) ∧ v.cell? ⟨w1.heap.size, 5, none⟩ = some (.int .i64 k.last) ∧ v.cell? ⟨b, off + i * 2, none⟩ = some (.int .i64 pp.1) ∧ v.cell? ⟨b, off + i * 2 + 1, none⟩ = some (.int .i64 pp.2) ∧ True)) (by kernel_rfl) (t8_drew hS) (fun hHeld => ?_)
            refine tk 0 ?_
            refine tk 1 ?_
            refine tk 2 ?_
            refine tk 3 ?_
            refine tk 4 ?_
            refine tk 5 ?_
            refine tk 6 ?_
            refine tk 7 ?_
            refine tk 8 ?_
            refine tk 9 ?_
            refine tk 10 ?_
            refine tk 11 ?_
            refine tk 12 ?_
            refine tk 13 ?_
            refine tk 14 ?_
            refine tk 15 ?_
            refine tk 16 ?_
            refine tk 17 ?_
            refine tk 19 ?_
            refine tk 20 ?_
            refine tk 21 ?_
            refine tk 22 ?_
            refine tk 23 ?_
            refine tk 24 ?_
            refine tk 25 ?_
            refine wpAnyH_ready (rs := [18, 26]) (by kernel_rfl) (by simp) ?_
            refine AllReadyH.cons (o := ?or1_18) ?ir1_18 (fun K hK => ?sr1_18) (AllReadyH.cons (o := ?or1_26) ?ir1_26 (fun K hK => ?sr1_26) AllReadyH.nil)
            case ir1_18 => (simp only [List.getElem?_toArray, List.getElem?_cons_succ, List.getElem?_cons_zero]; rfl)
            case ir1_26 => (simp only [List.getElem?_toArray, List.getElem?_cons_succ, List.getElem?_cons_zero]; rfl)
            case' sr1_18 =>
              (go_simp; (go_at_call 46; refine (HL.out _ HZ.out).mono ?_; rintro e wS ⟨rfl, hbS⟩; replace HZ := hid (HZ.out.on hbS); replace c5 := bel_trans c5 hbS; (try replace HV := hid (cell_on HV.out hbS (cell_lt HV.out)))))
              refine hK.out _ _ ?kr1_18 (fun hHeld => ?_)
              case kr1_18 => (try dsimp only); (first | with_reducible assumption | with_reducible exact HZ.out.cells8 hpp | exact t8_bel (by assumption) (by assumption) | assumption | exact t8_alloc (by assumption) _ | exact HZ.out.cells8 hpp)
              clear hK K
              try simp only [Act.put, List.setIfInBounds_toArray, List.set_cons_zero, List.set_cons_succ]
              refine wpAnyH_ready (rs := [26]) (by kernel_rfl) (by simp) ?_
              refine AllReadyH.cons (o := ?or1b1_26) ?ir1b1_26 (fun K hK => ?sr1b1_26) AllReadyH.nil
              case ir1b1_26 => (simp only [List.getElem?_toArray, List.getElem?_cons_succ, List.getElem?_cons_zero]; rfl)
              (go_simp; (have HV := hid (HZ.out.byte pp.2 5); replace HZ := hid (HZ.out.on (bel_alloc (Below.refl _ _) (.cells #[.int .u8 pp.2] 5))); replace c5 := bel_alloc c5 (.cells #[.int .u8 pp.2] 5)))
              refine hK.out _ _ ?kr1b1_26 (fun hHeld => ?_)
              case kr1b1_26 => (try dsimp only); (first | with_reducible assumption | with_reducible exact HZ.out.cells8 hpp | exact t8_bel (by assumption) (by assumption) | assumption | exact t8_alloc (by assumption) _ | exact HZ.out.cells8 hpp)
              clear hK K
              try simp only [Act.put, List.setIfInBounds_toArray, List.set_cons_zero, List.set_cons_succ]
              refine wpAnyH_ready (rs := [27]) (by kernel_rfl) (by simp) ?_
              refine AllReadyH.cons (o := ?or1b1_27) ?ir1b1_27 (fun K hK => ?sr1b1_27) AllReadyH.nil
              case ir1b1_27 => (simp only [List.getElem?_toArray, List.getElem?_cons_succ, List.getElem?_cons_zero]; rfl)
              (have hrn := run_byte HV.out HY.out.symm; rw [← HBY.out] at hrn; have hrn2 := hrn; (try rw [show w5.drew.heap.size = w5.heap.size from rfl] at hrn2); have hrn3 : (convert 22 9 (.slice (some ⟨w5.heap.size, 0, none⟩) 1 1)).run Try.prog (w5.alloc (.cells #[.int .u8 pp.2] 5)).drew = .ok (.string BY) (w5.alloc (.cells #[.int .u8 pp.2] 5)).drew := (by first | exact hrn | exact hrn2 | (have h9 := run_byte (W := (w5.alloc (.cells #[.int .u8 pp.2] 5)).drew) (g := w5.heap.size) (one_new w5 _ _ 0 _ rfl) HY.out.symm; rw [← HBY.out] at h9; exact h9)); go_simp)
              refine hK.out _ _ ?kr1b1_27 (fun hHeld => ?_)
              case kr1b1_27 => (try dsimp only); (first | with_reducible assumption | with_reducible exact HZ.out.cells8 hpp | exact t8_bel (by assumption) (by assumption) | assumption | exact t8_alloc (by assumption) _ | exact HZ.out.cells8 hpp)
              clear hK K
              try simp only [Act.put, List.setIfInBounds_toArray, List.set_cons_zero, List.set_cons_succ]
              refine tk 28 ?_
              refine tk 29 ?_
              refine tk 30 ?_
              refine tk 31 ?_
              refine wpAnyH_done (by kernel_rfl) ?_ _
              refine NoPanic.normal ?_
            case' sr1_26 =>
              (go_simp; (have HV := hid (HZ.out.byte pp.2 5); replace HZ := hid (HZ.out.on (bel_alloc (Below.refl _ _) (.cells #[.int .u8 pp.2] 5))); replace c5 := bel_alloc c5 (.cells #[.int .u8 pp.2] 5)))
              refine hK.out _ _ ?kr1_26 (fun hHeld => ?_)
              case kr1_26 => (try dsimp only); (first | with_reducible assumption | with_reducible exact HZ.out.cells8 hpp | exact t8_bel (by assumption) (by assumption) | assumption | exact t8_alloc (by assumption) _ | exact HZ.out.cells8 hpp)
              clear hK K
              try simp only [Act.put, List.setIfInBounds_toArray, List.set_cons_zero, List.set_cons_succ]
              refine wpAnyH_ready (rs := [18, 27]) (by kernel_rfl) (by simp) ?_
              refine AllReadyH.cons (o := ?or1b2_18) ?ir1b2_18 (fun K hK => ?sr1b2_18) (AllReadyH.cons (o := ?or1b2_27) ?ir1b2_27 (fun K hK => ?sr1b2_27) AllReadyH.nil)
              case ir1b2_18 => (simp only [List.getElem?_toArray, List.getElem?_cons_succ, List.getElem?_cons_zero]; rfl)
              case ir1b2_27 => (simp only [List.getElem?_toArray, List.getElem?_cons_succ, List.getElem?_cons_zero]; rfl)
              case' sr1b2_18 =>
                (go_simp; (go_at_call 46; refine (HL.out _ HZ.out).mono ?_; rintro e wS ⟨rfl, hbS⟩; replace HZ := hid (HZ.out.on hbS); replace c5 := bel_trans c5 hbS; (try replace HV := hid (cell_on HV.out hbS (cell_lt HV.out)))))
                refine hK.out _ _ ?kr1b2_18 (fun hHeld => ?_)
                case kr1b2_18 => (try dsimp only); (first | with_reducible assumption | with_reducible exact HZ.out.cells8 hpp | exact t8_bel (by assumption) (by assumption) | assumption | exact t8_alloc (by assumption) _ | exact HZ.out.cells8 hpp)
                clear hK K
                try simp only [Act.put, List.setIfInBounds_toArray, List.set_cons_zero, List.set_cons_succ]
                refine wpAnyH_ready (rs := [27]) (by kernel_rfl) (by simp) ?_
                refine AllReadyH.cons (o := ?or1b2b3_27) ?ir1b2b3_27 (fun K hK => ?sr1b2b3_27) AllReadyH.nil
                case ir1b2b3_27 => (simp only [List.getElem?_toArray, List.getElem?_cons_succ, List.getElem?_cons_zero]; rfl)
                (have hrn := run_byte HV.out HY.out.symm; rw [← HBY.out] at hrn; have hrn2 := hrn; (try rw [show w5.drew.heap.size = w5.heap.size from rfl] at hrn2); have hrn3 : (convert 22 9 (.slice (some ⟨w5.heap.size, 0, none⟩) 1 1)).run Try.prog (w5.alloc (.cells #[.int .u8 pp.2] 5)).drew = .ok (.string BY) (w5.alloc (.cells #[.int .u8 pp.2] 5)).drew := (by first | exact hrn | exact hrn2 | (have h9 := run_byte (W := (w5.alloc (.cells #[.int .u8 pp.2] 5)).drew) (g := w5.heap.size) (one_new w5 _ _ 0 _ rfl) HY.out.symm; rw [← HBY.out] at h9; exact h9)); go_simp)
                refine hK.out _ _ ?kr1b2b3_27 (fun hHeld => ?_)
                case kr1b2b3_27 => (try dsimp only); (first | with_reducible assumption | with_reducible exact HZ.out.cells8 hpp | exact t8_bel (by assumption) (by assumption) | assumption | exact t8_alloc (by assumption) _ | exact HZ.out.cells8 hpp)
                clear hK K
                try simp only [Act.put, List.setIfInBounds_toArray, List.set_cons_zero, List.set_cons_succ]
                refine tk 28 ?_
                refine tk 29 ?_
                refine tk 30 ?_
                refine tk 31 ?_
                refine wpAnyH_done (by kernel_rfl) ?_ _
                refine NoPanic.normal ?_
              case' sr1b2_27 =>
                (have hrn := run_byte HV.out HY.out.symm; rw [← HBY.out] at hrn; have hrn2 := hrn; (try rw [show w5.drew.heap.size = w5.heap.size from rfl] at hrn2); have hrn3 : (convert 22 9 (.slice (some ⟨w5.heap.size, 0, none⟩) 1 1)).run Try.prog (w5.alloc (.cells #[.int .u8 pp.2] 5)).drew = .ok (.string BY) (w5.alloc (.cells #[.int .u8 pp.2] 5)).drew := (by first | exact hrn | exact hrn2 | (have h9 := run_byte (W := (w5.alloc (.cells #[.int .u8 pp.2] 5)).drew) (g := w5.heap.size) (one_new w5 _ _ 0 _ rfl) HY.out.symm; rw [← HBY.out] at h9; exact h9)); go_simp)
                refine hK.out _ _ ?kr1b2_27 (fun hHeld => ?_)
                case kr1b2_27 => (try dsimp only); (first | with_reducible assumption | with_reducible exact HZ.out.cells8 hpp | exact t8_bel (by assumption) (by assumption) | assumption | exact t8_alloc (by assumption) _ | exact HZ.out.cells8 hpp)
                clear hK K
                try simp only [Act.put, List.setIfInBounds_toArray, List.set_cons_zero, List.set_cons_succ]
                refine wpAnyH_ready (rs := [18]) (by kernel_rfl) (by simp) ?_
                refine AllReadyH.cons (o := ?or1b2b4_18) ?ir1b2b4_18 (fun K hK => ?sr1b2b4_18) AllReadyH.nil
                case ir1b2b4_18 => (simp only [List.getElem?_toArray, List.getElem?_cons_succ, List.getElem?_cons_zero]; rfl)
                (go_simp; (go_at_call 46; refine (HL.out _ HZ.out).mono ?_; rintro e wS ⟨rfl, hbS⟩; replace HZ := hid (HZ.out.on hbS); replace c5 := bel_trans c5 hbS; (try replace HV := hid (cell_on HV.out hbS (cell_lt HV.out)))))
                refine hK.out _ _ ?kr1b2b4_18 (fun hHeld => ?_)
                case kr1b2b4_18 => (try dsimp only); (first | with_reducible assumption | with_reducible exact HZ.out.cells8 hpp | exact t8_bel (by assumption) (by assumption) | assumption | exact t8_alloc (by assumption) _ | exact HZ.out.cells8 hpp)
                clear hK K
                try simp only [Act.put, List.setIfInBounds_toArray, List.set_cons_zero, List.set_cons_succ]
                refine tk 28 ?_
                refine tk 29 ?_
                refine tk 30 ?_
                refine tk 31 ?_
                refine wpAnyH_done (by kernel_rfl) ?_ _
                refine NoPanic.normal ?_
            all_goals
              go_wp2
              go_ret
              exact ⟨rfl, c5⟩
      · skip
        have H1 := hid (fun (v : World) (h : KB w1.heap.size w1.heap.size k A cp v) => c_WordOf_no k A cp _ v h.ps h.le x hk hf hw)
        have H2 := hid (fun (v : World) (h : KB w1.heap.size w1.heap.size k A cp v) => c_sWordOf_no k A cp _ v h.ps h.le x hk hf hw)
        clear hk hw hf
        go_wp2_with fail
        refine (H1.out _ HZ.out).mono ?_
        rintro e w2 ⟨rfl, hb2⟩
        replace HZ := hid (HZ.out.on hb2)
        have c2 := bel_trans c1 hb2
        clear hb2 p0 p1 p2 p3 p4 p5
        obtain ⟨p0, p1, p2, p3, p4, p5⟩ := HZ.out.bx.cells6
        go_wp2_with fail
        refine (H2.out _ HZ.out).mono ?_
        rintro e w3 ⟨rfl, hb3⟩
        replace HZ := hid (HZ.out.on hb3)
        have c3 := bel_trans c2 hb3
        clear hb3 p0 p1 p2 p3 p4 p5
        obtain ⟨p0, p1, p2, p3, p4, p5⟩ := HZ.out.bx.cells6
        go_wp2
        go_ret
        exact ⟨rfl, by (repeat (first | with_reducible (first | assumption | exact Below.refl _ _ | refine bel_alloc ?_ _ | refine bel_drew ?_ | refine bel_drewN ?_ _ | refine bel_set ?_ (by first | omega | (simp; done) | (simp; omega)) _ | refine bel_trans ?_ (by assumption)) | assumption | refine bel_trans ?_ (by assumption)))⟩
    · skip
      have H1 := hid (fun (v : World) (h : KB w1.heap.size w1.heap.size k A cp v) => c_WordOf_bad k A cp _ v h.ps h.le x hk hw)
      have H2 := hid (fun (v : World) (h : KB w1.heap.size w1.heap.size k A cp v) => c_sWordOf_bad k A cp _ v h.ps h.le x hk hw)
      clear hk hw
      go_wp2_with fail
      refine (H1.out _ HZ.out).mono ?_
      rintro e w2 ⟨rfl, hb2⟩
      replace HZ := hid (HZ.out.on hb2)
      have c2 := bel_trans c1 hb2
      clear hb2 p0 p1 p2 p3 p4 p5
      obtain ⟨p0, p1, p2, p3, p4, p5⟩ := HZ.out.bx.cells6
      go_wp2_with fail
      refine (H2.out _ HZ.out).mono ?_
      rintro e w3 ⟨rfl, hb3⟩
      replace HZ := hid (HZ.out.on hb3)
      have c3 := bel_trans c2 hb3
      clear hb3 p0 p1 p2 p3 p4 p5
      obtain ⟨p0, p1, p2, p3, p4, p5⟩ := HZ.out.bx.cells6
      go_wp2
      go_ret
      exact ⟨rfl, by (repeat (first | with_reducible (first | assumption | exact Below.refl _ _ | refine bel_alloc ?_ _ | refine bel_drew ?_ | refine bel_drewN ?_ _ | refine bel_set ?_ (by first | omega | (simp; done) | (simp; omega)) _ | refine bel_trans ?_ (by assumption)) | assumption | refine bel_trans ?_ (by assumption)))⟩
end Go.Proofs.Ytoiifopjipfjhaa
