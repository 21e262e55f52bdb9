/- What is known as a text: FormatKnown in both programs. -/
import Derived.Test.YtmfnfheahehpcaaGreatDoorFa
import Derived.Test.YtmfnfheahehpcaaGreatDoorGo
import Derived.Test.YtmfnfheahehpcaaGreatDoorBb
namespace Go.Proofs.YtmfnfheahehpcaaGreatDoor
open Go.ChangeShapes Go.WideShapes Go.ChangeAt Go.RowKit Go.Joins
set_option linter.unusedVariables false
set_option linter.unusedSimpArgs false

theorem prk_at {w : World} {L cap : Nat} {A : Option Addr} {ps : List Pr} (h : PsAt w L A cap ps) (i : Nat) (hi : i < ps.length) : ∃ b off, A = some ⟨b, off, none⟩ ∧ b < L ∧ w.cell? ⟨b, off + i * 2, none⟩ = some (.int .i64 ps[i].1) ∧ w.cell? ⟨b, off + i * 2 + 1, none⟩ = some (.int .i64 ps[i].2) := by
  obtain ⟨b, off, e, hb, hc⟩ := h.2.2.2 (by omega)
  have := hc i ps[i] (List.getElem?_eq_getElem hi)
  exact ⟨b, off, e, hb, this.1, this.2⟩
def fpP (ps : List Pr) : ByteArray := dashI (str (jc 44 (ps.map pkT) ps.length))

set_option maxHeartbeats 8000000 in
set_option maxRecDepth 100000 in
theorem c_formatPairs (A : Option Addr) (cap : Nat) (ps : List Pr) (L : Nat) (w : World) (h : PsAt w L A cap ps) (hL : L ≤ w.heap.size) (hn : ps.length ≤ 1022) (hpo0 : ∀ i (hi : i < ps.length), (0 ≤ ps[i].1 ∧ ps[i].1 ≤ 4000) ∧ (0 ≤ ps[i].2 ∧ ps[i].2 ≤ 2000)) (hTab : Tab w) : Calls Tryz.prog 26 #[.slice A ps.length cap] w fun e w' => e = .returned (.string (fpP ps)) ∧ Below w.heap.size w w' := by
  have hpz : ∀ s ∈ ps.map pkT, s.size ≤ 21 := by
    intro s hs
    obtain ⟨p, hp, rfl⟩ := List.mem_map.1 hs
    obtain ⟨i, hi, rfl⟩ := List.mem_iff_getElem.1 hp
    exact pkT_size (hpo0 i hi).1 (hpo0 i hi).2
  have HPO := hid hpo0
  have HT := hid (fun (v : World) (hb : Below w.heap.size w v) => hTab.on hb)
  clear hpo0
  have hjl := jc_len 44 (ps.map pkT) hpz ps.length (by simp)
  have hjj := jc_join 44 (ps.map pkT) ps.length (by simp)
  rw [List.take_of_length_le (by simp)] at hjj
  rw [hjj] at hjl
  obtain ⟨J, hJ⟩ : ∃ J, J = str (jc 44 (ps.map pkT) ps.length) := ⟨_, rfl⟩
  rw [show fpP ps = dashI J by rw [fpP, ← hJ]]
  have HJ := hid (show J = ⟨(Lib.join ((ps.map pkT).map (·.data.toList)) [44]).toArray⟩ by rw [hJ, hjj]; rfl)
  have HJL := hid (show (Lib.join ((ps.map pkT).map (·.data.toList)) [44]).length ≤ 140737488355328 by omega)
  have HD := hid (fun v => c_dashIfEmptyI J v)
  obtain ⟨N, hN⟩ : ∃ N, N = ps.length := ⟨_, rfl⟩
  have HN := hid hN
  have HH := hid h
  rw [← hN] at hn ⊢
  clear hJ hN h hjl hjj hTab hpz
  go_enter Tryz.func26, Tryz.ntmps26
  go_wp2_with (at_make; refine make_strs rfl _ _ 50 rfl w.heap.size 9 Tryz.underlying50 Tryz.info_txt .i64 .i64 _ _ N rfl rfl (by omega) (by omega) (by omega) (Nat.le_refl _) ?_; intro w2 hown2 hb2 hg2)
  have hB2 := hb2
  obtain ⟨G, hG⟩ : ∃ G, G = w.heap.size := ⟨_, rfl⟩
  rw [← hG] at hown2 ⊢
  have hown2 := own_mono (B' := w.heap.size) hown2 (by omega)
  clear hG hb2 hg2
  go_loopw [11] (fun i wr => ∃ k : Nat, k ≤ N ∧ i = .int .i64 k ∧ wr.ownsRow w.heap.size 9 1 (.slice (some ⟨G, 0, none⟩) N N) N ((((ps.map pkT).take k) ++ List.replicate (N - k) ByteArray.empty).map sv) ∧ Below w.heap.size w wr) (fun i _ => N - (intOf i).toNat)
  case atStart => exact ⟨0, Nat.zero_le _, rfl, by simpa using hown2, hB2⟩
  case round =>
    obtain ⟨k, hk, rfl, hown, hbl⟩ := hrel
    rename_i wr _
    have hzr := hbl.size
    by_cases hlt : k < N
    · have hlt2 : k < ps.length := by have := HN.out; omega
      have hlt3 : k < (ps.map pkT).length := by simp; exact hlt2
      obtain ⟨b, off, rfl, hb, hc0, hc1⟩ := prk_at (HH.out.below hbl hL) k hlt2
      have hpo := HPO.out k hlt2
      have HP2 := hid (show (ps.map pkT)[k] = pkT ps[k] by simp)
      obtain ⟨p, hp⟩ : ∃ p, p = ps[k] := ⟨_, rfl⟩
      rw [← hp] at hc0 hc1 hpo HP2
      obtain ⟨p1, p2⟩ := p
      simp only at hc0 hc1 hpo
      have H1 := hid (fun v (hb : Below w.heap.size w v) => c_itoaT p1 v (by omega) (by omega) (HT.out v hb))
      have H2 := hid (fun v (hb : Below w.heap.size w v) => c_itoaT p2 v (by omega) (by omega) (HT.out v hb))
      have zA0 := (dec_len p1 hpo.1.1 (by omega)).2
      have zB0 := (dec_len p2 hpo.2.1 (by omega)).2
      obtain ⟨A1, hA1⟩ : ∃ A1, A1 = str (dec p1) := ⟨_, rfl⟩
      obtain ⟨B1, hB1⟩ : ∃ B1, B1 = str (dec p2) := ⟨_, rfl⟩
      rw [← hA1] at H1
      rw [← hB1] at H2
      have zA : A1.size ≤ 10 := by rw [hA1, str_size]; exact zA0
      have zB : B1.size ≤ 10 := by rw [hB1, str_size]; exact zB0
      have hpt : pkT (p1, p2) = A1 ++ ⟨#[46]⟩ ++ B1 := by unfold pkT; rw [← hA1, ← hB1]
      have HS := hid (show ((ps.map pkT).take k ++ List.replicate (N - k) ByteArray.empty).set k (A1 ++ ⟨#[46]⟩ ++ B1) = (ps.map pkT).take (k + 1) ++ List.replicate (N - (k + 1)) ByteArray.empty by
        rw [set_done _ ((ps.map pkT).take k) ByteArray.empty N k _ rfl (by simp; omega) hlt, ← hpt, ← HP2.out, List.take_succ_eq_append_getElem hlt3])
      have HE0 := hid (show ((ps.map pkT).take k ++ List.replicate (N - k) ByteArray.empty)[k]? = some ByteArray.empty by
        rw [List.getElem?_append_right (by simp; omega), List.getElem?_replicate, if_pos (by simp; omega)])
      have hkN : (k : Int) < (N : Int) := by omega
      have e1 : (⟨#[46]⟩ : ByteArray).size = 1 := rfl
      have a1 : ∀ W, (Op.stringOp .add A1 ⟨#[46]⟩).run Tryz.prog W = .ok (.string (A1 ++ ⟨#[46]⟩)) W := fun W => run_string_add W _ _ (by omega) (by omega)
      have a2 : ∀ W, (Op.stringOp .add (A1 ++ ⟨#[46]⟩) B1).run Tryz.prog W = .ok (.string (A1 ++ ⟨#[46]⟩ ++ B1)) W := fun W => run_string_add W _ _ (by rw [ByteArray.size_append]; omega) (by omega)
      have hRB := Blk.new wr 53 #[.int .i64 0, .int .i64 0]
      have s0 := hRB.cell 0
      have s1 := hRB.cell 1
      have g0 := hRB.frozen 0
      have g1 := hRB.frozen 1
      have hbn : Below wr.heap.size wr (wr.alloc (.cells #[.int .i64 p1, .int .i64 p2] 53)) := bel_alloc (Below.refl _ wr) _
      have HK0 := hid (Blk.new wr 53 #[.int .i64 p1, .int .i64 p2])
      have HO0 := hid (own_on hown hbn)
      have HB0 := hid (hbl.trans (hbn.mono hzr))
      obtain ⟨PB, hPB⟩ : ∃ PB, PB = wr.heap.size := ⟨_, rfl⟩
      have HPB := hid hPB
      clear hp hpt hA1 hB1 zA0 zB0 hpo hRB hown hPB
      go_wp2_with fail
      clear s0 s1 g0 g1 hc0 hc1
      obtain ⟨W0, hW0⟩ : ∃ W0, W0 = wr.alloc (.cells #[.int .i64 p1, .int .i64 p2] 53) := ⟨_, rfl⟩
      rw [← hW0] at HK0 HO0 HB0 ⊢
      rw [← HPB.out] at HK0 ⊢
      clear hW0 hbn
      have HK := hid (HK0.out.on (bel_drew (Below.refl _ W0)))
      have HO := hid (own_on HO0.out (bel_drew (Below.refl _ W0)))
      have HB := hid (HB0.out.drew)
      have hS : W0.cell? ⟨PB, 0, none⟩ = some (.int .i64 p1) ∧ W0.cell? ⟨PB, 1, none⟩ = some (.int .i64 p2) ∧ True := ⟨HK0.out.cell 0, HK0.out.cell 1, trivial⟩
      have c0 := own_txt HO.out k _ HE0.out
      have f0 := HO.out.frozenAt k
      clear HK0 HO0 HB0
      refine wp_region_noPanic ?_
      refine zb (T := (fun v => v.cell? ⟨PB, 0, none⟩ = some (.int .i64 p1) ∧ v.cell? ⟨PB, 1, none⟩ = some (.int .i64 p2) ∧ True)) 11 (by kernel_rfl) (t2_drew hS) (fun hHeld => ?_)
      refine zk 0 ?_
      refine zk 1 ?_
      refine zk 2 ?_
      refine zk 3 ?_
      refine zk 6 ?_
      refine zk 7 ?_
      refine zr (rs := [4]) ?_
      refine AllUp.cons (o := ?oz1_4) ?iz1_4 (fun K hK => ?sz1_4) AllUp.nil
      case iz1_4 => (simp only [List.getElem?_toArray, List.getElem?_cons_succ, List.getElem?_cons_zero]; rfl)
      (go_simp; (go_at_call 25; refine (H1.out _ HB.out).mono ?_; rintro e wA ⟨rfl, hbq⟩; replace HK := hid (HK.out.on hbq); replace HO := hid (own_on HO.out hbq); replace HB := hid (HB.out.trans (hbq.mono HB.out.size)); clear hbq c0 f0; have c0 := own_txt HO.out k _ HE0.out; have f0 := HO.out.frozenAt k; have twA : wA.cell? ⟨PB, 0, none⟩ = some (.int .i64 p1) ∧ wA.cell? ⟨PB, 1, none⟩ = some (.int .i64 p2) ∧ True := ⟨HK.out.cell 0, HK.out.cell 1, trivial⟩))
      refine hK.out _ _ (fun _ => ?kz1_4) (fun hHeld0 => ?_)
      case kz1_4 => (try dsimp only); (first | with_reducible assumption | exact t2_bel (by assumption) (by assumption) | assumption | exact t2_alloc (by assumption) _)
      (try clear hHeld)
      have hHeld := hHeld0 (by decide)
      clear hHeld0 hK K
      try simp only [Act.put, List.setIfInBounds_toArray, List.set_cons_zero, List.set_cons_succ]
      refine zk 5 ?_
      refine zr (rs := [8]) ?_
      refine AllUp.cons (o := ?oz1_8) ?iz1_8 (fun K hK => ?sz1_8) AllUp.nil
      case iz1_8 => (simp only [List.getElem?_toArray, List.getElem?_cons_succ, List.getElem?_cons_zero]; rfl)
      (go_simp; (go_at_call 25; refine (H2.out _ HB.out).mono ?_; rintro e wB ⟨rfl, hbq⟩; replace HK := hid (HK.out.on hbq); replace HO := hid (own_on HO.out hbq); replace HB := hid (HB.out.trans (hbq.mono HB.out.size)); clear hbq c0 f0; have c0 := own_txt HO.out k _ HE0.out; have f0 := HO.out.frozenAt k; have twB : wB.cell? ⟨PB, 0, none⟩ = some (.int .i64 p1) ∧ wB.cell? ⟨PB, 1, none⟩ = some (.int .i64 p2) ∧ True := ⟨HK.out.cell 0, HK.out.cell 1, trivial⟩))
      refine hK.out _ _ (fun _ => ?kz1_8) (fun hHeld0 => ?_)
      case kz1_8 => (try dsimp only); (first | with_reducible assumption | exact t2_bel (by assumption) (by assumption) | assumption | exact t2_alloc (by assumption) _)
      (try clear hHeld)
      have hHeld := hHeld0 (by decide)
      clear hHeld0 hK K
      try simp only [Act.put, List.setIfInBounds_toArray, List.set_cons_zero, List.set_cons_succ]
      refine zk 9 ?_
      refine zk 10 ?_
      refine zr (rs := [11]) ?_
      refine AllUp.cons (o := ?oz1_11) ?iz1_11 (fun K hK => ?sz1_11) AllUp.nil
      case iz1_11 => (simp only [List.getElem?_toArray, List.getElem?_cons_succ, List.getElem?_cons_zero]; rfl)
      (go_simp; (skip))
      refine hK.out _ _ (fun h => absurd rfl h) (fun _ => ?_)
      (try clear hHeld)
      clear hK K
      try simp only [Act.put, List.setIfInBounds_toArray, List.set_cons_zero, List.set_cons_succ]
      refine zd (by kernel_rfl) ?_ _
      refine NoPanic.normal ?_
      all_goals
        have hst := own_store_txt HO.out k (A1 ++ ⟨#[46]⟩ ++ B1)
        rw [HS.out] at hst
        have HST := hid hst
        have hB9 := hid (HB.out.trans (below_of_grown (grown_set (grown_refl _ (some G)) k (.string (A1 ++ ⟨#[46]⟩ ++ B1))) HB.out.size (fun g e => by obtain rfl := Option.some.inj e; exact (own_lt HO.out).1)))
        clear hst
        go_wp2_with fail
        go_roundw
        case rel => exact ⟨k + 1, by omega, by go_num, HST.out, hB9.out⟩
        case measure => simp [intOf]; omega
    · have hD2 : (ps.map pkT).take k ++ List.replicate (N - k) ByteArray.empty = ps.map pkT := by rw [show N - k = 0 from by omega, List.take_of_length_le (by have := HN.out; simp; omega)]; simp
      rw [hD2] at hown
      have HJ2 := hid (show Calls Tryz.prog 27 #[.slice (some ⟨G, 0, none⟩) N N, .string ⟨#[44]⟩] wr fun e w' => e = .returned (.string J) ∧ Below wr.heap.size wr w' by
        have hNN : N = (ps.map pkT).length := by simp; exact HN.out
        rw [HJ.out]
        have h9 := Tryz.strings_Join G 0 N (ps.map pkT) ⟨#[44]⟩ wr (fun j x hj => by rw [Nat.zero_add]; exact own_txt hown j x hj) (own_lt hown).2 (by omega) (by omega) HJL.out
        rw [← hNN] at h9
        exact h9)
      clear hown hD2
      go_wp2_with fail
      refine (HJ2.out).mono ?_
      rintro e w3 ⟨rfl, hb3⟩
      go_wp2_with fail
      refine (HD.out _).mono ?_
      rintro e w' ⟨rfl, rfl⟩
      go_wp2_with fail
      go_ret
      exact ⟨rfl, hbl.trans (hb3.mono hzr)⟩
end Go.Proofs.YtmfnfheahehpcaaGreatDoor
