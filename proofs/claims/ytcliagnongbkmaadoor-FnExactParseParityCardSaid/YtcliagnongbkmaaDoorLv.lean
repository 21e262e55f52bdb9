/- ParseIndex in the program. -/
import Derived.Test.YtcliagnongbkmaaDoorLu
namespace Go.Proofs.YtcliagnongbkmaaDoor
open Go.ChangeShapes Go.WideShapes Go.ChangeAt Go.RowKit Go.Joins
set_option linter.unusedVariables false
set_option linter.unusedSimpArgs false

theorem c_AtoiN (s : ByteArray) (w : World) (hs : s.size ≤ 1048576) (hE : ErrAt w) : Calls Tryd.prog 25 #[.string s] w fun e w' => (∃ (n : Int) (ev : Value), e = .returned (.tuple #[.int .i64 n, ev]) ∧ (-9223372036854775808 ≤ n ∧ n ≤ 9223372036854775807) ∧ NumOf s n ∧ (s.size = 0 → n = 0)) ∧ Below w.heap.size w w' := by
  by_cases h0 : s.size = 0
  · obtain ⟨e0, e1, h0', t0, h1, t1⟩ := hE
    have hd : s.data.toList = [] := List.length_eq_zero_iff.1 (by simpa using h0)
    have hn : NumOf s 0 := fun k a0 a1 e => absurd h0 (dec_facts e).1
    refine (Any.strconv_Atoi_syntax Tryd.laysC172 s (by omega) (by rw [hd]; rfl) e0 w h0' t0).mono ?_
    rintro e w' ⟨M, rfl, _, _, hb⟩
    exact ⟨⟨_, _, rfl, by omega, hn, fun _ => rfl⟩, hb⟩
  · refine (c_Atoi s w (by omega) hE).mono ?_
    rintro e w' ⟨⟨n, ev, rfl, hb, hv⟩, hB⟩
    exact ⟨⟨n, ev, rfl, hb, fun k a0 a1 e => hv k (by rw [e, str_list]; exact atoi_decI k a0 a1), fun h => absurd h h0⟩, hB⟩
theorem c_Cut58 (x : ByteArray) (w : World) (hx : x.size ≤ 1048576) (mm : Int) (hm : w.cell? ⟨2, 0, none⟩ = some (.int .i64 mm)) :
    Calls Tryd.prog 31 #[.string x, .string ⟨#[58]⟩] w fun e w' => (∃ (a b : ByteArray) (f : Bool), e = .returned (.tuple #[.string a, .string b, .bool f]) ∧ a.size ≤ 1048576 ∧ b.size ≤ 1048576 ∧ (x.size = 0 → a.size = 0 ∧ b.size = 0) ∧ ∀ p : Pr, x = ptT p → a = str (dec p.1) ∧ b = str (dec p.2)) ∧ Below w.heap.size w w' := by
  refine (Tryd.strings_Cut x ⟨#[58]⟩ mm w (by omega) hm).mono ?_
  rintro e w' ⟨rfl, n, rfl⟩
  have hs := cut_sz x.data.toList
  have hl : x.data.toList.length = x.size := by simp
  have e58 : (⟨#[58]⟩ : ByteArray).data.toList = [58] := rfl
  rw [e58]
  refine ⟨⟨_, _, _, rfl, ?_, ?_, ?_, ?_⟩, bel_drewN (Below.refl _ w) n⟩
  · show (str _).size ≤ _; rw [str_size]; omega
  · show (str _).size ≤ _; rw [str_size]; omega
  · intro h0
    refine ⟨?_, ?_⟩
    · show (str _).size = 0; rw [str_size]; omega
    · show (str _).size = 0; rw [str_size]; omega
  · rintro p rfl
    rw [cut_pt p]
    exact ⟨rfl, rfl⟩
theorem pt_of {x a b : ByteArray} {n0 n1 : Int} (h0 : x.size = 0 → a.size = 0 ∧ b.size = 0) (h : ∀ p : Pr, x = ptT p → a = str (dec p.1) ∧ b = str (dec p.2)) (ha : NumOf a n0) (hb : NumOf b n1) (ha0 : a.size = 0 → n0 = 0) (hb0 : b.size = 0 → n1 = 0) : PtOf x (n0, n1) := by
  refine ⟨fun p h1 h2 e => ?_, fun e => ?_⟩
  · obtain ⟨e1, e2⟩ := h p e
    exact Prod.ext (ha p.1 h1.1 (by omega) e1) (hb p.2 h2.1 (by omega) e2)
  · exact Prod.ext (ha0 (h0 e).1) (hb0 (h0 e).2)
theorem own_away {w w' : World} {M B : Nat} {e : TypeId} {size : Nat} {v : Value} {n : Nat} {xs : List Value} (h : w.ownsRow B e size v n xs) (hg : w.grownBy w' (some M)) (hM : w.heap.size ≤ M) : w'.ownsRow B e size v n xs :=
  h.kept hg (by
    cases hv : v.ownBlock with
    | none => exact .inl rfl
    | some g => right; have := (h.lt g hv).2; simp; omega)
theorem plb_snoc {q : List Pr} (h : PlB q) (p : Pr) (h1 : -9223372036854775808 ≤ p.1 ∧ p.1 ≤ 9223372036854775807) (h2 : -9223372036854775808 ≤ p.2 ∧ p.2 ≤ 9223372036854775807) : PlB (q ++ [p]) := by
  intro i u hu
  by_cases hi : i < q.length
  · rw [List.getElem?_append_left hi] at hu
    exact h i u hu
  · rw [List.getElem?_append_right (by omega)] at hu
    have := (List.getElem?_eq_some_iff.1 hu).1
    have e : i - q.length = 0 := by simp at this; omega
    rw [e] at hu
    simp at hu
    subst hu
    exact ⟨h1, h2⟩

set_option maxHeartbeats 8000000 in
set_option maxRecDepth 100000 in
theorem c_ParseIndex (T : ByteArray) (w : World) (ht : T.size ≤ 1048576) (hE : ErrAt w) (mm : Int) (hm : w.cell? ⟨2, 0, none⟩ = some (.int .i64 mm)) (hTab : Tab w) : Calls Tryd.prog 10 #[.string T] w fun e w' => ∃ (ps : List Pr) (b : Bool) (A : Option Addr) (cap : Nat), PIx T ps b ∧ e = .returned (.tuple #[.slice A ps.length cap, .bool b]) ∧ w'.ownsRow w.heap.size 52 2 (.slice A ps.length cap) ps.length (prs ps) ∧ Below w.heap.size w w' := by
  by_cases hd : T = str [45]
  · have hb := dash_yes hd
    have HR := hid (show PIx T [] true by rw [hd]; exact pix_dash)
    clear hd
    go_enter Tryd.func10, Tryd.ntmps10
    go_wp2_with fail
    go_ret2
    exact ⟨[], true, none, 0, HR.out, rfl, own_ps_nil _ _ _, Below.refl _ _⟩
  have hb := dash_no hd
  go_enter Tryd.func10, Tryd.ntmps10
  go_wp2_with fail
  refine (c_SplitN 32 41 T w ht (by omega) (by omega) mm hm).mono ?_
  rintro e W2 ⟨l, cap, hl1, hl4, hlc, hc4, hsz, hcut, hemp, rfl, hW2⟩
  obtain ⟨F, hF⟩ : ∃ F, F = w.heap.size := ⟨_, rfl⟩
  rw [← hF]
  have kf : Blk W2 F 9 (Lib.cellsOf l cap) := by rw [hW2, hF]; exact Blk.new w _ _
  have c2 : Below w.heap.size w W2 := by rw [hW2]; exact bel_alloc (Below.refl _ _) _
  have HP := hid (pil_cut hcut)
  have HEM := hid hemp
  have HSZ := hid (show ∀ x ∈ l, x.size ≤ 1048576 from fun x hx => Nat.le_trans (hsz x hx) ht)
  have HD := hid hd
  have hFB : F < W2.heap.size := kf.lt
  obtain ⟨B, hB⟩ : ∃ B, B = W2.heap.size := ⟨_, rfl⟩
  have hwB : w.heap.size ≤ B := by rw [hB]; exact c2.size
  rw [← hB] at hFB
  have HB2 := hid (show B ≤ W2.heap.size by omega)
  obtain ⟨n, hn⟩ : ∃ n, n = l.length := ⟨_, rfl⟩
  rw [← hn]
  have Hn := hid hn
  rw [← hn] at hl1 hl4 hlc
  clear hn hd hsz hcut hemp hW2 hF hB
  go_wp2_with fail
  go_loopw [4, 16] (fun v i wr => ∃ (k : Nat) (q : List Pr), k ≤ n ∧ i = .int .i64 k ∧ Hid (q.length = k ∧ PtsOf l q ∧ PlB q) ∧ wr.ownsRow B 52 2 v k (prs q) ∧ Blk wr F 9 (Lib.cellsOf l cap) ∧ Below w.heap.size w wr ∧ B ≤ wr.heap.size) (fun _ i _ => n - (intOf i).toNat)
  case atStart => exact ⟨0, [], Nat.zero_le _, rfl, hid ⟨rfl, ⟨Nat.zero_le _, fun i p h => by simp at h⟩, fun i p h => by simp at h⟩, own_ps_nil _ _ _, kf, c2, HB2.out⟩
  case round =>
    clear kf c2
    obtain ⟨k, q, hk, rfl, HQ, hown, hkf, hbl, hBr⟩ := hrel
    rename_i wr _
    by_cases hlt : k < n
    · have hlt2 : k < l.length := by have := Hn.out; omega
      obtain ⟨x, hx⟩ : ∃ x, x = l[k] := ⟨_, rfl⟩
      have y0 : wr.cell? ⟨F, k, none⟩ = some (.string x) := (hkf.cell k).trans (cells_of_at l cap k x (by rw [hx]; exact List.getElem?_eq_getElem hlt2))
      have hxz : x.size ≤ 1048576 := by rw [hx]; exact HSZ.out _ (List.getElem_mem _)
      have HX := hid hx
      have hlti : (k : Int) < (n : Int) := by omega
      have HO := hid hown
      have HF := hid hkf
      clear hx hown hkf
      go_wp2_with fail
      refine (c_Cut58 x wr hxz mm (cell_kept hm hbl)).mono ?_
      rintro e V1 ⟨⟨a, b, f, rfl, haz, hbz, hab0, hab⟩, hb1⟩
      have HAB0 := hid hab0
      have HAB := hid hab
      clear y0 hab0 hab
      go_wp2_with fail
      obtain ⟨M, hM⟩ : ∃ M, M = V1.heap.size := ⟨_, rfl⟩
      obtain ⟨V2, hV2⟩ : ∃ V2, V2 = V1.alloc (.cells #[.int .i64 0, .int .i64 0] 52) := ⟨_, rfl⟩
      rw [← hM, ← hV2]
      have hwM : wr.heap.size ≤ M := by rw [hM]; exact hb1.size
      have kM2 : Blk V2 M 52 #[.int .i64 0, .int .i64 0] := by rw [hV2, hM]; exact Blk.new V1 _ _
      have hg2 : wr.grownBy V2 (some M) := by rw [hV2]; exact grown_below _ (bel_alloc hb1 _)
      clear hV2 hM hb1
      have c2 : Below w.heap.size w V2 := hbl.trans (below_of_grown hg2 hbl.size (fun g e => by cases e; have := hbl.size; omega))
      refine (c_AtoiN a V2 haz (hE.kept c2)).mono ?_
      rintro e V3 ⟨⟨n0, ev0, rfl, hr0, hn0, hz0⟩, hb3⟩
      have HN0 := hid (show NumOf a n0 ∧ (a.size = 0 → n0 = 0) from ⟨hn0, hz0⟩)
      have kM3 := kM2.on hb3
      have hg3 := grown_trans hg2 (grown_below (some M) hb3)
      obtain ⟨m0, m1⟩ := kM3.cells2
      have fr0 := kM3.frozen 0
      clear hn0 hz0 kM2 hg2 hb3 c2
      go_wp2_with fail
      obtain ⟨V4, hV4⟩ : ∃ V4, V4 = V3.setCell ⟨M, 0, none⟩ (.int .i64 n0) := ⟨_, rfl⟩
      rw [← hV4]
      have kM4 : Blk V4 M 52 #[.int .i64 n0, .int .i64 0] := by rw [hV4]; exact kM3.set_ 0 _
      have hg4 : wr.grownBy V4 (some M) := by rw [hV4]; exact grown_set hg3 0 _
      have c4 : Below w.heap.size w V4 := hbl.trans (below_of_grown hg4 hbl.size (fun g e => by cases e; have := hbl.size; omega))
      clear hV4 kM3 hg3 m0 m1 fr0
      refine (c_AtoiN b V4 hbz (hE.kept c4)).mono ?_
      rintro e V5 ⟨⟨n1, ev1, rfl, hr1, hn1, hz1⟩, hb5⟩
      have HN1 := hid (show NumOf b n1 ∧ (b.size = 0 → n1 = 0) from ⟨hn1, hz1⟩)
      have kM5 := kM4.on hb5
      have hg5 := grown_trans hg4 (grown_below (some M) hb5)
      obtain ⟨m0, m1⟩ := kM5.cells2
      have fr1 := kM5.frozen 1
      have hg6 : wr.grownBy (V5.setCell ⟨M, 1, none⟩ (.int .i64 n1)) (some M) := grown_set hg5 1 _
      have c6 : Below w.heap.size w (V5.setCell ⟨M, 1, none⟩ (.int .i64 n1)) := hbl.trans (below_of_grown hg6 hbl.size (fun g e => by cases e; have := hbl.size; omega))
      have hown6 := own_away HO.out hg6 hwM
      have kf6 : Blk (V5.setCell ⟨M, 1, none⟩ (.int .i64 n1)) F 9 (Lib.cellsOf l cap) := HF.out.grown hg6 (by simp; omega)
      have hB6 : B ≤ (V5.setCell ⟨M, 1, none⟩ (.int .i64 n1)).heap.size := Nat.le_trans hBr hg6.size
      clear hn1 hz1 kM4 hg4 hb5 c4 hg5 hg6
      go_wp2_with (at_builtin; refine app_pair rfl _ _ 28 rfl B 52 Tryd.underlying28 Tryd.info_place _ k q rfl hown6 (n0, n1) _ _ rfl rfl 1 (by rw [World.size_setCell]; rfl) (by omega) hB6 ?_; intro v7 w7 hown7 hb7 hg7)
      have HQ2 := hid (show (q ++ [(n0, n1)]).length = k + 1 ∧ PtsOf l (q ++ [(n0, n1)]) ∧ PlB (q ++ [(n0, n1)]) from by
        obtain ⟨q1, q2, q3⟩ := HQ.out
        refine ⟨by simp; omega, ?_, plb_snoc q3 _ hr0 hr1⟩
        refine q2.snoc (by omega) _ ?_
        have hp := pt_of HAB0.out HAB.out HN0.out.1 HN1.out.1 HN0.out.2 HN1.out.2
        have e : l[q.length]'(by omega) = x := by rw [HX.out]; congr 1
        rw [e]; exact hp)
      have kf7 := kf6.below hb7 hFB
      have c7 := c6.trans (hb7.mono hwB)
      have hB7 := Nat.le_trans hB6 hb7.size
      clear HQ HO HF hown6 hb7 hg7 kf6 c6
      go_roundw
      case rel => exact ⟨k + 1, q ++ [(n0, n1)], by omega, by go_num, HQ2, hown7, kf7, c7, hB7⟩
      case measure => simp [intOf]; omega
    · have hkn : k = n := by omega
      obtain ⟨A0, cap0, rfl, hat, hkq, _⟩ := own_ps hown
      have HAT := hid hat
      have HO := hid (own_mono (B' := w.heap.size) hown hwB)
      have hq41 : q.length ≤ 41 := by omega
      have HFI := hid (fun (v : World) (hb : Below w.heap.size w v) (hat : PsAt v v.heap.size A0 cap0 q) => c_FormatIndex A0 cap0 q v.heap.size v hat HQ.out.2.2 (Nat.le_refl _) (by omega) (hTab.on hb))
      obtain ⟨V, hV⟩ : ∃ V, V = fiV q := ⟨_, rfl⟩
      rw [← hV] at HFI
      have HV := hid hV
      have HLN := hid (show q.length = min l.length 41 by have := Hn.out; omega)
      have hlti : ¬ (k : Int) < (n : Int) := by omega
      have HKQ := hid hkq
      rw [hkq] at HO
      clear hV hat hown hkn hkq
      go_wp2_with fail
      refine (HFI.out _ hbl HAT.out).mono ?_
      rintro e W9 ⟨rfl, hb9⟩
      by_cases he : V = T
      · have he1 : (V.toList == T.toList) = true := by rw [he]; simp
        have HR := hid (pix_yes HEM.out HQ.out.2.1 HLN.out (HV.out.symm.trans he))
        have hB9 := hbl.trans (hb9.mono hbl.size)
        have HO9 := hid (own_on HO.out hb9)
        clear he
        go_wp2
        go_ret2
        exact ⟨q, true, A0, cap0, HR.out, rfl, HO9.out, hB9⟩
      · have he1 : (V.toList == T.toList) = false := bytes_neI he
        have HR := hid (pix_no HD.out HP.out HQ.out.2.1 HLN.out (fun h => he (HV.out.trans h)))
        have hB9 := hbl.trans (hb9.mono hbl.size)
        clear he
        go_wp2
        go_ret2
        exact ⟨[], false, none, 0, HR.out, rfl, own_ps_nil _ _ _, hB9⟩
end Go.Proofs.YtcliagnongbkmaaDoor
