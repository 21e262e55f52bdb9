/- ParseIndex in the model. -/
import Derived.Test.YtcliagnongbkmaaDoorLv
namespace Go.Proofs.YtcliagnongbkmaaDoor
open Go.ChangeShapes Go.WideShapes Go.ChangeAt Go.RowKit Go.Joins
set_option linter.unusedVariables false
set_option linter.unusedSimpArgs false

theorem own_apart {w : World} {B1 B2 : Nat} {e1 e2 : TypeId} {s1 s2 : Nat} {v1 v2 : Value} {n1 n2 : Nat} {x1 x2 : List Value} (h1 : w.ownsRow B1 e1 s1 v1 n1 x1) (h2 : w.ownsRow B2 e2 s2 v2 n2 x2) (he : e1 ≠ e2) (g : Nat) (k1 : v1.ownBlock = some g) (k2 : v2.ownBlock = some g) : False := by
  rcases h1.2 with ⟨rfl, _⟩ | ⟨g1, cap1, cur1, rfl, _, hh1, _⟩
  · simp [Value.ownBlock] at k1
  rcases h2.2 with ⟨rfl, _⟩ | ⟨g2, cap2, cur2, rfl, _, hh2, _⟩
  · simp [Value.ownBlock] at k2
  simp only [Value.ownBlock, Option.map_some, Option.some.injEq] at k1 k2
  subst k1 k2
  have e := hh1.symm.trans hh2
  injection e with e
  injection e with e3 e4
  exact he e4
theorem own_keep2 {w w' : World} {B1 B2 : Nat} {e1 e2 : TypeId} {s1 s2 : Nat} {v1 v2 : Value} {n1 n2 : Nat} {x1 x2 : List Value} (h1 : w.ownsRow B1 e1 s1 v1 n1 x1) (h2 : w.ownsRow B2 e2 s2 v2 n2 x2) (he : e1 ≠ e2) (hg : w.grownBy w' v1.ownBlock) : w'.ownsRow B2 e2 s2 v2 n2 x2 :=
  h2.kept hg (by
    cases hv : v2.ownBlock with
    | none => exact .inl rfl
    | some g => right; intro e; exact own_apart h1 h2 he g e.symm hv)
theorem index_ptT (p : Pr) : Lib.indexByte (ptT p).data.toList 58 = (dec p.1).length := by
  rw [ptT_list]; exact index_byte_hit _ _ _ (dec_no58 _)
theorem index_lt (c : UInt8) : ∀ (s : List UInt8), Lib.indexByte s c < s.length ∨ s = []
  | [] => .inr rfl
  | b :: r => by
    left
    have ih := index_lt c r
    have hr : Lib.indexByte r c < (r.length : Int) ∨ Lib.indexByte r c = -1 := by
      rcases ih with h | h
      · exact .inl h
      · rw [h]; exact .inr rfl
    rw [Lib.indexByte]
    have hl : ((b :: r).length : Int) = r.length + 1 := by simp
    rw [hl]
    split
    · omega
    · split
      · omega
      · omega
theorem pt_split {x : ByteArray} {m : Nat} (hm : Lib.indexByte x.data.toList 58 = m) {n0 n1 : Int} (h0 : NumOf (x.extract 0 m) n0) (h1 : NumOf (x.extract (m + 1) x.size) n1) : PtOf x (n0, n1) := by
  refine ⟨fun p b0 b1 e => ?_, fun e => ?_⟩
  · subst e
    rw [index_ptT] at hm
    have hm2 : m = (dec p.1).length := by omega
    have hl : (ptT p).data.toList.length = (ptT p).size := by simp
    have e1 : (ptT p).extract 0 m = str (dec p.1) := by
      apply ByteArray.ext
      apply Array.toList_inj.1
      rw [Lib.extract_data, ptT_list, hm2, str_list]
      simp
    have e2 : (ptT p).extract (m + 1) (ptT p).size = str (dec p.2) := by
      apply ByteArray.ext
      apply Array.toList_inj.1
      rw [Lib.extract_data, ← hl, ptT_list, hm2, str_list]
      rw [List.drop_append, List.drop_of_length_le (by omega)]
      simp
      exact List.take_of_length_le (by omega)
    exact Prod.ext (h0 p.1 b0.1 (by omega) e1) (h1 p.2 b1.1 (by omega) e2)
  · have hd : x.data.toList = [] := List.length_eq_zero_iff.1 (by simpa using e)
    rw [hd] at hm
    simp [Lib.indexByte] at hm
    try omega

set_option maxHeartbeats 8000000 in
set_option maxRecDepth 100000 in
theorem c_sParseIndex (T : ByteArray) (w : World) (ht : T.size ≤ 1048576) : Calls Tryd.prog 9 #[.string T] w fun e w' => ∃ (ps : List Pr) (b : Bool) (A : Option Addr) (cap : Nat), PIx T ps b ∧ e = .returned (.tuple #[.slice A ps.length cap, .bool b]) ∧ w'.ownsRow w.heap.size 52 2 (.slice A ps.length cap) ps.length (prs ps) ∧ Below w.heap.size w w' := by
  have HZ := hid (fun (V : World) (hV : w.heap.size ≤ V.heap.size) => World.ownsRow_made (e := 52) (size := 2) (base := w.heap.size) V #[] 0 hV (by simp) (by simp [maxLen]))
  have HN := hid (fun (v : World) => c_l3None T v)
  have HC := hid (fun (v : World) => c_l9Cut 32 (undI T) v (Nat.le_trans (undI_size T) ht))
  go_enter Tryd.func9, Tryd.ntmps9
  go_wp2_with fail
  obtain ⟨W1, hW1⟩ : ∃ W1, W1 = w.alloc (.cells #[] 52) := ⟨_, rfl⟩
  obtain ⟨G, hG⟩ : ∃ G, G = w.heap.size := ⟨_, rfl⟩
  have own1 : W1.ownsRow w.heap.size 52 2 (.slice (some ⟨G, 0, none⟩) 0 0) 0 (prs []) := by rw [hW1, hG]; exact HZ.out w (Nat.le_refl _)
  have c1 : Below w.heap.size w W1 := by rw [hW1]; exact bel_alloc (Below.refl _ _) _
  rw [← hW1, ← hG]
  clear hW1 hG
  refine (HN.out W1).mono ?_
  rintro e W9 ⟨rfl, rfl⟩
  go_wp2_with fail
  refine (HC.out W1).mono ?_
  rintro e W2 ⟨l, AA, cap, hmap, hll, rfl, hown, hb2⟩
  have own2 := own_on own1 hb2
  have c2 := c1.trans (hb2.mono c1.size)
  clear own1 c1 hb2
  obtain ⟨n, hn⟩ : ∃ n, n = l.length := ⟨_, rfl⟩
  have Hn := hid hn
  rw [← hn] at hown hll ⊢
  clear hn
  by_cases hd : T = str [45]
  · have hb := dash_yes hd
    have HFI := hid (fun (v : World) (A0 : Option Addr) (cap0 : Nat) (hat : PsAt v v.heap.size A0 cap0 []) => c_sFormatIndex A0 cap0 [] v.heap.size v hat (fun i p h => by simp at h) (Nat.le_refl _) (by simp))
    have hfv : fiV [] = T := by rw [fiV, if_pos pl_nil, fiT_nil, hd]
    rw [hfv] at HFI
    have HR := hid (show PIx T [] true by rw [hd]; exact pix_dash)
    have he1 : (T.toList == T.toList) = true := by simp
    clear hd hfv hown
    go_wp2_with fail
    go_loopw [4, 6] (fun v i wr => v = .slice (some ⟨G, 0, none⟩) 0 0 ∧ i = .int .i64 0 ∧ wr.ownsRow w.heap.size 52 2 (.slice (some ⟨G, 0, none⟩) 0 0) 0 (prs []) ∧ Below w.heap.size w wr) (fun _ i _ => 0)
    case atStart => exact ⟨rfl, rfl, own2, c2⟩
    case round =>
      obtain ⟨rfl, rfl, hown, hbl⟩ := hrel
      have HAT := hid (own_psI hown)
      have HO := hid hown
      clear hown own2 c2
      by_cases h0 : (0 : Int) < (n : Int)
      all_goals
        go_wp2_with fail
        refine (HFI.out _ _ _ HAT.out).mono ?_
        rintro e W5 ⟨rfl, hb5⟩
        have HO5 := hid (own_on HO.out hb5)
        have HB5 := hid (hbl.trans (hb5.mono hbl.size))
        go_wp2
        go_ret2
        exact ⟨[], true, _, _, HR.out, rfl, HO5.out, HB5.out⟩
  · have hb := dash_no hd
    have hund : undI T = T := by rw [undI, if_neg hd]
    rw [hund] at hmap ⊢
    have HP := hid (pil_cutL hmap)
    have HSZ := hid (show ∀ x ∈ l, x.size ≤ 1048576 from fun x hx => Nat.le_trans (cut_sizes hmap x hx) ht)
    have HEM := hid (show T = ByteArray.empty → l = [ByteArray.empty] from fun e => by
      refine bytes_back ?_
      rw [hmap, e]; rfl)
    have HD := hid hd
    clear hd hund hmap HN HC
    go_wp2_with fail
    go_loopw [4, 6] (fun v i wr => ∃ (k : Nat) (q : List Pr), k ≤ n ∧ k ≤ 41 ∧ i = .int .i64 k ∧ Hid (q.length = k ∧ PtsOf l q ∧ PlB q) ∧ wr.ownsRow w.heap.size 52 2 v k (prs q) ∧ wr.ownsRow W1.heap.size 9 1 (.slice AA n cap) n (l.map sv) ∧ Below w.heap.size w wr) (fun _ i _ => n - (intOf i).toNat)
    case atStart => exact ⟨0, [], Nat.zero_le _, by omega, rfl, hid ⟨rfl, ⟨Nat.zero_le _, fun i p h => by simp at h⟩, fun i p h => by simp at h⟩, own2, hown, c2⟩
    case round =>
      clear own2 hown c2
      obtain ⟨k, q, hk, hk41, rfl, HQ, hown, hpar, hbl⟩ := hrel
      rename_i wr _
      by_cases hlt : k < n ∧ k ≤ 40
      · obtain ⟨hlt1, hlt40⟩ := hlt
        have hlt2 : k < l.length := by have := Hn.out; omega
        have hat := own_strs_at hpar
        obtain ⟨b, off, rfl, hb0, y0⟩ := txt_at hat k hlt2
        obtain ⟨x, hx⟩ : ∃ x, x = l[k] := ⟨_, rfl⟩
        rw [← hx] at y0
        have hxz : x.size ≤ 1048576 := by rw [hx]; exact HSZ.out _ (List.getElem_mem _)
        have hcap := hat.1
        rw [← Hn.out] at hcap
        have HX := hid hx
        have hlti : (k : Int) < (n : Int) := by omega
        have hk40i : (k : Int) ≤ 40 := by omega
        have HO := hid hown
        have HPA := hid hpar
        clear hx hown hpar hat
        obtain ⟨I, hI⟩ : ∃ I, I = Lib.indexByte x.data.toList 58 := ⟨_, rfl⟩
        have HF := hid (fun (v : World) => c_l9Find x 58 v (by unfold maxLen; omega))
        rw [← hI] at HF
        have hIlt : I < x.size ∨ I < 0 := by
          rw [hI]
          rcases index_lt 58 x.data.toList with h | h
          · left; simpa using h
          · right; rw [h]; decide
        have hIge : -1 ≤ I := by rw [hI]; exact Lib.indexByte_ge _ _
        have HI := hid hI
        clear hI
        go_wp2_with fail
        refine (HF.out wr).mono ?_
        rintro e W9 ⟨rfl, rfl⟩
        by_cases hneg : I < 0
        · have HR := hid (pix_colon HD.out HP.out k hlt2 (by rw [← HX.out, ← HI.out]; exact hneg))
          have HO2 := hid (HZ.out wr hbl.size)
          have HB2 := hid (bel_alloc hbl (.cells #[] 52))
          clear HZ
          go_wp2_with fail
          go_ret2
          exact ⟨[], false, _, _, HR.out, rfl, HO2.out, HB2.out⟩
        obtain ⟨m, rfl⟩ := Int.eq_ofNat_of_zero_le (show 0 ≤ I by omega)
        have hmx : m < x.size := by omega
        obtain ⟨a, ha⟩ : ∃ a, a = x.extract 0 m := ⟨_, rfl⟩
        obtain ⟨c, hc⟩ : ∃ c, c = x.extract (m + 1) x.size := ⟨_, rfl⟩
        have haz : a.size ≤ 1048576 := by rw [ha, ByteArray.size_extract]; omega
        have hcz : c.size ≤ 1048576 := by rw [hc, ByteArray.size_extract]; omega
        have hs1 : ∀ W, (Instr.slice 9 (.string x) none (some (.int .i64 (m : Int))) none).run Tryd.prog W = .ok (.string a) W := fun W => by
          rw [run_slice_string_h W 9 x Tryd.underlying9 .i64 m (by omega) (by omega), ha]
          rfl
        have hs2 : ∀ W, (Instr.slice 9 (.string x) (some (.int .i64 ((m : Int) + 1))) none none).run Tryd.prog W = .ok (.string c) W := fun W => by
          rw [run_slice_string_l W 9 x Tryd.underlying9 .i64 ((m : Int) + 1) (by omega) (by omega), hc]
          rfl
        have HAC := hid (show ∀ n0 n1 : Int, NumOf a n0 → NumOf c n1 → PtOf x (n0, n1) from fun n0 n1 h0 h1 => pt_split (m := m) HI.out.symm (by rw [← ha]; exact h0) (by rw [← hc]; exact h1))
        clear ha hc hneg hIlt hIge
        go_wp2_with fail
        refine (c_l9Num a wr haz).mono ?_
        rintro e W4 ⟨⟨n0, bb0, rfl, hr0, hn0⟩, hb4⟩
        have Hn0 := hid (show NumOf a n0 from fun k a0 a1 h => hn0 k a0 a1 h)
        have y4 := cell_kept y0 hb4
        clear hn0 y0
        go_wp2_with fail
        refine (c_l9Num c W4 hcz).mono ?_
        rintro e W6 ⟨⟨n1, bb1, rfl, hr1, hn1⟩, hb6⟩
        have Hn1 := hid (show NumOf c n1 from fun k a0 a1 h => hn1 k a0 a1 h)
        have hb46 := hb4.trans (hb6.mono hb4.size)
        have own6 := own_on HO.out hb46
        have par6 := own_on HPA.out hb46
        have c6 := hbl.trans (hb46.mono hbl.size)
        clear hn1 y4 hb4 hb6 hb46 HO HPA
        go_wp2_with (at_builtin; refine app_pair rfl _ _ 28 rfl w.heap.size 52 Tryd.underlying28 Tryd.info_place _ k q rfl own6 (n0, n1) _ _ rfl rfl 1 rfl (by omega) c6.size ?_; intro v7 w7 hown7 hb7 hg7)
        have HQ2 := hid (show (q ++ [(n0, n1)]).length = k + 1 ∧ PtsOf l (q ++ [(n0, n1)]) ∧ PlB (q ++ [(n0, n1)]) from by
          obtain ⟨q1, q2, q3⟩ := HQ.out
          refine ⟨by simp; omega, ?_, plb_snoc q3 _ (by omega) (by omega)⟩
          refine q2.snoc (by omega) _ ?_
          have hp := HAC.out n0 n1 Hn0.out Hn1.out
          have e : l[q.length]'(by omega) = x := by rw [HX.out]; congr 1
          rw [e]; exact hp)
        have par7 := own_keep2 own6 par6 (by decide) hg7
        have c7 := c6.trans hb7
        clear HQ own6 par6 hb7 hg7 c6
        go_roundw
        case rel => exact ⟨k + 1, q ++ [(n0, n1)], by omega, by omega, by go_num, HQ2, hown7, par7, c7⟩
        case measure => simp [intOf]; omega
      · obtain ⟨A0, cap0, rfl, hat, hkq, _⟩ := own_ps hown
        have HAT := hid hat
        have HO := hid hown
        have HFI := hid (fun (v : World) (hat : PsAt v v.heap.size A0 cap0 q) => c_sFormatIndex A0 cap0 q v.heap.size v hat HQ.out.2.2 (Nat.le_refl _) (by omega))
        obtain ⟨V, hV⟩ : ∃ V, V = fiV q := ⟨_, rfl⟩
        rw [← hV] at HFI
        have HV := hid hV
        have HLN := hid (show q.length = min l.length 41 by have := Hn.out; omega)
        have hone : ¬ ((k : Int) < (n : Int) ∧ (k : Int) ≤ 40) := by omega
        have HKQ := hid hkq
        rw [hkq] at HO
        clear hV hat hown hlt hkq hpar
        have hcase : ¬ (k : Int) < (n : Int) ∨ ((k : Int) < (n : Int) ∧ ¬ (k : Int) ≤ 40) := by omega
        rcases hcase with h1 | ⟨h1, h2⟩
        all_goals
          clear hone
          go_wp2_with fail
          refine (HFI.out _ HAT.out).mono ?_
          rintro e W9 ⟨rfl, hb9⟩
          by_cases he : V = T
          · have he1 : (V.toList == T.toList) = true := by rw [he]; simp
            have HR := hid (pix_yes HEM.out HQ.out.2.1 HLN.out (HV.out.symm.trans he))
            have hB9 := hbl.trans (hb9.mono hbl.size)
            have HO9 := hid (own_on HO.out hb9)
            clear he
            go_wp2
            go_ret2
            exact ⟨q, true, A0, cap0, HR.out, rfl, HO9.out, hB9⟩
          · have he1 : (V.toList == T.toList) = false := bytes_neI he
            have HR := hid (pix_no HD.out HP.out HQ.out.2.1 HLN.out (fun h => he (HV.out.trans h)))
            have hB9 := hbl.trans (hb9.mono hbl.size)
            have HO9 := hid (HZ.out _ hB9.size)
            have HB9 := hid (bel_alloc hB9 (.cells #[] 52))
            clear he HZ
            go_wp2
            go_ret2
            exact ⟨[], false, _, _, HR.out, rfl, HO9.out, HB9.out⟩
end Go.Proofs.YtcliagnongbkmaaDoor
