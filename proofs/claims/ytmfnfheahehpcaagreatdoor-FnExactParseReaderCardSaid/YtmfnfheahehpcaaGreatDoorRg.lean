/- ParseKnown in the program. -/
import Derived.Test.YtmfnfheahehpcaaGreatDoorPk
import Derived.Test.YtmfnfheahehpcaaGreatDoorBb
import Derived.Deep.SlicePairs
import Derived.Lib.SplitLaws
namespace Go.Proofs.YtmfnfheahehpcaaGreatDoor
open Go.ChangeShapes Go.WideShapes Go.ChangeAt Go.RowKit Go.Joins
set_option linter.unusedVariables false
set_option linter.unusedSimpArgs false

theorem idx_in (c : UInt8) (s : List UInt8) (h : ¬ Lib.index s [c] = -1) : 0 ≤ Lib.index s [c] ∧ Lib.index s [c] < s.length := by
  by_cases hm : c ∈ s
  · obtain ⟨p, r, rfl, hp⟩ := List.eq_append_cons_of_mem hm
    rw [index_hit c r p (fun x hx e => hp (e ▸ hx))]
    simp; omega
  · exact absurd (index_free c s (fun x hx e => hm (e ▸ hx))) h
theorem splitB_lt (c : UInt8) (k : Nat) (s : ByteArray) (h2 : 2 ≤ (Lib.splitB ⟨#[c]⟩ 0 k s).length) : ∀ x ∈ Lib.splitB ⟨#[c]⟩ 0 k s, x.size + 1 ≤ s.size := by
  have hz : (⟨#[c]⟩ : ByteArray).size = 1 := rfl
  cases k with
  | zero => rw [Lib.splitB] at h2; simp at h2
  | succ k =>
    rw [Lib.splitB] at h2 ⊢
    split at h2
    · simp at h2
    · rename_i hi
      rw [if_neg hi]
      have hl := idx_in c s.data.toList (by simpa [Lib.indexB] using hi)
      have hsz : s.data.toList.length = s.size := len_toList s
      have hl2 : (Lib.indexB s ⟨#[c]⟩).toNat < s.size := by
        have e : Lib.indexB s ⟨#[c]⟩ = Lib.index s.data.toList [c] := rfl
        rw [e]; omega
      intro x hx
      rcases List.mem_cons.1 hx with rfl | hx
      · rw [ByteArray.size_extract]; omega
      · have := splitB_size _ _ _ _ hx
        rw [ByteArray.size_extract] at this
        omega
theorem c_SplitNk (c : UInt8) (n : Nat) (t : ByteArray) (w : World) (ht : t.size ≤ 1048576) (hn : 1 ≤ n) (hn2 : n ≤ 1000) (mm : Int) (hm : w.cell? ⟨3, 0, none⟩ = some (.int .i64 mm)) :
    Calls Tryz.prog 37 #[.string t, .string ⟨#[c]⟩, .int .i64 n] w fun e w' => ∃ (l : List ByteArray) (cap : Nat), 1 ≤ l.length ∧ l.length ≤ n ∧ l.length ≤ cap ∧ cap ≤ n ∧ (∀ x ∈ l, x.size ≤ t.size) ∧ (2 ≤ l.length → ∀ x ∈ l, x.size + 1 ≤ t.size) ∧ CutAs c n t l ∧ (t = ByteArray.empty → l = [ByteArray.empty]) ∧ e = .returned (.slice (some ⟨w.heap.size, 0, none⟩) l.length cap) ∧ w' = w.alloc (.cells (Lib.cellsOf l cap) 9) := by
  have hz : (⟨#[c]⟩ : ByteArray).size = 1 := rfl
  refine (Tryz.strings_SplitN t ⟨#[c]⟩ n mm w (by omega) hm (by omega) hn (by omega)).mono ?_
  rintro e w' ⟨he, hw⟩
  have hle := Lib.splitB_length_le ⟨#[c]⟩ 0 (min n (t.size + 1) - 1) t
  refine ⟨_, _, splitB_pos _ _ _, by omega, by omega, by omega, fun x hx => splitB_size _ _ _ x hx, fun h2 x hx => splitB_lt c _ _ h2 x hx, ?_, ?_, he, hw⟩
  · intro fs h1 h2 h3 h4
    have hk := join_len c (fs.map (·.data.toList))
    rw [List.length_map, ← h4] at hk
    have hts : t.data.toList.length = t.size := by simp
    rw [hts] at hk
    have := splitK_join c (fs.map (·.data.toList)) (min n (t.size + 1) - 1) (by simpa using h1) (by rw [List.length_map]; omega) (by
      intro f hf x hx
      obtain ⟨g, hg, rfl⟩ := List.mem_map.1 hf
      exact h3 g hg x hx)
    refine bytes_back ?_
    rw [Lib.splitB_data, h4]
    exact this
  · rintro rfl
    have e0 : min n (ByteArray.empty.size + 1) - 1 = 0 := by
      have : ByteArray.empty.size = 0 := rfl
      omega
    rw [e0]; rfl

theorem join_count (c : UInt8) (l : List (List UInt8)) : l.length ≤ (joinL c l).count c + 1 := by
  induction l with
  | nil => simp
  | cons a r ih =>
    cases r with
    | nil => simp [joinL]
    | cons b q =>
      rw [joinL, List.count_append, List.count_cons_self]
      simp only [List.length_cons] at ih ⊢
      omega
theorem c_SplitK (c : UInt8) (t : ByteArray) (w : World) (ht : t.size ≤ 1048576) (mm : Int) (hm : w.cell? ⟨3, 0, none⟩ = some (.int .i64 mm)) :
    Calls Tryz.prog 74 #[.string t, .string ⟨#[c]⟩] w fun e w' => ∃ l : List ByteArray, 1 ≤ l.length ∧ l.length ≤ t.size + 1 ∧ (∀ x ∈ l, x.size ≤ t.size) ∧ (∀ fs : List ByteArray, fs ≠ [] → (∀ f ∈ fs, ∀ x ∈ f.data.toList, x ≠ c) → t.data.toList = joinL c (fs.map (·.data.toList)) → l = fs) ∧ e = .returned (.slice (some ⟨w.heap.size, 0, none⟩) l.length l.length) ∧ w' = w.alloc (.cells (l.map Value.string).toArray 9) := by
  have hz : (⟨#[c]⟩ : ByteArray).size = 1 := rfl
  refine (Tryz.strings_Split t ⟨#[c]⟩ mm w (by omega) hm (by omega)).mono ?_
  rintro e w' ⟨he, hw⟩
  have hall := Lib.splitB_all ⟨#[c]⟩ (by omega) 0 _ t rfl
  have hle := Lib.countB_le ⟨#[c]⟩ (by omega) _ t (Nat.le_refl _)
  refine ⟨Lib.splitB ⟨#[c]⟩ 0 (Lib.countB t ⟨#[c]⟩) t, by omega, by omega, fun x hx => splitB_size _ _ _ x hx, ?_, by rw [hall]; exact he, hw⟩
  intro fs h1 h3 h4
  have hcn : Lib.countB t ⟨#[c]⟩ = (joinL c (fs.map (·.data.toList))).count c := by
    show Lib.count t.data.toList [c] = _
    rw [Lib.count_one, h4]
  have hjc := join_count c (fs.map (·.data.toList))
  have := splitK_join c (fs.map (·.data.toList)) (Lib.countB t ⟨#[c]⟩) (by simpa using h1) (by omega) (by
    intro f hf x hx
    obtain ⟨g, hg, rfl⟩ := List.mem_map.1 hf
    exact h3 g hg x hx)
  refine bytes_back ?_
  rw [Lib.splitB_data, h4]
  exact this
theorem c_AtoiK (s : ByteArray) (w : World) (hs : s.size ≤ 1048576) (hE : ErrAt w) : Calls Tryz.prog 39 #[.string s] w fun e w' => (∃ (n : Int) (ev : Value), e = .returned (.tuple #[.int .i64 n, ev]) ∧ (-9223372036854775808 ≤ n ∧ n ≤ 9223372036854775807) ∧ NumN s n) ∧ Below w.heap.size w w' := by
  refine (c_Atoi s w (by omega) hE).mono ?_
  rintro e w' ⟨⟨n, ev, rfl, hb, hv⟩, hB⟩
  exact ⟨⟨n, ev, rfl, hb, fun k a0 a1 e => hv k (by rw [e, str_list]; exact atoi_itoa a0 a1)⟩, hB⟩
theorem cut_sz46 (s : List UInt8) : (Lib.cut s [46]).1.length ≤ s.length ∧ (Lib.cut s [46]).2.1.length ≤ s.length := by
  unfold Lib.cut
  split
  · simp; omega
  · simp
theorem c_Cut46 (x : ByteArray) (w : World) (hx : x.size ≤ 1048576) (mm : Int) (hm : w.cell? ⟨3, 0, none⟩ = some (.int .i64 mm)) :
    Calls Tryz.prog 75 #[.string x, .string ⟨#[46]⟩] w fun e w' => (∃ (a b : ByteArray) (f : Bool), e = .returned (.tuple #[.string a, .string b, .bool f]) ∧ a.size ≤ 1048576 ∧ b.size ≤ 1048576 ∧ ∀ p : Pr, x = pkT p → a = str (dec p.1) ∧ b = str (dec p.2)) ∧ Below w.heap.size w w' := by
  refine (Tryz.strings_Cut x ⟨#[46]⟩ mm w (by omega) hm).mono ?_
  rintro e w' ⟨rfl, n, rfl⟩
  have hs := cut_sz46 x.data.toList
  have hl : x.data.toList.length = x.size := by simp
  have e46 : (⟨#[46]⟩ : ByteArray).data.toList = [46] := rfl
  rw [e46]
  refine ⟨⟨_, _, _, rfl, ?_, ?_, ?_⟩, bel_drewN (Below.refl _ w) n⟩
  · show (str _).size ≤ _; rw [str_size]; omega
  · show (str _).size ≤ _; rw [str_size]; omega
  · rintro p rfl
    rw [index_dot p]
    exact ⟨rfl, rfl⟩
theorem pk_of {x a b : ByteArray} {n0 n1 : Int} (h : ∀ p : Pr, x = pkT p → a = str (dec p.1) ∧ b = str (dec p.2)) (ha : NumN a n0) (hb : NumN b n1) : PkOf x (n0, n1) := fun p h1 h2 e => by
  obtain ⟨e1, e2⟩ := h p e
  exact Prod.ext (ha p.1 (by omega) (by omega) (by rw [itoa_dec p.1 h1.1]; exact e1)) (hb p.2 (by omega) (by omega) (by rw [itoa_dec p.2 h2.1]; exact e2))
theorem own_awayK {w w' : World} {M B : Nat} {e : TypeId} {size : Nat} {v : Value} {n : Nat} {xs : List Value} (h : w.ownsRow B e size v n xs) (hg : w.grownBy w' (some M)) (hM : w.heap.size ≤ M) : w'.ownsRow B e size v n xs :=
  h.kept hg (by
    cases hv : v.ownBlock with
    | none => exact .inl rfl
    | some g => right; have := (h.lt g hv).2; simp; omega)
theorem psb_snoc {q : List Pr} (h : PsB q) (p : Pr) (h1 : -9223372036854775808 ≤ p.1 ∧ p.1 ≤ 9223372036854775807) (h2 : -9223372036854775808 ≤ p.2 ∧ p.2 ≤ 9223372036854775807) : PsB (q ++ [p]) := by
  intro i u hu
  by_cases hi : i < q.length
  · rw [List.getElem?_append_left hi] at hu
    exact h i u hu
  · rw [List.getElem?_append_right (by omega)] at hu
    have := (List.getElem?_eq_some_iff.1 hu).1
    have e : i - q.length = 0 := by simp at this; omega
    rw [e] at hu
    simp at hu
    subst hu
    exact ⟨h1, h2⟩
theorem prfl_all {x : ByteArray} {l : List ByteArray} (h : ∀ fs : List ByteArray, fs ≠ [] → (∀ f ∈ fs, ∀ x ∈ f.data.toList, x ≠ (44 : UInt8)) → x.data.toList = joinL 44 (fs.map (·.data.toList)) → l = fs) : PrFl x l := fun ps h0 hT =>
  h (ps.map pkT) (by intro e; rw [List.map_eq_nil_iff] at e; rw [e] at h0; simp at h0) (by intro f hf; obtain ⟨p, -, rfl⟩ := List.mem_map.1 hf; exact pkT_noC 44 (.inl (by decide)) p) (by rw [← hT]; exact prT_join h0)

set_option maxHeartbeats 8000000 in
set_option maxRecDepth 100000 in
theorem c_parsePairs (T : ByteArray) (w : World) (ht : T.size ≤ 1048575) (hE : ErrAt w) (mm : Int) (hm : w.cell? ⟨3, 0, none⟩ = some (.int .i64 mm)) : Calls Tryz.prog 40 #[.string T] w fun e w' => ∃ (q : List Pr) (A : Option Addr) (cap : Nat), PrOf T q ∧ PsB q ∧ q.length ≤ 1048576 ∧ e = .returned (.slice A q.length cap) ∧ w'.ownsRow w.heap.size 53 2 (.slice A q.length cap) q.length (prs q) ∧ Below w.heap.size w w' := by
  by_cases hd : T = str [45]
  · have hb := dash_yes hd
    have HR := hid (show PrOf T [] by rw [hd]; exact pr_dash)
    clear hd
    go_enter Tryz.func40, Tryz.ntmps40
    go_wp2_with fail
    go_ret
    exact ⟨[], none, 0, HR.out, fun i p h => by simp at h, by simp, rfl, own_ps_nil _ _ _, Below.refl _ _⟩
  have hb := dash_no hd
  go_enter Tryz.func40, Tryz.ntmps40
  go_wp2_with fail
  refine (c_SplitK 44 T w (by omega) mm hm).mono ?_
  rintro e W2 ⟨l, hl1, hl2, hsz, hcut, rfl, hW2⟩
  obtain ⟨F, hF⟩ : ∃ F, F = w.heap.size := ⟨_, rfl⟩
  rw [← hF]
  have kf : Blk W2 F 9 (l.map Value.string).toArray := by rw [hW2, hF]; exact Blk.new w _ _
  have c2 : Below w.heap.size w W2 := by rw [hW2]; exact bel_alloc (Below.refl _ _) _
  have HP := hid (prfl_all hcut)
  have HSZ := hid (show ∀ x ∈ l, x.size ≤ 1048576 from fun x hx => Nat.le_trans (hsz x hx) (by omega))
  have HD := hid hd
  have hFB : F < W2.heap.size := kf.lt
  obtain ⟨B, hB⟩ : ∃ B, B = W2.heap.size := ⟨_, rfl⟩
  have hwB : w.heap.size ≤ B := by rw [hB]; exact c2.size
  rw [← hB] at hFB
  have HB2 := hid (show B ≤ W2.heap.size by omega)
  obtain ⟨n, hn⟩ : ∃ n, n = l.length := ⟨_, rfl⟩
  rw [← hn]
  have Hn := hid hn
  rw [← hn] at hl1 hl2
  clear hn hd hsz hcut hW2 hF hB
  go_wp2_with fail
  go_loopw [3, 15] (fun v i wr => ∃ (k : Nat) (q : List Pr), k ≤ n ∧ i = .int .i64 k ∧ Hid (q.length = k ∧ PksOf l q ∧ PsB q) ∧ wr.ownsRow B 53 2 v k (prs q) ∧ Blk wr F 9 (l.map Value.string).toArray ∧ Below w.heap.size w wr ∧ B ≤ wr.heap.size) (fun _ i _ => n - (intOf i).toNat)
  case atStart => exact ⟨0, [], Nat.zero_le _, rfl, hid ⟨rfl, PksOf.nil l, fun i p h => by simp at h⟩, own_ps_nil _ _ _, kf, c2, HB2.out⟩
  case round =>
    clear kf c2
    obtain ⟨k, q, hk, rfl, HQ, hown, hkf, hbl, hBr⟩ := hrel
    rename_i wr _
    by_cases hlt : k < n
    · have hlt2 : k < l.length := by have := Hn.out; omega
      obtain ⟨x, hx⟩ : ∃ x, x = l[k] := ⟨_, rfl⟩
      have y0 : wr.cell? ⟨F, k, none⟩ = some (.string x) := (hkf.cell k).trans (by rw [hx]; simp [hlt2])
      have hxz : x.size ≤ 1048576 := by rw [hx]; exact HSZ.out _ (List.getElem_mem _)
      have HX := hid hx
      have hlti : (k : Int) < (n : Int) := by omega
      have HO := hid hown
      have HF := hid hkf
      clear hx hown hkf
      go_wp2_with fail
      refine (c_Cut46 x wr hxz mm (cell_kept hm hbl)).mono ?_
      rintro e V1 ⟨⟨a, b, f, rfl, haz, hbz, hab⟩, hb1⟩
      have HAB := hid hab
      clear y0 hab
      go_wp2_with fail
      obtain ⟨M, hM⟩ : ∃ M, M = V1.heap.size := ⟨_, rfl⟩
      obtain ⟨V2, hV2⟩ : ∃ V2, V2 = V1.alloc (.cells #[.int .i64 0, .int .i64 0] 53) := ⟨_, rfl⟩
      rw [← hM, ← hV2]
      have hwM : wr.heap.size ≤ M := by rw [hM]; exact hb1.size
      have kM2 : Blk V2 M 53 #[.int .i64 0, .int .i64 0] := by rw [hV2, hM]; exact Blk.new V1 _ _
      have hg2 : wr.grownBy V2 (some M) := by rw [hV2]; exact grown_below _ (bel_alloc hb1 _)
      clear hV2 hM hb1
      have c2 : Below w.heap.size w V2 := hbl.trans (below_of_grown hg2 hbl.size (fun g e => by cases e; have := hbl.size; omega))
      refine (c_AtoiK a V2 haz (hE.kept c2)).mono ?_
      rintro e V3 ⟨⟨n0, ev0, rfl, hr0, hn0⟩, hb3⟩
      have HN0 := hid hn0
      have kM3 := kM2.on hb3
      have hg3 := grown_trans hg2 (grown_below (some M) hb3)
      obtain ⟨m0, m1⟩ := kM3.cells2
      have fr0 := kM3.frozen 0
      clear hn0 kM2 hg2 hb3 c2
      go_wp2_with fail
      obtain ⟨V4, hV4⟩ : ∃ V4, V4 = V3.setCell ⟨M, 0, none⟩ (.int .i64 n0) := ⟨_, rfl⟩
      rw [← hV4]
      have kM4 : Blk V4 M 53 #[.int .i64 n0, .int .i64 0] := by rw [hV4]; exact kM3.set_ 0 _
      have hg4 : wr.grownBy V4 (some M) := by rw [hV4]; exact grown_set hg3 0 _
      have c4 : Below w.heap.size w V4 := hbl.trans (below_of_grown hg4 hbl.size (fun g e => by cases e; have := hbl.size; omega))
      clear hV4 kM3 hg3 m0 m1 fr0
      refine (c_AtoiK b V4 hbz (hE.kept c4)).mono ?_
      rintro e V5 ⟨⟨n1, ev1, rfl, hr1, hn1⟩, hb5⟩
      have HN1 := hid hn1
      have kM5 := kM4.on hb5
      have hg5 := grown_trans hg4 (grown_below (some M) hb5)
      obtain ⟨m0, m1⟩ := kM5.cells2
      have fr1 := kM5.frozen 1
      have hg6 : wr.grownBy (V5.setCell ⟨M, 1, none⟩ (.int .i64 n1)) (some M) := grown_set hg5 1 _
      have c6 : Below w.heap.size w (V5.setCell ⟨M, 1, none⟩ (.int .i64 n1)) := hbl.trans (below_of_grown hg6 hbl.size (fun g e => by cases e; have := hbl.size; omega))
      have hown6 := own_awayK HO.out hg6 hwM
      have kf6 : Blk (V5.setCell ⟨M, 1, none⟩ (.int .i64 n1)) F 9 (l.map Value.string).toArray := HF.out.grown hg6 (by simp; omega)
      have hB6 : B ≤ (V5.setCell ⟨M, 1, none⟩ (.int .i64 n1)).heap.size := Nat.le_trans hBr hg6.size
      clear hn1 kM4 hg4 hb5 c4 hg5 hg6
      go_wp2_with (at_builtin; refine app_pair rfl _ _ 25 rfl B 53 Tryz.underlying25 Tryz.info_pair _ k q rfl hown6 (n0, n1) _ _ rfl rfl 1 (by rw [World.size_setCell]; rfl) (by omega) hB6 ?_; intro v7 w7 hown7 hb7 hg7)
      have HQ2 := hid (show (q ++ [(n0, n1)]).length = k + 1 ∧ PksOf l (q ++ [(n0, n1)]) ∧ PsB (q ++ [(n0, n1)]) from by
        obtain ⟨q1, q2, q3⟩ := HQ.out
        refine ⟨by simp; omega, ?_, psb_snoc q3 _ hr0 hr1⟩
        refine q2.snoc (by omega) _ ?_
        have hp := pk_of HAB.out HN0.out HN1.out
        have e : l[q.length]'(by omega) = x := by rw [HX.out]; congr 1
        rw [e]; exact hp)
      have kf7 := kf6.below hb7 hFB
      have c7 := c6.trans (hb7.mono hwB)
      have hB7 := Nat.le_trans hB6 hb7.size
      clear HQ HO HF hown6 hb7 hg7 kf6 c6
      go_roundw
      case rel => exact ⟨k + 1, q ++ [(n0, n1)], by omega, by go_num, HQ2, hown7, kf7, c7, hB7⟩
      case measure => simp [intOf]; omega
    · have hkn : k = n := by omega
      obtain ⟨A0, cap0, rfl, hat, hkq, _⟩ := own_ps hown
      have HO := hid (own_mono (B' := w.heap.size) hown hwB)
      have HR := hid (show PrOf T q from pr_of HD.out HP.out HQ.out.2.1 (by rw [HQ.out.1, hkn, Hn.out]))
      have hq4 : q.length ≤ 1048576 := by omega
      have hlti : ¬ (k : Int) < (n : Int) := by omega
      rw [hkq] at HO
      clear hat hown hkn hkq
      go_wp2_with fail
      go_ret
      first | exact ⟨q, HR.out, HQ.out.2.2, hq4, A0, cap0, rfl, HO.out, hbl⟩ | exact ⟨q, A0, cap0, HR.out, HQ.out.2.2, hq4, rfl, HO.out, hbl⟩

theorem ps_ex (x : ByteArray) : ∃ (o l m : Int) (b : Bool), ((-9223372036854775808 ≤ o ∧ o ≤ 9223372036854775807) ∧ (-9223372036854775808 ≤ l ∧ l ≤ 9223372036854775807) ∧ (-9223372036854775808 ≤ m ∧ m ≤ 9223372036854775807)) ∧ SetOf x o l m ∧ ∀ e, PS x e → e = .returned (.tuple #[.agg #[.int .i64 o, .int .i64 l, .int .i64 m], .bool b]) := by
  by_cases hx : ∃ o l m : Int, setOk o l m = true ∧ fmtS o l m = x
  · obtain ⟨o, l, m, h, e⟩ := hx
    obtain ⟨s1, s2, s3⟩ := setOk_iff.1 h
    exact ⟨o, l, m, true, by omega, fun o' l' m' h' e' => by obtain ⟨a, b, c⟩ := fmtS_inj h e h' e'; exact ⟨a.symm, b.symm, c.symm⟩, fun _ hp => PS_yes h e hp⟩
  · have hn : ∀ o l m : Int, Fail x o l m := fun o l m hf => hx ⟨o, l, m, hf⟩
    exact ⟨0, 0, 0, false, by omega, fun o' l' m' h' e' => absurd ⟨h', e'⟩ (hn o' l' m'), fun _ hp => PS_no hn hp⟩
theorem c_FormatKnown_any (k : Kn) (A : Option Addr) (cap L : Nat) (w : World) (h : PsAt w L A cap k.ps) (hL : L ≤ w.heap.size) (hw : k.Wf) (hTab : TabN w) : Calls Tryz.prog 7 #[.agg #[.int .i64 k.o, .int .i64 k.l, .int .i64 k.m, .slice A k.ps.length cap, .int .i64 k.base, .int .i64 k.last]] w fun e w' => e = .returned (.string (knV k)) ∧ Below w.heap.size w w' := by
  by_cases hk : k.Ok
  · rw [knV, if_pos hk]; exact c_FormatKnown_yes k A cap L w h hL hk hw hTab
  · rw [knV, if_neg hk]; exact c_FormatKnown_no k A cap L w h hL hk hw

theorem four_of {l : List ByteArray} (h : l.length = 4) : ∃ a b c d, l = [a, b, c, d] := by
  match l, h with
  | [a, b, c, d], _ => exact ⟨a, b, c, d, rfl⟩
theorem kn_wf {o l m u v : Int} {q : List Pr} (h1 : PsB q) (h2 : -9223372036854775808 ≤ u ∧ u ≤ 9223372036854775807) (h3 : -9223372036854775808 ≤ v ∧ v ≤ 9223372036854775807) (h4 : q.length ≤ 1048576) : Kn.Wf ⟨o, l, m, q, u, v⟩ := ⟨h1, h2, h3, h4⟩
theorem own_ps_atK {w : World} {B : Nat} {e : TypeId} {A : Option Addr} {n cap : Nat} {l : List Pr} (h : w.ownsRow B e 2 (.slice A n cap) n (prs l)) : PsAt w w.heap.size A cap l := by
  obtain ⟨A', c', e1, h1, h2, _⟩ := own_ps h
  simp at e1
  obtain ⟨rfl, _, rfl⟩ := e1
  exact h1
theorem blk6k {w : World} {R : Nat} {S : TypeId} {x0 x1 x2 x3 x4 x5 : Value} (hc : Blk w R S #[x0, x1, x2, x3, x4, x5]) (a b c d e f : Value) : Blk ((((((w.setCell ⟨R, 0, none⟩ a).setCell ⟨R, 1, none⟩ b).setCell ⟨R, 2, none⟩ c).setCell ⟨R, 3, none⟩ d).setCell ⟨R, 4, none⟩ e).setCell ⟨R, 5, none⟩ f) R S #[a, b, c, d, e, f] := (((((hc.set_ 0 _).set_ 1 _).set_ 2 _).set_ 3 _).set_ 4 _).set_ 5 _
theorem gr6k {w v : World} {R : Nat} (h : w.grownBy v (some R)) (a b c d e f : Value) : w.grownBy ((((((v.setCell ⟨R, 0, none⟩ a).setCell ⟨R, 1, none⟩ b).setCell ⟨R, 2, none⟩ c).setCell ⟨R, 3, none⟩ d).setCell ⟨R, 4, none⟩ e).setCell ⟨R, 5, none⟩ f) (some R) := grown_set (grown_set (grown_set (grown_set (grown_set (grown_set h 0 a) 1 b) 2 c) 3 d) 4 e) 5 f

set_option maxHeartbeats 8000000 in
set_option maxRecDepth 100000 in
theorem c_ParseKnown (T : ByteArray) (w : World) (ht : T.size ≤ 1048576) (hE : ErrAt w) (mm : Int) (hm : w.cell? ⟨3, 0, none⟩ = some (.int .i64 mm)) (hTab : TabN w) : Calls Tryz.prog 10 #[.string T] w fun e w' => ∃ (k : Kn) (b : Bool) (A : Option Addr) (cap : Nat), (PKn T k b ∧ k.ps.length ≤ 1048576) ∧ e = .returned (.tuple #[.agg #[.int .i64 k.o, .int .i64 k.l, .int .i64 k.m, .slice A k.ps.length cap, .int .i64 k.base, .int .i64 k.last], .bool b]) ∧ w'.ownsRow w.heap.size 53 2 (.slice A k.ps.length cap) k.ps.length (prs k.ps) ∧ Below w.heap.size w w' := by
  have HE := hid hE
  have HMM := hid hm
  have HTAB := hid hTab
  clear hE hm hTab
  obtain ⟨V0, hV0⟩ : ∃ V0, V0 = w.alloc (.cells #[.int .i64 0, .int .i64 0, .int .i64 0, .slice none 0 0, .int .i64 0, .int .i64 0] 27) := ⟨_, rfl⟩
  have kZ0 : Blk V0 w.heap.size 27 #[.int .i64 0, .int .i64 0, .int .i64 0, .slice none 0 0, .int .i64 0, .int .i64 0] := by rw [hV0]; exact Blk.new w _ _
  have c0 : Below w.heap.size w V0 := by rw [hV0]; exact bel_alloc (Below.refl _ _) _
  have hz0 : w.heap.size + 1 ≤ V0.heap.size := by rw [hV0, World.size_alloc]; omega
  go_enter Tryz.func10, Tryz.ntmps10
  go_wp2_with fail
  rw [← hV0]
  clear hV0
  refine (c_SplitNk 59 5 T V0 ht (by omega) (by omega) mm (cell_kept HMM.out c0)).mono ?_
  rintro e W2 ⟨l, cap, hl1, hl4, hlc, hc4, hsz, hslt, hcut, hemp, rfl, hW2⟩
  obtain ⟨F, hF⟩ : ∃ F, F = V0.heap.size := ⟨_, rfl⟩
  rw [← hF]
  have kf2 : Blk W2 F 9 (Lib.cellsOf l cap) := by rw [hW2, hF]; exact Blk.new V0 _ _
  have kZ2 : Blk W2 w.heap.size 27 #[.int .i64 0, .int .i64 0, .int .i64 0, .slice none 0 0, .int .i64 0, .int .i64 0] := by rw [hW2]; exact kZ0.alloc _
  have c2 : Below w.heap.size w W2 := by rw [hW2]; exact bel_alloc c0 _
  have hz2 : F + 1 ≤ W2.heap.size := by rw [hW2, hF, World.size_alloc]; omega
  have hzF : w.heap.size + 1 ≤ F := by omega
  have HP := hid (knfl_cut hcut)
  have HEM := hid hemp
  clear hcut hemp hW2 hF kZ0 c0 hz0
  by_cases h4 : l.length = 4
  case neg =>
    have HR := hid (pkn_len HP.out h4)
    have h4i : ¬ ((l.length : Int) = 4) := by omega
    have hne4 : ((l.length : Int) != 4) = true := by simpa using h4i
    obtain ⟨zc0, zc1, zc2, zc3, zc4, zc5⟩ := kZ2.cells6
    have fz0 := kZ2.frozen 0
    have fz1 := kZ2.frozen 1
    have fz2 := kZ2.frozen 2
    have fz3 := kZ2.frozen 3
    have fz4 := kZ2.frozen 4
    have fz5 := kZ2.frozen 5
    obtain ⟨j0, j1, j2, j3, j4, j5⟩ := (blk6k kZ2 (.int .i64 0) (.int .i64 0) (.int .i64 0) (.slice none 0 0) (.int .i64 0) (.int .i64 0)).cells6
    have HG := hid (gr6k (grown_refl W2 (some w.heap.size)) (.int .i64 0) (.int .i64 0) (.int .i64 0) (.slice none 0 0) (.int .i64 0) (.int .i64 0))
    have HBB := hid (c2.trans (below_of_grown HG.out c2.size (fun g e => by cases e; exact Nat.le_refl _)))
    clear kZ2
    go_wp2
    (try simp only [Exit.inBlock, Exit.then])
    exact bodyPost_ret (v := .tuple #[.agg #[.int .i64 0, .int .i64 0, .int .i64 0, .slice none 0 0, .int .i64 0, .int .i64 0], .bool false]) (by simp [results, Tryz.results10, go_sem, j0, j1, j2, j3, j4, j5]) rfl ⟨kn0, false, none, 0, ⟨HR.out, by simp [kn0]⟩, rfl, own_ps_nil _ _ _, HBB.out⟩
  obtain ⟨x0, x1, x2, x3, rfl⟩ := four_of h4
  have HSZ := hid (show x0.size + 1 ≤ T.size ∧ x1.size + 1 ≤ T.size ∧ x2.size + 1 ≤ T.size ∧ x3.size + 1 ≤ T.size from ⟨hslt (by simp) x0 (by simp), hslt (by simp) x1 (by simp), hslt (by simp) x2 (by simp), hslt (by simp) x3 (by simp)⟩)
  have HT0 := hid (show ¬ T = ByteArray.empty from fun h => by have := HEM.out h; simp at this)
  have HY := hid (show (Lib.cellsOf [x0, x1, x2, x3] cap)[0]? = some (.string x0) ∧ (Lib.cellsOf [x0, x1, x2, x3] cap)[1]? = some (.string x1) ∧ (Lib.cellsOf [x0, x1, x2, x3] cap)[2]? = some (.string x2) ∧ (Lib.cellsOf [x0, x1, x2, x3] cap)[3]? = some (.string x3) from ⟨cells_of_at _ _ 0 _ rfl, cells_of_at _ _ 1 _ rfl, cells_of_at _ _ 2 _ rfl, cells_of_at _ _ 3 _ rfl⟩)
  obtain ⟨cs, hcs⟩ : ∃ cs, cs = Lib.cellsOf [x0, x1, x2, x3] cap := ⟨_, rfl⟩
  rw [← hcs] at kf2 HY
  clear hcs h4 hl1 hl4 hsz hslt HEM
  obtain ⟨o, l, m, bs, hbd, hSO, hone⟩ := ps_ex x0
  have HSO := hid hSO
  have HONE := hid hone
  clear hSO hone
  obtain ⟨W3, hW3⟩ : ∃ W3, W3 = W2.alloc (.cells #[.int .i64 0, .int .i64 0, .int .i64 0, .slice none 0 0, .int .i64 0, .int .i64 0] 27) := ⟨_, rfl⟩
  have kK3 : Blk W3 W2.heap.size 27 #[.int .i64 0, .int .i64 0, .int .i64 0, .slice none 0 0, .int .i64 0, .int .i64 0] := by rw [hW3]; exact Blk.new W2 _ _
  have kf3 : Blk W3 F 9 cs := by rw [hW3]; exact kf2.alloc _
  have kZ3 : Blk W3 w.heap.size 27 #[.int .i64 0, .int .i64 0, .int .i64 0, .slice none 0 0, .int .i64 0, .int .i64 0] := by rw [hW3]; exact kZ2.alloc _
  have c3 : Below w.heap.size w W3 := by rw [hW3]; exact bel_alloc c2 _
  have hNF : F + 1 ≤ W2.heap.size := by omega
  have hN3 : W2.heap.size + 1 ≤ W3.heap.size := by rw [hW3, World.size_alloc]; omega
  have y0 : (W2.alloc (.cells #[.int .i64 0, .int .i64 0, .int .i64 0, .slice none 0 0, .int .i64 0, .int .i64 0] 27)).cell? ⟨F, 0, none⟩ = some (.string x0) := by rw [← hW3]; exact (kf3.cell 0).trans HY.out.1
  have hne1 : ¬ W2.heap.size = F := by omega
  have hne2 : ¬ F = W2.heap.size := by omega
  have hne3 : ¬ W2.heap.size = w.heap.size := by omega
  have hne4 : ¬ w.heap.size = W2.heap.size := by omega
  clear kf2 kZ2 c2 hz2
  go_wp2_with fail
  rw [← hW3]
  clear hW3 y0
  refine (c_ParseSetting x0 W3 (by have := HSZ.out.1; omega) (HE.out.kept c3) mm (cell_kept HMM.out c3)).mono ?_
  rintro e W4 ⟨hp, hb4⟩
  obtain rfl := HONE.out _ hp
  have kK4 := kK3.on hb4
  have kf4 := kf3.on hb4
  have kZ4 := kZ3.on hb4
  have c4 := c3.trans (hb4.mono c3.size)
  have hN4 := Nat.le_trans hN3 hb4.size
  clear hp hb4 kK3 kf3 kZ3 c3 hN3
  obtain ⟨m0, m1, m2, m3, m4, m5⟩ := kK4.cells6
  have fr0 := kK4.frozen 0
  have fr1 := kK4.frozen 1
  have fr2 := kK4.frozen 2
  obtain ⟨W5, hW5⟩ : ∃ W5, W5 = (((W4.setCell ⟨W2.heap.size, 0, none⟩ (.int .i64 o)).setCell ⟨W2.heap.size, 1, none⟩ (.int .i64 l)).setCell ⟨W2.heap.size, 2, none⟩ (.int .i64 m)) := ⟨_, rfl⟩
  have HG5 := hid (show W4.grownBy W5 (some W2.heap.size) by rw [hW5]; exact (grown_set (grown_set (grown_set (grown_refl W4 (some W2.heap.size)) 0 (.int .i64 o)) 1 (.int .i64 l)) 2 (.int .i64 m)))
  have kK5 : Blk W5 W2.heap.size 27 #[.int .i64 o, .int .i64 l, .int .i64 m, .slice none 0 0, .int .i64 0, .int .i64 0] := by rw [hW5]; exact (((kK4.set_ 0 (.int .i64 o)).set_ 1 (.int .i64 l)).set_ 2 (.int .i64 m))
  have kf5 := kf4.grown HG5.out (by simp; omega)
  have kZ5 := kZ4.grown HG5.out (by simp; omega)
  have c5 := c4.trans (below_of_grown HG5.out c4.size (fun g e => by cases e; omega))
  have hN5 := Nat.le_trans hN4 HG5.out.size
  have y9 : (((W4.setCell ⟨W2.heap.size, 0, none⟩ (.int .i64 o)).setCell ⟨W2.heap.size, 1, none⟩ (.int .i64 l)).setCell ⟨W2.heap.size, 2, none⟩ (.int .i64 m)).cell? ⟨F, 1, none⟩ = some (.string x1) := by rw [← hW5]; exact (kf5.cell 1).trans HY.out.2.1
  clear kf4 kZ4 c4 HG5 kK4
  go_wp2_with fail
  rw [← hW5]
  clear hW5 y9 m0 m1 m2 m3 m4 m5 fr0 fr1 fr2
  refine (c_AtoiK x1 W5 (by have := HSZ.out.2.1; omega) (HE.out.kept c5)).mono ?_
  rintro e W6 ⟨⟨n0, ev0, rfl, hr0, hn0⟩, hb⟩
  have kK6 := kK5.on hb
  have kf6 := kf5.on hb
  have kZ6 := kZ5.on hb
  have c6 := c5.trans (hb.mono c5.size)
  have hN6 := Nat.le_trans hN5 hb.size
  have HN0 := hid hn0
  clear hn0
  clear hb kK5 kf5 kZ5 c5 hN5
  obtain ⟨m0, m1, m2, m3, m4, m5⟩ := kK6.cells6
  have fr4 := kK6.frozen 4
  obtain ⟨W7, hW7⟩ : ∃ W7, W7 = (W6.setCell ⟨W2.heap.size, 4, none⟩ (.int .i64 n0)) := ⟨_, rfl⟩
  have HG7 := hid (show W6.grownBy W7 (some W2.heap.size) by rw [hW7]; exact (grown_set (grown_refl W6 (some W2.heap.size)) 4 (.int .i64 n0)))
  have kK7 : Blk W7 W2.heap.size 27 #[.int .i64 o, .int .i64 l, .int .i64 m, .slice none 0 0, .int .i64 n0, .int .i64 0] := by rw [hW7]; exact (kK6.set_ 4 (.int .i64 n0))
  have kf7 := kf6.grown HG7.out (by simp; omega)
  have kZ7 := kZ6.grown HG7.out (by simp; omega)
  have c7 := c6.trans (below_of_grown HG7.out c6.size (fun g e => by cases e; omega))
  have hN7 := Nat.le_trans hN6 HG7.out.size
  have y9 : (W6.setCell ⟨W2.heap.size, 4, none⟩ (.int .i64 n0)).cell? ⟨F, 2, none⟩ = some (.string x2) := by rw [← hW7]; exact (kf7.cell 2).trans HY.out.2.2.1
  clear kf6 kZ6 c6 HG7 kK6
  go_wp2_with fail
  rw [← hW7]
  clear hW7 y9 m0 m1 m2 m3 m4 m5 fr4
  refine (c_AtoiK x2 W7 (by have := HSZ.out.2.2.1; omega) (HE.out.kept c7)).mono ?_
  rintro e W8 ⟨⟨n1, ev1, rfl, hr1, hn1⟩, hb⟩
  have kK8 := kK7.on hb
  have kf8 := kf7.on hb
  have kZ8 := kZ7.on hb
  have c8 := c7.trans (hb.mono c7.size)
  have hN8 := Nat.le_trans hN7 hb.size
  have HN1 := hid hn1
  clear hn1
  clear hb kK7 kf7 kZ7 c7 hN7
  obtain ⟨m0, m1, m2, m3, m4, m5⟩ := kK8.cells6
  have fr5 := kK8.frozen 5
  obtain ⟨W9, hW9⟩ : ∃ W9, W9 = (W8.setCell ⟨W2.heap.size, 5, none⟩ (.int .i64 n1)) := ⟨_, rfl⟩
  have HG9 := hid (show W8.grownBy W9 (some W2.heap.size) by rw [hW9]; exact (grown_set (grown_refl W8 (some W2.heap.size)) 5 (.int .i64 n1)))
  have kK9 : Blk W9 W2.heap.size 27 #[.int .i64 o, .int .i64 l, .int .i64 m, .slice none 0 0, .int .i64 n0, .int .i64 n1] := by rw [hW9]; exact (kK8.set_ 5 (.int .i64 n1))
  have kf9 := kf8.grown HG9.out (by simp; omega)
  have kZ9 := kZ8.grown HG9.out (by simp; omega)
  have c9 := c8.trans (below_of_grown HG9.out c8.size (fun g e => by cases e; omega))
  have hN9 := Nat.le_trans hN8 HG9.out.size
  have y9 : (W8.setCell ⟨W2.heap.size, 5, none⟩ (.int .i64 n1)).cell? ⟨F, 3, none⟩ = some (.string x3) := by rw [← hW9]; exact (kf9.cell 3).trans HY.out.2.2.2
  clear kf8 kZ8 c8 HG9 kK8
  go_wp2_with fail
  rw [← hW9]
  clear hW9 y9 m0 m1 m2 m3 m4 m5 fr5
  refine (c_parsePairs x3 W9 (by have := HSZ.out.2.2.2; omega) (HE.out.kept c9) mm (cell_kept HMM.out c9)).mono ?_
  rintro e W10 ⟨q, Aq, cq, hpr, hpb, hql, rfl, hown, hb⟩
  have kK10 := kK9.on hb
  have kf10 := kf9.on hb
  have kZ10 := kZ9.on hb
  have c10 := c9.trans (hb.mono c9.size)
  have hN10 := Nat.le_trans hN9 hb.size
  have HPR := hid hpr
  have HPB := hid hpb
  have hown10 := own_mono (B' := w.heap.size + 1) hown (by have := c9.size; omega)
  have HLT := hid (show ∀ g, (Value.slice Aq q.length cq).ownBlock = some g → W2.heap.size < g from fun g hg => by have := (hown.lt g hg).1; omega)
  clear hpr hpb hown
  clear hb kK9 kf9 kZ9 c9 hN9
  obtain ⟨m0, m1, m2, m3, m4, m5⟩ := kK10.cells6
  have fr3 := kK10.frozen 3
  obtain ⟨W11, hW11⟩ : ∃ W11, W11 = (W10.setCell ⟨W2.heap.size, 3, none⟩ (.slice Aq q.length cq)) := ⟨_, rfl⟩
  have HG11 := hid (show W10.grownBy W11 (some W2.heap.size) by rw [hW11]; exact (grown_set (grown_refl W10 (some W2.heap.size)) 3 (.slice Aq q.length cq)))
  have kK11 : Blk W11 W2.heap.size 27 #[.int .i64 o, .int .i64 l, .int .i64 m, .slice Aq q.length cq, .int .i64 n0, .int .i64 n1] := by rw [hW11]; exact (kK10.set_ 3 (.slice Aq q.length cq))
  have kf11 := kf10.grown HG11.out (by simp; omega)
  have kZ11 := kZ10.grown HG11.out (by simp; omega)
  have c11 := c10.trans (below_of_grown HG11.out c10.size (fun g e => by cases e; omega))
  have hN11 := Nat.le_trans hN10 HG11.out.size
  have hown11 := hown10.kept HG11.out (by
    cases hv : (Value.slice Aq q.length cq).ownBlock with
    | none => exact .inl rfl
    | some g => exact .inr (fun e => by have := HLT.out g hv; injection e with e2; omega))
  have hat := own_ps_atK hown11
  clear kf10 kZ10 c10 HG11 kK10
  go_wp2_with fail
  rw [← hW11]
  clear hW11 m0 m1 m2 m3 m4 m5 fr3
  refine (c_FormatKnown_any ⟨o, l, m, q, n0, n1⟩ Aq cq W11.heap.size W11 hat (Nat.le_refl _) (kn_wf HPB.out hr0 hr1 hql) (HTAB.out.on c11)).mono ?_
  rintro e W12 ⟨rfl, hb⟩
  have kK12 := kK11.on hb
  have kf12 := kf11.on hb
  have kZ12 := kZ11.on hb
  have c12 := c11.trans (hb.mono c11.size)
  have hN12 := Nat.le_trans hN11 hb.size
  have hown12 := own_on hown11 hb
  clear hown11 hown10 hat
  clear hb kK11 kf11 kZ11 c11 hN11
  obtain ⟨X, hX⟩ : ∃ X, X = knV ⟨o, l, m, q, n0, n1⟩ := ⟨_, rfl⟩
  have HKO := hid (kn_of HP.out HSO.out HN0.out HN1.out HPR.out)
  rw [← hX]
  have HX := hid hX
  have hownF := own_mono (B' := w.heap.size) hown12 (by omega)
  clear hX hown12
  by_cases he : X = T
  · have he1 : (X.toList == T.toList) = true := by rw [he]; simp
    have HR := hid (pkn_yes HT0.out HKO.out (HX.out.symm.trans he))
    clear he
    have HOW := hid (hownF.kept (gr6k (grown_refl W12 (some w.heap.size)) (.int .i64 o) (.int .i64 l) (.int .i64 m) (.slice Aq q.length cq) (.int .i64 n0) (.int .i64 n1)) (by
      cases hv : (Value.slice Aq q.length cq).ownBlock with
      | none => exact .inl rfl
      | some g => exact .inr (fun e => by have := HLT.out g hv; injection e with e2; omega)))
    clear hownF
    obtain ⟨m0, m1, m2, m3, m4, m5⟩ := kK12.cells6
    obtain ⟨zc0, zc1, zc2, zc3, zc4, zc5⟩ := kZ12.cells6
    have fz0 := kZ12.frozen 0
    have fz1 := kZ12.frozen 1
    have fz2 := kZ12.frozen 2
    have fz3 := kZ12.frozen 3
    have fz4 := kZ12.frozen 4
    have fz5 := kZ12.frozen 5
    obtain ⟨j0, j1, j2, j3, j4, j5⟩ := (blk6k kZ12 (.int .i64 o) (.int .i64 l) (.int .i64 m) (.slice Aq q.length cq) (.int .i64 n0) (.int .i64 n1)).cells6
    have HG := hid (gr6k (grown_refl W12 (some w.heap.size)) (.int .i64 o) (.int .i64 l) (.int .i64 m) (.slice Aq q.length cq) (.int .i64 n0) (.int .i64 n1))
    have HBB := hid (c12.trans (below_of_grown HG.out c12.size (fun g e => by cases e; exact Nat.le_refl _)))
    clear kZ12
    go_wp2
    (try simp only [Exit.inBlock, Exit.then])
    exact bodyPost_ret (v := .tuple #[.agg #[.int .i64 o, .int .i64 l, .int .i64 m, .slice Aq q.length cq, .int .i64 n0, .int .i64 n1], .bool true]) (by simp [results, Tryz.results10, go_sem, j0, j1, j2, j3, j4, j5]) rfl ⟨⟨o, l, m, q, n0, n1⟩, true, Aq, cq, ⟨HR.out, hql⟩, rfl, HOW.out, HBB.out⟩
  · have he1 : (X.toList == T.toList) = false := bytes_ne he
    have HR := hid (pkn_no HKO.out (fun h => he (HX.out.trans h)))
    clear he
    obtain ⟨m0, m1, m2, m3, m4, m5⟩ := kK12.cells6
    obtain ⟨zc0, zc1, zc2, zc3, zc4, zc5⟩ := kZ12.cells6
    have fz0 := kZ12.frozen 0
    have fz1 := kZ12.frozen 1
    have fz2 := kZ12.frozen 2
    have fz3 := kZ12.frozen 3
    have fz4 := kZ12.frozen 4
    have fz5 := kZ12.frozen 5
    obtain ⟨j0, j1, j2, j3, j4, j5⟩ := (blk6k kZ12 (.int .i64 0) (.int .i64 0) (.int .i64 0) (.slice none 0 0) (.int .i64 0) (.int .i64 0)).cells6
    have HG := hid (gr6k (grown_refl W12 (some w.heap.size)) (.int .i64 0) (.int .i64 0) (.int .i64 0) (.slice none 0 0) (.int .i64 0) (.int .i64 0))
    have HBB := hid (c12.trans (below_of_grown HG.out c12.size (fun g e => by cases e; exact Nat.le_refl _)))
    clear kZ12
    go_wp2
    (try simp only [Exit.inBlock, Exit.then])
    exact bodyPost_ret (v := .tuple #[.agg #[.int .i64 0, .int .i64 0, .int .i64 0, .slice none 0 0, .int .i64 0, .int .i64 0], .bool false]) (by simp [results, Tryz.results10, go_sem, j0, j1, j2, j3, j4, j5]) rfl ⟨kn0, false, none, 0, ⟨HR.out, by simp [kn0]⟩, rfl, own_ps_nil _ _ _, HBB.out⟩

end Go.Proofs.YtmfnfheahehpcaaGreatDoor
