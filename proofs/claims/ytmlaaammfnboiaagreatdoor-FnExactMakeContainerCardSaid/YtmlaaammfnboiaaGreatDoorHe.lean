/- MakeContainer in both programs, and its law's walk. The layout of the header is as the program's text lays it. -/
import Derived.Test.YtmlaaammfnboiaaGreatDoorHc
import Derived.Test.YtmlaaammfnboiaaGreatDoorHg
namespace Go.Proofs.YtmlaaammfnboiaaGreatDoor
open Go.ChangeShapes Go.WideShapes Go.ChangeAt Go.RowKit Go.Joins
set_option linter.unusedVariables false
set_option linter.unusedSimpArgs false

/-- the blocks of data, with numbers from n on -/
noncomputable def cutB (K : Kn) (sz : Nat) : Nat → Nat → ByteArray → List Bl
  | 0, _, _ => []
  | f + 1, n, D => if D.size = 0 then [] else blkOf K (n : Int) (D.extract 0 (min sz D.size)) :: cutB K sz f (n + 1) (D.extract (min sz D.size) D.size)
theorem emptyLH (X : ByteArray) : X.toList.isEmpty = X.data.toList.isEmpty := by rw [ByteArray.toList_eq]
theorem cutB_nil (K : Kn) (sz f n : Nat) (D : ByteArray) (h : D.size = 0) : cutB K sz f n D = [] := by
  cases f with
  | zero => rfl
  | succ f => rw [cutB, if_pos h]
theorem cutB_step (K : Kn) (sz f n m : Nat) (D : ByteArray) (h : 0 < D.size) (hm : m = min sz D.size) : cutB K sz (f + 1) n D = blkOf K (n : Int) (D.extract 0 m) :: cutB K sz f (n + 1) (D.extract m D.size) := by
  rw [cutB, if_neg (by omega), hm]
theorem txt_consH (b : Bl) (l : List Bl) : txt (b :: l) = b.text ++ txt l := by simp [txt]
theorem packd_pos {K : Kn} (hK : K.Ok) (D : ByteArray) : 1 ≤ (packd K D).size := by
  have hw : 1 ≤ K.width.toNat := by
    obtain ⟨_, ⟨h1, h2⟩, h3, h4⟩ := setOk_iff.1 hK.set
    unfold Kn.width
    omega
  unfold packd Kn.greedy Kn.packed packS
  rw [str_size, M.pack_length, bitsL_len, str_size]
  have hl : 1 ≤ (K.bits (K.c :: (Kn.words1 D.data.toList.length K.cleared D.data.toList ++ [K.c + 1]))).length := by
    rw [Kn.bits, List.length_append]
    have : (M.codeBits (K.o == 1) K.c.toNat K.width.toNat).length = K.width.toNat := by simp [M.codeBits, M.asc, M.dir_length, M.bitsOf_length]
    omega
  omega
theorem blkOf_ok {K : Kn} (hK : K.Ok) (n : Int) (hn : 0 ≤ n ∧ n ≤ 39) (D : ByteArray) (hD : 1 ≤ D.size ∧ D.size ≤ 64) : (blkOf K n D).ok := by
  unfold blkOf
  split
  · rename_i h
    exact ⟨hn, by show (1 : Int) ≤ (D.size : Int) ∧ (D.size : Int) ≤ 64; omega, (fun h9 => by cases h9), fun _ => ⟨packd_pos hK D, by show ((packd K D).size : Int) < (D.size : Int); have := h.2; omega⟩⟩
  · exact ⟨hn, by show (1 : Int) ≤ (D.size : Int) ∧ (D.size : Int) ≤ 64; omega, (fun _ => rfl), (fun h9 => by cases h9)⟩
/-- so many blocks are not too many -/
theorem cut_few {k sz r : Nat} (h : k * sz + r ≤ 40 * sz) (hr : 0 < r) : k ≤ 39 := by
  rcases Nat.lt_or_ge k 40 with h1 | h1
  · omega
  · have := Nat.mul_le_mul_right sz h1; omega
theorem cut_next {k sz r m : Nat} (h : k * sz + r ≤ 40 * sz) (hm : m = min sz r) : (k + 1) * sz + (r - m) ≤ 40 * sz ∨ r - m = 0 := by
  rcases Nat.lt_or_ge r sz with h1 | h1
  · right; omega
  · left; rw [Nat.succ_mul]; omega

theorem cutB_good {K : Kn} (hK : K.Ok) {s : Nat} (hs : 1 ≤ s ∧ s ≤ 64) : ∀ (f k : Nat) (R : ByteArray), (k * s + R.size ≤ 40 * s ∨ R.size = 0) → k ≤ 40 → (∀ b ∈ cutB K s f k R, b.ok) ∧ (cutB K s f k R).length + k ≤ 40
  | 0, k, R, _, hk => ⟨fun b hb => by simp [cutB] at hb, by simp [cutB]; omega⟩
  | f + 1, k, R, h, hk => by
    by_cases h0 : R.size = 0
    · rw [cutB_nil K s _ k R h0]
      exact ⟨fun b hb => by simp at hb, by simp; omega⟩
    · have h1 := h.resolve_right h0
      have hk39 := cut_few h1 (by omega)
      have hnx := cut_next (m := min s R.size) h1 rfl
      obtain ⟨i1, i2⟩ := cutB_good hK hs f (k + 1) (R.extract (min s R.size) R.size) (by rw [ByteArray.size_extract, Nat.min_self]; exact hnx) (by omega)
      rw [cutB_step K s f k _ R (by omega) rfl]
      refine ⟨fun b hb => ?_, by rw [List.length_cons]; omega⟩
      rcases List.mem_cons.1 hb with rfl | hb
      · exact blkOf_ok hK _ (by omega) _ (by rw [ByteArray.size_extract]; omega)
      · exact i1 b hb

section
variable (o l m : Int) (dict : ByteArray) (hk : dataFits o l m dict = true) (K : Kn) (hK : K = kOf o l m dict)

include hk hK

set_option maxHeartbeats 4000000 in
set_option maxRecDepth 100000 in
theorem c_l5Make (D : ByteArray) (s : Nat) (w : World) (hD : D.size ≤ 2000) (hs : 1 ≤ s ∧ s ≤ 64) (hDs : D.size ≤ 40 * s) : Calls Tryz.prog 42 #[.agg #[.int .i64 o, .int .i64 l, .int .i64 m], .string dict, .int .i64 0, .string D, .int .i64 (s : Nat)] w fun e w' => e = .returned (.string (str (txt (cutB K s D.size 0 D)))) ∧ Below w.heap.size w w' := by
  have hKo : K.Ok := by rw [hK]; exact (kOf_ok hk).2.1
  have HB := hid (fun (n : Int) (X : ByteArray) (v : World) (hX : X.size ≤ maxLen) => c_l5Block o l m dict (kOf_ok hk).1 K hK n X v hX)
  have HO := hid (fun (n : Int) (hn : 0 ≤ n ∧ n ≤ 39) (X : ByteArray) (hX : 1 ≤ X.size ∧ X.size ≤ 64) => blkOf_ok hKo n hn X hX)
  obtain ⟨G, hG⟩ : ∃ G, G = txt (cutB K s D.size 0 D) := ⟨_, rfl⟩
  rw [← hG]
  have HG := hid hG
  have HS := hid (Blk.new w 28 #[.int .i64 o, .int .i64 l, .int .i64 m])
  have hB0 : Below w.heap.size w (w.alloc (.cells #[.int .i64 o, .int .i64 l, .int .i64 m] 28)) := bel_alloc (Below.refl _ w) _
  obtain ⟨W0, hW0⟩ : ∃ W0, W0 = w.alloc (.cells #[.int .i64 o, .int .i64 l, .int .i64 m] 28) := ⟨_, rfl⟩
  rw [← hW0] at HS hB0
  have hz0 := hB0.size
  clear hk hK hKo hG
  go_enter Tryz.func42, Tryz.ntmps42
  go_wp2_with fail
  rw [← hW0]
  clear hW0
  go_loopw [2, 3, 11] (fun a d t wr => ∃ (f k : Nat) (R T : ByteArray), a = .int .i64 k ∧ d = .string R ∧ t = .string T ∧ R.size ≤ f ∧ R.size ≤ 2000 ∧ Hid (T.data.toList ++ txt (cutB K s f k R) = G) ∧ (k * s + R.size ≤ 40 * s ∨ R.size = 0) ∧ k ≤ 40 ∧ T.size ≤ 74 * k ∧ Below W0.heap.size W0 wr) (fun _ d _ _ => match d with | .string R => R.size | _ => 0)
  case atStart => exact ⟨D.size, 0, D, ByteArray.empty, rfl, rfl, rfl, Nat.le_refl _, hD, hid (by rw [HG.out]; rfl), Or.inl (by omega), by omega, by simp, Below.refl _ _⟩
  case round =>
    obtain ⟨f, k, R, T, rfl, rfl, rfl, hf, hR2, HT, hks, hk40, hTz, hbl⟩ := hrel
    rename_i wr _
    by_cases hR0 : R.size = 0
    · have he : R.toList.isEmpty = true := by rw [emptyLH]; simp; rw [← ByteArray.size_data] at hR0; exact Array.eq_empty_of_size_eq_zero hR0
      have HE := hid (show T = str G by
        have := HT.out
        rw [cutB_nil K s f k R hR0, show txt [] = [] from rfl, List.append_nil] at this
        rw [← this, str_self])
      clear hR0
      go_wp2_with fail
      go_ret
      exact ⟨by rw [HE.out]; rfl, hB0.trans (hbl.mono hz0)⟩
    · have he : R.toList.isEmpty = false := by
        rw [emptyLH, Bool.eq_false_iff]
        intro h
        apply hR0
        simp at h
        rw [← ByteArray.size_data, h]; rfl
      obtain ⟨q, hq, hq1, hq2, hq3⟩ : ∃ q : Nat, q = min s R.size ∧ 1 ≤ q ∧ q ≤ 64 ∧ q ≤ R.size := ⟨_, rfl, by omega, by omega, by omega⟩
      have hks1 : k * s + R.size ≤ 40 * s := hks.resolve_right hR0
      have hk39 := cut_few hks1 (by omega)
      have hnx := cut_next hks1 hq
      have hmin : min (s : Int) (R.size : Int) = (q : Int) := by omega
      have hqR : (q : Int) ≤ (R.size : Int) := by omega
      have hz1 : (R.extract 0 q).size = q := by rw [ByteArray.size_extract]; omega
      have hz2 : (R.extract q R.size).size = R.size - q := by rw [ByteArray.size_extract]; omega
      obtain ⟨f, rfl⟩ : ∃ f', f = f' + 1 := ⟨f - 1, by omega⟩
      have HST := hid (cutB_step K s f k q R (by omega) hq)
      have HBk := hid (fun v => HB.out (k : Int) (R.extract 0 q) v (by rw [hz1]; unfold maxLen; omega))
      have hbok := HO.out (k : Int) (by omega) (R.extract 0 q) (by omega)
      obtain ⟨b, hb⟩ : ∃ b, b = blkOf K (k : Int) (R.extract 0 q) := ⟨_, rfl⟩
      rw [← hb] at HBk HST hbok
      have HTX := hid (fun v => c_l5Text b v hbok)
      obtain ⟨E, hE⟩ : ∃ E, E = str b.text := ⟨_, rfl⟩
      have HEt := hid hE
      have hEz : E.size ≤ 74 := by rw [hE, str_size, b.text_len]; have := (b.len hbok).2; omega
      rw [← hE] at HTX
      have HN := hid (show (T ++ E).data.toList ++ txt (cutB K s f (k + 1) (R.extract q R.size)) = G by
        rw [← HT.out, HST.out, txt_consH, HEt.out, ByteArray.data_append, Array.toList_append, str_list, List.append_assoc])
      have HQq := hid hq
      clear hb hE hbok hks hR0 HT hq
      obtain ⟨b0, b1, b2, b3⟩ := b
      simp only at HBk HTX
      have kS := HS.out.on hbl
      have hS : wr.cell? ⟨w.heap.size, 0, none⟩ = some (.int .i64 o) ∧ wr.cell? ⟨w.heap.size, 1, none⟩ = some (.int .i64 l) ∧ wr.cell? ⟨w.heap.size, 2, none⟩ = some (.int .i64 m) ∧ Below wr.heap.size wr wr := ⟨kS.cells3.1, kS.cells3.2.1, kS.cells3.2.2, Below.refl _ _⟩
      have hTEs : ¬ (9223372036854775807 < T.size + E.size) := by omega
      have hTE : (T ++ E).size ≤ 74 * (k + 1) := by rw [ByteArray.size_append]; omega
      clear kS
      go_wp2_with fail
      refine qB (S := (fun v => v.cell? ⟨w.heap.size, 0, none⟩ = some (.int .i64 o) ∧ v.cell? ⟨w.heap.size, 1, none⟩ = some (.int .i64 l) ∧ v.cell? ⟨w.heap.size, 2, none⟩ = some (.int .i64 m) ∧ Below wr.heap.size wr v)) (by kernel_rfl) (by kernel_rfl) (s3_drew hS) ?_
      refine qK ?_
      refine qK ?_
      refine qK ?_
      refine qK ?_
      refine qK ?_
      refine qK ?_
      refine qK ?_
      refine qC (fun wq hSq => HBk.out wq) (fun wq wr hbr hSq => s3_bel hbr hSq) ?_
      refine qC (fun wq hSq => HTX.out wq) (fun wq wr hbr hSq => s3_bel hbr hSq) ?_
      refine qK ?_
      refine qK ?_
      refine qN ?_
      intro wq hSq
      (try dsimp only at hSq)
      have hbq := hbl.trans (hSq.2.2.2.mono hbl.size)
      clear hSq hS
      go_wp2_with fail
      exact ⟨⟨f, k + 1, R.extract q R.size, T ++ E, by go_num, rfl, rfl, by omega, by omega, HN, by rw [hz2]; exact hnx, by omega, hTE, hbq⟩, by simp only; omega⟩
end

theorem own_bls0H (w : World) (B : Nat) (e : TypeId) : w.ownsRow B e 4 (.slice none 0 0) 0 (bvs []) := World.ownsRow_nil w B e 4
theorem own_calm {pd : Nat → Prop} {w w' : World} {B : Nat} {e : TypeId} {size : Nat} {v : Value} {n : Nat} {xs : List Value} (h : w.ownsRow B e size v n xs) (hc : WCalm pd w w') (h1 : ¬ Fam e) (h2 : e ≠ 100) (h3 : e ≠ 102) (h4 : e ≠ 5) : w'.ownsRow B e size v n xs := by
  rcases h.2 with h0 | ⟨g, cap, cur, e1, hb, hh, hr⟩
  · exact ⟨h.1, Or.inl h0⟩
  · exact ⟨h.1, Or.inr ⟨g, cap, cur, e1, hb, hc g e cur hh h1 h2 h3 (fun e2 => absurd e2 h4), hr⟩⟩

set_option maxHeartbeats 4000000 in
set_option maxRecDepth 100000 in
theorem c_blocksOf_no (p : Value) (D : ByteArray) (s : Int) (w : World) (hD : D.size ≤ 1000000000) (hLy : Lay w) (hno : ¬ ((1 ≤ s ∧ s ≤ 64) ∧ D.size ≤ 2000 ∧ (D.size : Int) ≤ 40 * s)) : Calls Tryz.prog 43 #[p, .string D, .int .i64 s] w fun e w' => e = .returned (.tuple #[.slice none 0 0, .bool false]) ∧ Below w.heap.size w w' := by
  have HA := hid (fun v => c_allows 2 1 64 s v)
  have hly := lay6 _ hLy
  clear hLy
  cases h1 : inB s 1 64 with
  | false =>
    rw [h1] at HA
    clear hno
    go_enter Tryz.func43, Tryz.ntmps43
    go_wp2_with fail
    refine (HA.out _).mono ?_
    rintro e w1 ⟨rfl, hb1⟩
    go_wp2_with fail
    go_ret2
    exact ⟨rfl, hb1⟩
  | true =>
    have hs := inB_iff.1 h1
    rw [h1] at HA
    by_cases h2 : 2000 < D.size
    · have hd : decide ((2000 : Int) < (D.size : Int)) = true := decide_eq_true (by omega)
      clear hno h2 h1
      go_enter Tryz.func43, Tryz.ntmps43
      go_wp2_with fail
      refine (HA.out _).mono ?_
      rintro e w1 ⟨rfl, hb1⟩
      go_wp2_with fail
      go_ret2
      exact ⟨rfl, hb1⟩
    · have hd : decide ((2000 : Int) < (D.size : Int)) = false := decide_eq_false (by omega)
      have h3 : 40 * s < (D.size : Int) := by
        rcases Int.lt_or_le (40 * s) (D.size : Int) with h | h
        · exact h
        · exact absurd ⟨hs, by omega, h⟩ hno
      have hw : IntKind.i64.wrap (40 * s) = 40 * s := IntWalk.i64_in _ (by omega)
      have hd2 : decide (40 * s < (D.size : Int)) = true := decide_eq_true h3
      clear hno h2 h1 h3
      go_enter Tryz.func43, Tryz.ntmps43
      go_wp2_with fail
      refine (HA.out _).mono ?_
      rintro e w1 ⟨rfl, hb1⟩
      go_wp2_with fail
      go_ret2
      exact ⟨rfl, hb1⟩

section
variable (L pb : Nat) (xs : List Value) (pd : Nat → Prop) (fb : Nat) (sv : Value) (K : Kn) (w : World)

set_option maxHeartbeats 8000000 in
set_option maxRecDepth 100000 in
theorem c_blocksOf_yes (hKo : K.Ok) (hKc : K.cleared = K) (hL : L ≤ w.heap.size) (D : ByteArray) (s : Nat) (hD : D.size ≤ 2000) (hs : 1 ≤ s ∧ s ≤ 64) (hDs : D.size ≤ 40 * s) (hLy : Lay w) (h : WS L pb 102 xs pd fb sv (Wr.fresh K) w) : Calls Tryz.prog 43 #[.pointer (some ⟨pb, 0, none⟩), .string D, .int .i64 (s : Nat)] w fun e w' => ∃ A cap, e = .returned (.tuple #[.slice A (cutB K s D.size 0 D).length cap, .bool true]) ∧ w'.ownsRow w.heap.size 25 4 (.slice A (cutB K s D.size 0 D).length cap) (cutB K s D.size 0 D).length (bvs (cutB K s D.size 0 D)) ∧ Below L w w' := by
  have HA := hid (fun v => c_allows 2 1 64 (s : Nat) v)
  rw [show inB ((s : Nat) : Int) 1 64 = true from inB_iff.2 (by omega)] at HA
  have HB := hid (fun (sv : Value) (v : World) (hLv : L ≤ v.heap.size) (n : Int) (X : ByteArray) (hX : X.size ≤ maxLen) (h : WS L pb 102 xs pd fb sv (Wr.fresh K) v) => c_block L pb xs pd fb sv K v hKo hKc hLv n X hX h)
  have hly := lay6 _ hLy
  obtain ⟨G, hG⟩ : ∃ G, G = cutB K s D.size 0 D := ⟨_, rfl⟩
  rw [← hG]
  have HG := hid hG
  have HW := hid h
  have hd : decide ((2000 : Int) < (D.size : Int)) = false := decide_eq_false (by omega)
  have hw : IntKind.i64.wrap (40 * (s : Int)) = 40 * (s : Int) := IntWalk.i64_in _ (by omega)
  have hd2 : decide (40 * (s : Int) < (D.size : Int)) = false := decide_eq_false (by omega)
  clear hKo hKc hLy h hG
  go_enter Tryz.func43, Tryz.ntmps43
  go_wp2_with fail
  refine (HA.out _).mono ?_
  rintro e w1 ⟨rfl, hb1⟩
  have hz1 := hb1.size
  have HW1 := hid (HW.out.on hb1)
  clear hly HW
  go_wp2_with fail
  go_loopw [1, 8] (fun d v wr => ∃ (f k : Nat) (R : ByteArray) (l : List Bl) (sv : Value), d = .string R ∧ R.size ≤ f ∧ R.size ≤ 2000 ∧ Hid (l ++ cutB K s f k R = G) ∧ l.length = k ∧ (k * s + R.size ≤ 40 * s ∨ R.size = 0) ∧ k ≤ 40 ∧ wr.ownsRow w.heap.size 25 4 v k (bvs l) ∧ Hid (WS L pb 102 xs pd fb sv (Wr.fresh K) wr) ∧ w.heap.size ≤ wr.heap.size ∧ Below L w wr) (fun d _ _ => match d with | .string R => R.size | _ => 0)
  case atStart => exact ⟨D.size, 0, D, [], _, rfl, Nat.le_refl _, hD, hid (by rw [HG.out]; rfl), rfl, Or.inl (by omega), by omega, own_bls0H _ _ _, HW1, hz1, hb1.mono hL⟩
  case round =>
    obtain ⟨f, k, R, l, sv1, rfl, hf, hR2, HT, hlk, hks, hk40, hown, HWr, hzr, hbl⟩ := hrel
    rename_i wr _
    have HLK := hid hlk
    clear hlk
    obtain ⟨A1, q1, rfl, hat, -⟩ := own_bls hown
    clear hat
    by_cases hR0 : R.size = 0
    · have he : R.toList.isEmpty = true := by rw [emptyLH]; simp; rw [← ByteArray.size_data] at hR0; exact Array.eq_empty_of_size_eq_zero hR0
      have HE := hid (show l = G by
        have := HT.out
        rw [cutB_nil K s f k R hR0, List.append_nil] at this
        exact this)
      have hkl : k = l.length := HLK.out.symm
      subst hkl
      rw [HE.out] at hown ⊢
      clear hR0
      go_wp2_with fail
      go_ret2
      exact ⟨_, _, rfl, hown, hbl⟩
    · have he : R.toList.isEmpty = false := by
        rw [emptyLH, Bool.eq_false_iff]
        intro h
        apply hR0
        simp at h
        rw [← ByteArray.size_data, h]; rfl
      obtain ⟨q, hq, hq0, hq2, hq3⟩ : ∃ q : Nat, q = min s R.size ∧ 1 ≤ q ∧ q ≤ 64 ∧ q ≤ R.size := ⟨_, rfl, by omega, by omega, by omega⟩
      have hks1 : k * s + R.size ≤ 40 * s := hks.resolve_right hR0
      have hk39 := cut_few hks1 (by omega)
      have hnx := cut_next hks1 hq
      have hmin : min (s : Int) (R.size : Int) = (q : Int) := by omega
      have hqR : (q : Int) ≤ (R.size : Int) := by omega
      have hz1 : (R.extract 0 q).size = q := by rw [ByteArray.size_extract]; omega
      have hz2 : (R.extract q R.size).size = R.size - q := by rw [ByteArray.size_extract]; omega
      obtain ⟨f, rfl⟩ : ∃ f', f = f' + 1 := ⟨f - 1, by omega⟩
      have HST := hid (cutB_step K s f k q R (by omega) hq)
      have hLr : L ≤ wr.heap.size := Nat.le_trans hL hzr
      have HBk := hid (HB.out sv1 wr hLr (k : Int) (R.extract 0 q) (by rw [hz1]; unfold maxLen; omega) HWr.out)
      obtain ⟨b, hb⟩ : ∃ b, b = blkOf K (k : Int) (R.extract 0 q) := ⟨_, rfl⟩
      rw [← hb] at HBk HST
      have HN := hid (show (l ++ [b]) ++ cutB K s f (k + 1) (R.extract q R.size) = G by
        rw [← HT.out, HST.out, List.append_assoc]; rfl)
      have HQq := hid hq
      clear hb hks hR0 HT hq
      rw [HLK.out] at hown ⊢
      have HO := hid hown
      clear hown
      obtain ⟨b0, b1, b2, b3⟩ := b
      simp only at HBk
      go_wp2_with fail
      refine (HBk.out).mono ?_
      rintro e w2 ⟨rfl, hb2, hc2, sv2, hws2⟩
      have hO2 := own_calm HO.out hc2 (by decide) (by decide) (by decide) (by decide)
      have HW2 := hid hws2
      have hbl2 := hbl.trans hb2
      have hz2w : w.heap.size ≤ w2.heap.size := Nat.le_trans hzr hb2.size
      clear hb2 hc2 hws2 HWr
      go_wp2_with (at_builtin; refine app_bl rfl _ _ 60 rfl w.heap.size 25 Tryz.underlying60 Tryz.info_block _ k l rfl hO2 ⟨b0, b1, b2, b3⟩ _ _ _ _ rfl 1 rfl (by omega) hz2w ?_; intro v4 w4 hown4 hb4 hg4)
      have hWS4 := HW2.out.otherT hg4 25 (fun g e => own_elem hO2 g e |>.imp fun cs h => h) (by decide) (by decide) (by decide)
      have HW4 := hid hWS4
      have hbl4 := hbl2.trans (hb4.mono hL)
      trace_state
      exact ⟨⟨f, k + 1, R.extract q R.size, l ++ [⟨b0, b1, b2, b3⟩], sv2, rfl, by omega, by omega, HN, by simp [HLK.out], by rw [hz2]; exact hnx, by omega, hown4, HW4, Nat.le_trans hz2w hb4.size, hbl4⟩, by simp only; omega⟩
end

/-- MakeContainer's answer -/
def mkOk (D : ByteArray) (s : Int) : Prop := (1 ≤ s ∧ s ≤ 64) ∧ D.size ≤ 2000 ∧ (D.size : Int) ≤ 40 * s
noncomputable instance (D : ByteArray) (s : Int) : Decidable (mkOk D s) := Classical.propDecidable _
noncomputable def mkRes (o l m : Int) (dict D : ByteArray) (s : Int) : Option ByteArray := if dataFits o l m dict = true ∧ mkOk D s then some (str (txt (cutB (kOf o l m dict) s.toNat D.size 0 D))) else none

set_option maxHeartbeats 4000000 in
set_option maxRecDepth 100000 in
theorem c_sMakeContainer (o l m : Int) (dict D : ByteArray) (s : Int) (w : World) (hs : dict.size ≤ maxLen) (hD : D.size ≤ 1048576) : Calls Tryz.prog 19 #[.agg #[.int .i64 o, .int .i64 l, .int .i64 m], .string dict, .string D, .int .i64 s] w fun e w' => e = .returned (optV (mkRes o l m dict D s)) ∧ Below w.heap.size w w' := by
  have HF := hid (fun v => c_l5Ready o l m dict v hs)
  have HI := hid (fun v => c_l1In s 1 64 v)
  have hB0 : Below w.heap.size w (w.alloc (.cells #[.int .i64 o, .int .i64 l, .int .i64 m] 28)) := bel_alloc (Below.refl _ w) _
  have kS := Blk.new w 28 #[.int .i64 o, .int .i64 l, .int .i64 m]
  obtain ⟨y0, y1, y2⟩ := kS.cells3
  cases h1 : dataFits o l m dict with
  | false =>
    have hr : mkRes o l m dict D s = none := by unfold mkRes; rw [if_neg (fun h9 => by rw [h1] at h9; cases h9.1)]
    rw [hr]
    rw [h1] at HF
    simp only [optV]
    clear hr h1 kS
    go_enter Tryz.func19, Tryz.ntmps19
    go_wp2_with fail
    refine (HF.out _).mono ?_
    rintro e w1 ⟨rfl, hb1⟩
    have hB1 := hB0.trans (hb1.mono hB0.size)
    go_wp2_with fail
    go_ret2
    exact ⟨rfl, hB1⟩
  | true =>
  rw [h1] at HF
  cases h2 : inB s 1 64 with
  | false =>
    have hr : mkRes o l m dict D s = none := by unfold mkRes; rw [if_neg (fun h9 => by rw [inB_iff.2 h9.2.1] at h2; cases h2)]
    rw [hr]
    rw [h2] at HI
    simp only [optV]
    clear hr h1 h2 kS
    go_enter Tryz.func19, Tryz.ntmps19
    go_wp2_with fail
    refine (HF.out _).mono ?_
    rintro e w1 ⟨rfl, hb1⟩
    have hB1 := hB0.trans (hb1.mono hB0.size)
    go_wp2_with fail
    refine (HI.out _).mono ?_
    rintro e w2 ⟨rfl, rfl⟩
    go_wp2_with fail
    go_ret2
    exact ⟨rfl, hB1⟩
  | true =>
  have hs4 := inB_iff.1 h2
  rw [h2] at HI
  obtain ⟨sn, rfl⟩ := Int.eq_ofNat_of_zero_le (show 0 ≤ s by omega)
  have hw : IntKind.i64.wrap ((sn : Int) * 40) = (sn : Int) * 40 := IntWalk.i64_in _ (by omega)
  by_cases h3 : (sn : Int) * 40 < (D.size : Int)
  · have hr : mkRes o l m dict D sn = none := by unfold mkRes; rw [if_neg (fun h9 => by have := h9.2.2.2; omega)]
    rw [hr]
    have hd : decide ((sn : Int) * 40 < (D.size : Int)) = true := decide_eq_true h3
    simp only [optV]
    clear hr h1 h2 h3 kS
    go_enter Tryz.func19, Tryz.ntmps19
    go_wp2_with fail
    refine (HF.out _).mono ?_
    rintro e w1 ⟨rfl, hb1⟩
    have hB1 := hB0.trans (hb1.mono hB0.size)
    go_wp2_with fail
    refine (HI.out _).mono ?_
    rintro e w2 ⟨rfl, rfl⟩
    go_wp2_with fail
    go_ret2
    exact ⟨rfl, hB1⟩
  · have hd : decide ((sn : Int) * 40 < (D.size : Int)) = false := decide_eq_false h3
    by_cases h4 : (2000 : Int) < (D.size : Int)
    · have hr : mkRes o l m dict D sn = none := by unfold mkRes; rw [if_neg (fun h9 => by have := h9.2.2.1; omega)]
      rw [hr]
      have hd4 : decide ((2000 : Int) < (D.size : Int)) = true := decide_eq_true h4
      simp only [optV]
      clear hr h1 h2 h3 h4 kS
      go_enter Tryz.func19, Tryz.ntmps19
      go_wp2_with fail
      refine (HF.out _).mono ?_
      rintro e w1 ⟨rfl, hb1⟩
      have hB1 := hB0.trans (hb1.mono hB0.size)
      go_wp2_with fail
      refine (HI.out _).mono ?_
      rintro e w2 ⟨rfl, rfl⟩
      go_wp2_with fail
      go_ret2
      exact ⟨rfl, hB1⟩
    · have hd4 : decide ((2000 : Int) < (D.size : Int)) = false := decide_eq_false h4
      have HM := hid (fun v => c_l5Make o l m dict h1 (kOf o l m dict) rfl D sn v (by omega) (by omega) (by omega))
      have hr : mkRes o l m dict D sn = some (str (txt (cutB (kOf o l m dict) sn D.size 0 D))) := by unfold mkRes; rw [if_pos ⟨h1, hs4, by omega, by omega⟩, Int.toNat_natCast]
      rw [hr]
      obtain ⟨X, hX⟩ : ∃ X, X = str (txt (cutB (kOf o l m dict) sn D.size 0 D)) := ⟨_, rfl⟩
      rw [← hX] at HM ⊢
      simp only [optV]
      have KS := hid kS
      clear hr hX h1 h2 h3 h4 kS
      go_enter Tryz.func19, Tryz.ntmps19
      go_wp2_with fail
      refine (HF.out _).mono ?_
      rintro e w1 ⟨rfl, hb1⟩
      have hB1 := hB0.trans (hb1.mono hB0.size)
      have kS1 := KS.out.on hb1
      clear y0 y1 y2
      obtain ⟨y0, y1, y2⟩ := kS1.cells3
      go_wp2_with fail
      refine (HI.out _).mono ?_
      rintro e w2 ⟨rfl, rfl⟩
      go_wp2_with fail
      refine (HM.out _).mono ?_
      rintro e w2 ⟨rfl, hb2⟩
      have hB2 := hB1.trans (hb2.mono hB1.size)
      go_wp2_with fail
      go_ret2
      exact ⟨rfl, hB2⟩

set_option maxHeartbeats 4000000 in
set_option maxRecDepth 100000 in
theorem c_MakeContainer (o l m : Int) (dict D : ByteArray) (s : Int) (w : World) (hs : dict.size ≤ maxLen) (hD : D.size ≤ 1048576) (hLy : Lay w) : Calls Tryz.prog 20 #[.agg #[.int .i64 o, .int .i64 l, .int .i64 m], .string dict, .string D, .int .i64 s] w fun e w' => e = .returned (optV (mkRes o l m dict D s)) ∧ Below w.heap.size w w' := by
  have hB0 : Below w.heap.size w (w.alloc (.cells #[.int .i64 o, .int .i64 l, .int .i64 m] 28)) := bel_alloc (Below.refl _ w) _
  have kS := Blk.new w 28 #[.int .i64 o, .int .i64 l, .int .i64 m]
  obtain ⟨y0, y1, y2⟩ := kS.cells3
  have HLy := hid (fun (v : World) (hb : Below w.heap.size w v) => hLy.on hb)
  clear hLy kS
  cases h1 : dataFits o l m dict with
  | false =>
    have HP := hid (fun v => c_prime_no o l m v dict hs (fun h9 => by rw [(fits_begun o l m dict).1 h9] at h1; cases h1))
    have hr : mkRes o l m dict D s = none := by unfold mkRes; rw [if_neg (fun h9 => by rw [h1] at h9; cases h9.1)]
    rw [hr]
    simp only [optV]
    clear hr h1
    go_enter Tryz.func20, Tryz.ntmps20
    go_wp2_with fail
    refine (HP.out _).mono ?_
    rintro e w1 ⟨rfl, hb1⟩
    have hB1 := hB0.trans (hb1.mono hB0.size)
    go_wp2_with fail
    go_ret2
    exact ⟨rfl, hB1⟩
  | true =>
  have HP := hid (fun v => c_prime_yes o l m v dict (kOf_ok h1).1 (kOf o l m dict) rfl)
  by_cases hok : mkOk D s
  · obtain ⟨hs4, h20, h40⟩ := id hok
    obtain ⟨sn, rfl⟩ := Int.eq_ofNat_of_zero_le (show 0 ≤ s by omega)
    have hK := kOf_ok h1
    have HB := hid (fun (L pb : Nat) (xs : List Value) (pd : Nat → Prop) (fb : Nat) (sv : Value) (v : World) (hL : L ≤ v.heap.size) (hl : Lay v) (h : WS L pb 102 xs pd fb sv (Wr.fresh (kOf o l m dict)) v) => c_blocksOf_yes L pb xs pd fb sv (kOf o l m dict) v hK.2.1 hK.2.2.1 hL D sn h20 (by omega) (by omega) hl h)
    have hr : mkRes o l m dict D sn = some (str (txt (cutB (kOf o l m dict) sn D.size 0 D))) := by unfold mkRes; rw [if_pos ⟨h1, hok⟩, Int.toNat_natCast]
    rw [hr]
    obtain ⟨hg1, hg2⟩ := cutB_good hK.2.1 (show 1 ≤ sn ∧ sn ≤ 64 by omega) D.size 0 D (Or.inl (by omega)) (by omega)
    obtain ⟨bs, hbs⟩ : ∃ bs, bs = cutB (kOf o l m dict) sn D.size 0 D := ⟨_, rfl⟩
    rw [← hbs] at HB hg1 hg2 ⊢
    have HC := hid (fun (A : Option Addr) (cap : Nat) (v : World) (h : BlsAt v v.heap.size A cap bs) (hl : Lay v) => c_containerBytes A cap bs v.heap.size v h (Nat.le_refl _) (by omega) hg1 hl)
    obtain ⟨K, hKK⟩ : ∃ K, K = kOf o l m dict := ⟨_, rfl⟩
    rw [← hKK] at HB HP
    obtain ⟨X, hX⟩ : ∃ X, X = str (txt bs) := ⟨_, rfl⟩
    rw [← hX] at HC ⊢
    obtain ⟨N, hN⟩ : ∃ N, N = bs.length := ⟨_, rfl⟩
    rw [← hN] at HB HC
    simp only [optV]
    clear hr hK hKK hbs hX h1 hok hs4 h20 h40 hg1 hg2
    go_enter Tryz.func20, Tryz.ntmps20
    go_wp2_with fail
    refine (HP.out _).mono ?_
    rintro e w1 ⟨pb, fb, db, te, rfl, hws, hown, hb1⟩
    have hB1 := hB0.trans (hb1.mono hB0.size)
    have HW := hid hws
    have hz1 := hb1.size
    clear hws hown
    go_wp2_with fail
    refine (HB.out _ pb _ _ fb _ _ hz1 (HLy.out _ hB1) HW.out).mono ?_
    rintro e w2 ⟨A2, q2, rfl, hown2, hb2⟩
    have hB2 := hB1.trans (hb2.mono hB0.size)
    obtain ⟨A3, q3, e3, hat3, -⟩ := own_bls hown2
    obtain ⟨rfl, rfl⟩ : A2 = A3 ∧ q2 = q3 := by simp at e3; exact ⟨e3.1, e3.2.2⟩
    have HT := hid hat3
    clear hown2 e3 hat3 hN
    go_wp2_with fail
    refine (HC.out _ _ _ HT.out (HLy.out _ hB2)).mono ?_
    rintro e w3 ⟨rfl, hb3⟩
    have hB3 := hB2.trans (hb3.mono hB2.size)
    go_wp2_with fail
    go_ret2
    exact ⟨rfl, hB3⟩
  · have HB := hid (fun (p : Value) (v : World) (hl : Lay v) => c_blocksOf_no p D s v (by omega) hl hok)
    have hr : mkRes o l m dict D s = none := by unfold mkRes; rw [if_neg (fun h9 => hok h9.2)]
    rw [hr]
    simp only [optV]
    clear hr h1 hok
    go_enter Tryz.func20, Tryz.ntmps20
    go_wp2_with fail
    refine (HP.out _).mono ?_
    rintro e w1 ⟨pb, fb, db, te, rfl, hws, hown, hb1⟩
    have hB1 := hB0.trans (hb1.mono hB0.size)
    clear hws hown
    go_wp2_with fail
    refine (HB.out _ _ (HLy.out _ hB1)).mono ?_
    rintro e w2 ⟨rfl, hb2⟩
    have hB2 := hB1.trans (hb2.mono hB1.size)
    go_wp2_with fail
    go_ret2
    exact ⟨rfl, hB2⟩

set_option maxHeartbeats 4000000 in
set_option maxRecDepth 100000 in
theorem walk_FnExactMakeContainer (o l m : Int) (dict S : ByteArray) (s : Int) (w : World) (h_o : -9223372036854775808 ≤ o ∧ o ≤ 9223372036854775807) (h_l : -9223372036854775808 ≤ l ∧ l ≤ 9223372036854775807) (h_m : -9223372036854775808 ≤ m ∧ m ≤ 9223372036854775807) (hs : dict.size ≤ maxLen) (hS : S.size ≤ maxLen) (h_s : -9223372036854775808 ≤ s ∧ s ≤ 9223372036854775807) (hG : Lay w) :
    Calls Tryz.prog 5 #[.agg #[.int .i64 o, .int .i64 l, .int .i64 m], .string dict, .string S, .int .i64 s] w fun e w' => e = .returned (.bool true) ∧ Below w.heap.size w w' := by
  by_cases b1 : 1048576 < dict.size
  · unfold maxLen at *
    go_enter Tryz.func5, Tryz.ntmps5
    go_wp2_with fail
    go_ret
    exact ⟨rfl, by exact obB⟩
  by_cases b2 : 1048576 < S.size
  · unfold maxLen at *
    go_enter Tryz.func5, Tryz.ntmps5
    go_wp2_with fail
    go_ret
    exact ⟨rfl, by exact obB⟩
  have HS0 := (fun v => c_sMakeContainer o l m dict S s v hs (by omega))
  have HI0 := (fun v (hG : Lay v) => c_MakeContainer o l m dict S s v hs (by omega) hG)
  obtain ⟨X, q, hV⟩ := optV_ex (mkRes o l m dict S s)
  rw [hV] at HS0 HI0
  have HS := hid HS0
  have HI := hid HI0
  have HT := hid (fun (v : World) => c_toSetting o l m v)
  have HGl := hid (fun (v : World) (hb : Below w.heap.size w v) => hG.on hb)
  clear HS0 HI0 hV hG h_s
  have hle1 : dict.size ≤ 1048576 := by omega
  have hle2 : S.size ≤ 1048576 := by omega
  have hB0 : Below w.heap.size w (w.alloc (.cells #[.int .i64 o, .int .i64 l, .int .i64 m] 23)) := bel_alloc (Below.refl _ w) _
  have kS := Blk.new w 23 #[.int .i64 o, .int .i64 l, .int .i64 m]
  obtain ⟨y0, y1, y2⟩ := kS.cells3
  clear b1 b2 hs hS
  go_enter Tryz.func5, Tryz.ntmps5
  go_wp2_with fail
  refine (HT.out _).mono ?_
  rintro e w1 ⟨rfl, hb1⟩
  have hB1 := hB0.trans (hb1.mono hB0.size)
  have kS1 := kS.on hb1
  clear y0 y1 y2 hb1 hB0 kS
  go_wp2_with fail
  refine (HS.out _).mono ?_
  rintro e w2 ⟨rfl, hb2⟩
  have hB2 := hB1.trans (hb2.mono hB1.size)
  have kS2 := kS1.on hb2
  obtain ⟨y0, y1, y2⟩ := kS2.cells3
  clear hb2 hB1 kS1
  go_wp2_with fail
  refine (HT.out _).mono ?_
  rintro e w3 ⟨rfl, hb3⟩
  have hB3 := hB2.trans (hb3.mono hB2.size)
  clear y0 y1 y2 hb3 hB2 kS2
  go_wp2_with fail
  refine (HI.out _ (HGl.out _ hB3)).mono ?_
  rintro e w4 ⟨rfl, hb4⟩
  have hB4 := hB3.trans (hb4.mono hB3.size)
  go_wp2_with fail
  go_ret
  exact ⟨rfl, hB4⟩
end Go.Proofs.YtmlaaammfnboiaaGreatDoor
