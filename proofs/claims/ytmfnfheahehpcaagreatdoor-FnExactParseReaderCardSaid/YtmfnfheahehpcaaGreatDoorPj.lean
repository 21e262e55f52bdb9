/- Contracts of the program's ParseSetting. -/
import Derived.Test.YtmfnfheahehpcaaGreatDoorPs
import Derived.Test.YtmfnfheahehpcaaGreatDoorLb
namespace Go.Proofs.YtmfnfheahehpcaaGreatDoor
open Go.ChangeShapes Go.WideShapes Go.ChangeAt Go.RowKit Go.Joins
set_option linter.unusedVariables false

def decK (n : Nat) : List UInt8 := if n < 10 then [UInt8.ofNat (48 + n)] else [UInt8.ofNat (48 + n / 10), UInt8.ofNat (48 + n % 10)]
theorem decK_eq {n : Nat} (h : n < 100) : Lib.decDigits n = decK n := by
  by_cases h1 : n < 10
  · rw [decD_small h1, decK, if_pos h1]
  · rw [decD_big (by omega), decD_small (by omega), decK, if_neg h1]; rfl
def fmtK (o l m : Nat) : List UInt8 := ordL o ++ [32] ++ decK l ++ [32] ++ decK m
def spP : ByteArray := ⟨#[32]⟩
def fieldsP (t : ByteArray) : List ByteArray := Lib.splitB spP 0 (min 4 (t.size + 1) - 1) t

theorem split_allP : ∀ o : Fin 2, ∀ l : Fin 9, ∀ m : Fin 11, fieldsP (str (fmtK o.val l.val m.val)) = [str (ordL (o.val : Int)), str (decK l.val), str (decK m.val)] := by decide +kernel
theorem split_fmtP {o l m : Int} {t : ByteArray} (h : setOk o l m = true) (ht : fmtS o l m = t) : fieldsP t = [str (ordL o), str (dec l), str (dec m)] := by
  obtain ⟨s1, s2, s3⟩ := setOk_iff.1 h
  obtain ⟨a, rfl⟩ := Int.eq_ofNat_of_zero_le (show 0 ≤ o by omega)
  obtain ⟨b, rfl⟩ := Int.eq_ofNat_of_zero_le (show 0 ≤ l by omega)
  obtain ⟨c, rfl⟩ := Int.eq_ofNat_of_zero_le (show 0 ≤ m by omega)
  have := split_allP ⟨a, by omega⟩ ⟨b, by omega⟩ ⟨c, by omega⟩
  have e : fmtS a b c = str (fmtK a b c) := by rw [fmtS, h, if_pos rfl, fmtL, fmtK, dec, dec, Int.toNat_natCast, Int.toNat_natCast, decK_eq (by omega), decK_eq (by omega)]
  rw [← ht, e, this, dec, dec, Int.toNat_natCast, Int.toNat_natCast, decK_eq (by omega), decK_eq (by omega)]
theorem split_emptyP : (fieldsP ByteArray.empty).length = 1 := by decide +kernel
theorem ordL_inj {o o' : Int} (h : o = 0 ∨ o = 1) (h' : o' = 0 ∨ o' = 1) (e : ordL o = ordL o') : o = o' := by
  rcases h with rfl | rfl <;> rcases h' with rfl | rfl <;> first | rfl | (exact absurd e (by decide))

theorem atoi_allP : ∀ k : Fin 11, Lib.atoiAll (decK k.val) = .ok (k.val : Int) := by decide +kernel
theorem atoi_decP {k : Int} (h0 : 0 ≤ k) (h1 : k ≤ 10) : Lib.atoiAll (dec k) = .ok k := by
  obtain ⟨a, rfl⟩ := Int.eq_ofNat_of_zero_le h0
  rw [dec, Int.toNat_natCast, decK_eq (by omega)]; exact atoi_allP ⟨a, by omega⟩

theorem c_AtoiP (s : ByteArray) (w : World) (hs : s.size ≤ 281474976710656) (hE : ErrAt w) : Calls Tryz.prog 39 #[.string s] w fun e w' => (∃ (n : Int) (ev : Value), e = .returned (.tuple #[.int .i64 n, ev]) ∧ (∀ v : Int, Lib.atoiAll s.data.toList = .ok v → n = v)) ∧ Below w.heap.size w w' := by
  obtain ⟨e0, e1, h0, t0, h1, t1⟩ := hE
  cases h : Lib.atoiAll s.data.toList with
  | ok v =>
    refine (Any.strconv_Atoi_ok Tryz.laysC172 s (by omega) v h w).mono ?_
    rintro e w' ⟨rfl, hw⟩
    refine ⟨⟨v, _, rfl, fun u hu => by cases hu; rfl⟩, ?_⟩
    rcases hw with rfl | ⟨x, rfl⟩
    · exact Below.refl _ _
    · exact Lib.bytesWorld_below _ _ _
  | range =>
    refine (Any.strconv_Atoi_range Tryz.laysC172 s hs h e1 w h1 t1).mono ?_
    rintro e w' ⟨M, rfl, _, _, hb⟩
    exact ⟨⟨_, _, rfl, fun u hu => by cases hu⟩, hb⟩
  | _ =>
    refine (Any.strconv_Atoi_syntax Tryz.laysC172 s hs h e0 w h0 t0).mono ?_
    rintro e w' ⟨M, rfl, _, _, hb⟩
    exact ⟨⟨_, _, rfl, fun u hu => by cases hu⟩, hb⟩

theorem len_threeP {l : List ByteArray} (h : l.length = 3) : ∃ a b c, l = [a, b, c] := by
  match l, h with
  | [a, b, c], _ => exact ⟨a, b, c, rfl⟩

theorem Blk.set_farP {w : World} {g R : Nat} {t : TypeId} {cs : Array Value} (h : Blk w g t cs) (i : Nat) (a : Value) (hn : g ≠ R) : Blk (w.setCell ⟨R, i, none⟩ a) g t cs :=
  h.grown (grown_set (grown_refl w (some R)) i a) (by simp; omega)
theorem split_sizeP (k : Nat) : ∀ s x : ByteArray, x ∈ Lib.splitB spP 0 k s → x.size ≤ s.size := by
  induction k with
  | zero => intro s x h; rw [Lib.splitB] at h; rw [List.mem_singleton.1 h]; exact Nat.le_refl _
  | succ k ih =>
    intro s x h
    rw [Lib.splitB] at h
    split at h
    · rw [List.mem_singleton.1 h]; exact Nat.le_refl _
    · rcases List.mem_cons.1 h with rfl | h
      · rw [ByteArray.size_extract]; omega
      · have := ih _ _ h; rw [ByteArray.size_extract] at this; omega

theorem c_SplitNP (t : ByteArray) (w : World) (ht : t.size ≤ 1048576) (mm : Int) (hm : w.cell? ⟨3, 0, none⟩ = some (.int .i64 mm)) :
    Calls Tryz.prog 37 #[.string t, .string ⟨#[32]⟩, .int .i64 4] w fun e w' => ∃ cap L : Nat, cap ≤ 4 ∧ L = (fieldsP t).length ∧ e = .returned (.slice (some ⟨w.heap.size, 0, none⟩) L cap) ∧ w' = w.alloc (.cells (Lib.cellsOf (fieldsP t) cap) 9) := by
  refine (Tryz.strings_SplitN t spP 4 mm w (by omega) hm (by decide) (by decide) (by decide)).mono ?_
  rintro e w' ⟨he, hw⟩
  exact ⟨min 4 (t.size + 1), _, by omega, rfl, he, hw⟩

set_option linter.unusedSimpArgs false in
set_option maxRecDepth 100000 in
set_option maxHeartbeats 4000000 in
theorem c_ParseSetting (t : ByteArray) (w : World) (ht : t.size ≤ 1048576) (hE : ErrAt w) (mm : Int) (hm : w.cell? ⟨3, 0, none⟩ = some (.int .i64 mm)) : Calls Tryz.prog 38 #[.string t] w fun e w' => PS t e ∧ Below w.heap.size w w' := by
  have D0 := hid (show ∀ w, Calls Tryz.prog 56 #[.int .i64 1] w (Same (.string ⟨#[104, 105, 103, 104]⟩) w) from fun w => c_name 1 w (.inr rfl))
  go_enter Tryz.func38, Tryz.ntmps38
  go_wp2_with fail
  obtain ⟨N, hN⟩ : ∃ N, N = w.heap.size := ⟨_, rfl⟩
  have hNw : w.heap.size ≤ N := by omega
  obtain ⟨W1, hW1⟩ : ∃ W1, W1 = w.alloc (.cells #[.int .i64 0, .int .i64 0, .int .i64 0] 24) := ⟨_, rfl⟩
  rw [← hN, ← hW1]
  have k1 : Blk W1 N 24 #[.int .i64 0, .int .i64 0, .int .i64 0] := by rw [hW1, hN]; exact Blk.new w _ _
  have c1 : Below w.heap.size w W1 := by rw [hW1]; exact bel_alloc (Below.refl _ _) _
  clear hN hW1
  refine (c_SplitNP t W1 ht mm (cell_kept hm c1)).mono ?_
  rintro e W2 ⟨cap, L, hcap, hL, rfl, hW2⟩
  obtain ⟨F, hF⟩ : ∃ F, F = W1.heap.size := ⟨_, rfl⟩
  have hNF : N < F := by rw [hF]; exact k1.lt
  rw [← hF]
  have KN : Blk W2 N 24 #[.int .i64 0, .int .i64 0, .int .i64 0] := by rw [hW2]; exact k1.alloc _
  have kf : Blk W2 F 9 (Lib.cellsOf (fieldsP t) cap) := by rw [hW2, hF]; exact Blk.new W1 _ _
  have c2 : Below w.heap.size w W2 := by rw [hW2]; exact bel_alloc c1 _
  clear hW2 hF k1 c1
  by_cases h3 : L = 3
  · obtain ⟨f0, f1, f2, hf⟩ := len_threeP (hL.symm.trans h3)
    have HFS := hid (show ∀ o l m : Int, setOk o l m = true → fmtS o l m = t → f0 = str (ordL o) ∧ f1 = str (dec l) ∧ f2 = str (dec m) from fun o l m h e => by
      have := split_fmtP h e
      rw [hf] at this
      simpa using this)
    have HNE := hid (show t ≠ ByteArray.empty from fun e => by
      have := split_emptyP
      rw [← e, hf] at this
      simp at this)
    obtain ⟨cs, hcs⟩ : ∃ cs, cs = Lib.cellsOf (fieldsP t) cap := ⟨_, rfl⟩
    have v0 : cs[0]? = some (.string f0) := by rw [hcs, hf]; rfl
    have v1 : cs[1]? = some (.string f1) := by rw [hcs, hf]; rfl
    have v2 : cs[2]? = some (.string f2) := by rw [hcs, hf]; rfl
    have s1 : f1.size ≤ t.size := split_sizeP _ t f1 (by show f1 ∈ fieldsP t; rw [hf]; simp)
    have s2 : f2.size ≤ t.size := split_sizeP _ t f2 (by show f2 ∈ fieldsP t; rw [hf]; simp)
    rw [← hcs] at kf
    clear hf hL hcs
    subst h3
    go_wp2_with fail
    obtain ⟨M, hM⟩ : ∃ M, M = W2.heap.size := ⟨_, rfl⟩
    obtain ⟨W3, hW3⟩ : ∃ W3, W3 = W2.alloc (.cells #[.int .i64 0, .int .i64 0, .int .i64 0] 24) := ⟨_, rfl⟩
    have hFM : F < M := by rw [hM]; exact kf.lt
    rw [← hM, ← hW3]
    have kM : Blk W3 M 24 #[.int .i64 0, .int .i64 0, .int .i64 0] := by rw [hW3, hM]; exact Blk.new W2 _ _
    have kN3 : Blk W3 N 24 #[.int .i64 0, .int .i64 0, .int .i64 0] := by rw [hW3]; exact KN.alloc _
    have kF3 : Blk W3 F 9 cs := by rw [hW3]; exact kf.alloc _
    have c3 : Below w.heap.size w W3 := by rw [hW3]; exact bel_alloc c2 _
    have x5 : W3.drew.cell? ⟨F, 0, none⟩ = some (.string f0) := (kF3.drew.cell 0).trans v0
    clear hM hW3 KN kf c2
    have y5 : W3.cell? ⟨F, 1, none⟩ = some (.string f1) := (kF3.cell 1).trans v1
    obtain ⟨m0, m1, m2⟩ := kM.cells3
    have n0 := kM.frozen 0
    have hne1 : ¬ F = M := by omega
    have hne2 : ¬ M = F := by omega
    by_cases hh : f0 = ⟨#[104, 105, 103, 104]⟩
    · have hb : (f0.toList == [104, 105, 103, 104]) = true := by rw [hh, ByteArray.toList_eq]; decide
      have hb2 : f0.toList = [104, 105, 103, 104] := by rw [hh, ByteArray.toList_eq]
      have HO := hid (show ∀ o l m : Int, setOk o l m = true → fmtS o l m = t → o = 1 from fun o l m h e => by
        have h0 := (HFS.out o l m h e).1
        rcases (setOk_iff.1 h).1 with rfl | rfl
        · rw [hh] at h0; exact absurd (congrArg (fun x : ByteArray => x.data.toList) h0) (by decide)
        · rfl)
      clear hh
      refine wp_region_noPanic ?_
      refine wp_region_held_drew (S := (fun v : World => v.cell? ⟨F, 0, none⟩ = some (.string f0))) (by kernel_rfl) (x5) (fun hHeld => ?_)
      refine wpAnyH_take (i := 0) (oi := ?ao0) (v := ?av0) ?ai0 (by kernel_rfl) (by kernel_rfl) (by kernel_rfl) (fun _ _ _ h => h) ?ay0 (by assumption) ?ar0
      case ai0 => (simp only [List.getElem?_toArray, List.getElem?_cons_succ, List.getElem?_cons_zero]; rfl)
      case ay0 => exact Or.inl ⟨by rfl, by intro w hSw; (try dsimp only at hSw); go_simp; try with_reducible rfl⟩
      try simp only [Act.put, List.setIfInBounds_toArray, List.set_cons_zero, List.set_cons_succ]
      refine wpAnyH_take (i := 1) (oi := ?ao1) (v := ?av1) ?ai1 (by kernel_rfl) (by kernel_rfl) (by kernel_rfl) (fun _ _ _ h => h) ?ay1 (by assumption) ?ar1
      case ai1 => (simp only [List.getElem?_toArray, List.getElem?_cons_succ, List.getElem?_cons_zero]; rfl)
      case ay1 => exact Or.inl ⟨by rfl, by intro w hSw; (try dsimp only at hSw); go_simp; try with_reducible rfl⟩
      try simp only [Act.put, List.setIfInBounds_toArray, List.set_cons_zero, List.set_cons_succ]
      refine wpAnyH_take (i := 2) (oi := ?ao2) (v := ?av2) ?ai2 (by kernel_rfl) (by kernel_rfl) (by kernel_rfl) (fun _ _ _ h => h) ?ay2 (by assumption) ?ar2
      case ai2 => (simp only [List.getElem?_toArray, List.getElem?_cons_succ, List.getElem?_cons_zero]; rfl)
      case ay2 => exact Or.inl ⟨by rfl, by intro w hSw; (try dsimp only at hSw); go_simp; try with_reducible rfl⟩
      try simp only [Act.put, List.setIfInBounds_toArray, List.set_cons_zero, List.set_cons_succ]
      refine wpAnyH_ready (rs := [3]) (by kernel_rfl) (by simp) ?_
      refine AllReadyH.cons (o := ?ao3) ?ai3 (fun K hK => ?as3) AllReadyH.nil
      case ai3 => (simp only [List.getElem?_toArray, List.getElem?_cons_succ, List.getElem?_cons_zero]; rfl)
      go_simp
      go_at_call 56
      refine (D0.out _).mono ?_
      rintro e w' ⟨rfl, rfl⟩
      go_wp2_with fail
      refine hK.out _ _ ?ak3 (fun hHeld => ?_)
      case ak3 => (try dsimp only); assumption
      clear hK K
      try simp only [Act.put, List.setIfInBounds_toArray, List.set_cons_zero, List.set_cons_succ]
      refine wpAnyH_take (i := 4) (oi := ?ao4) (v := ?av4) ?ai4 (by kernel_rfl) (by kernel_rfl) (by kernel_rfl) (fun _ _ _ h => h) ?ay4 (by assumption) ?ar4
      case ai4 => (simp only [List.getElem?_toArray, List.getElem?_cons_succ, List.getElem?_cons_zero]; rfl)
      case ay4 => exact Or.inl ⟨by rfl, by intro w hSw; (try dsimp only at hSw); go_simp; try with_reducible rfl⟩
      try simp only [Act.put, List.setIfInBounds_toArray, List.set_cons_zero, List.set_cons_succ]
      refine wpAnyH_done (by kernel_rfl) ?_ _
      refine NoPanic.normal ?_
      go_wp2_with fail
      obtain ⟨W4, hW4⟩ : ∃ W4, W4 = (W3.setCell ⟨M, 0, none⟩ (.int .i64 1)).drew := ⟨_, rfl⟩
      rw [← hW4]
      have kM4 : Blk W4 M 24 #[.int .i64 1, .int .i64 0, .int .i64 0] := by rw [hW4]; exact (kM.set_ 0 _).drew
      have kN4 : Blk W4 N 24 #[.int .i64 0, .int .i64 0, .int .i64 0] := by rw [hW4]; exact (kN3.set_farP _ _ (by omega)).drew
      have kF4 : Blk W4 F 9 cs := by rw [hW4]; exact (kF3.set_farP _ _ (by omega)).drew
      have c4 : Below w.heap.size w W4 := by rw [hW4]; exact bel_drew (bel_set c3 (by show w.heap.size ≤ M; omega) _)
      clear hW4 kM kN3 kF3 c3 x5 y5 m0 m1 m2 n0 hb hb2
      refine (c_AtoiP f1 W4 (by omega) (hE.kept c4)).mono ?_
      rintro e W5 ⟨⟨n1, ev1, rfl, hn1⟩, hb5⟩
      have Hn1 := hid hn1
      have kM5 := kM4.on hb5
      have kN5 := kN4.on hb5
      have kF5 := kF4.on hb5
      have c5 := bel_trans c4 hb5
      obtain ⟨m0, m1, m2⟩ := kM5.cells3
      have fr1 := kM5.frozen 1
      have y5 : W5.cell? ⟨F, 2, none⟩ = some (.string f2) := (kF5.cell 2).trans v2
      clear kM4 kN4 kF4 c4 hb5 hn1
      go_wp2_with fail
      obtain ⟨W6, hW6⟩ : ∃ W6, W6 = W5.setCell ⟨M, 1, none⟩ (.int .i64 n1) := ⟨_, rfl⟩
      rw [← hW6]
      have kM6 : Blk W6 M 24 #[.int .i64 1, .int .i64 n1, .int .i64 0] := by rw [hW6]; exact kM5.set_ 1 _
      have kN6 : Blk W6 N 24 #[.int .i64 0, .int .i64 0, .int .i64 0] := by rw [hW6]; exact kN5.set_farP _ _ (by omega)
      have c6 : Below w.heap.size w W6 := by rw [hW6]; exact bel_set c5 (by show w.heap.size ≤ M; omega) _
      clear hW6 kM5 kN5 kF5 c5 m0 m1 m2 fr1 y5
      refine (c_AtoiP f2 W6 (by omega) (hE.kept c6)).mono ?_
      rintro e W7 ⟨⟨n2, ev2, rfl, hn2⟩, hb7⟩
      have Hn2 := hid hn2
      have kM7 := kM6.on hb7
      have kN7 := kN6.on hb7
      have c7 := bel_trans c6 hb7
      obtain ⟨m0, m1, m2⟩ := kM7.cells3
      have fr1 := kM7.frozen 2
      clear kM6 kN6 c6 hb7 hn2
      obtain ⟨T, hT⟩ : ∃ T, T = fmtS 1 n1 n2 := ⟨_, rfl⟩
      have HFm := hid (show ∀ w, Calls Tryz.prog 24 #[.agg #[.int .i64 1, .int .i64 n1, .int .i64 n2]] w fun e w' => e = .returned (.string T) ∧ Below w.heap.size w w' by intro w; rw [hT]; exact c_FormatSetting 1 n1 n2 w)
      have HT := hid hT
      clear hT
      go_wp2_with fail
      obtain ⟨W8, hW8⟩ : ∃ W8, W8 = W7.setCell ⟨M, 2, none⟩ (.int .i64 n2) := ⟨_, rfl⟩
      rw [← hW8]
      have kM8 : Blk W8 M 24 #[.int .i64 1, .int .i64 n1, .int .i64 n2] := by rw [hW8]; exact kM7.set_ 2 _
      have kN8 : Blk W8 N 24 #[.int .i64 0, .int .i64 0, .int .i64 0] := by rw [hW8]; exact kN7.set_farP _ _ (by omega)
      have c8 : Below w.heap.size w W8 := by rw [hW8]; exact bel_set c7 (by show w.heap.size ≤ M; omega) _
      clear hW8 kM7 kN7 c7 m0 m1 m2 fr1
      refine (HFm.out _).mono ?_
      rintro e W9 ⟨rfl, hb9⟩
      have kM9 := kM8.on hb9
      have KN := kN8.on hb9
      have c9 := bel_trans c8 hb9
      obtain ⟨m0, m1, m2⟩ := kM9.cells3
      clear kM8 kN8 c8 hb9
      by_cases he : T = t
      · have he1 : (T.toList == t.toList) = true := by rw [he]; simp
        have HS := hid (show setOk 1 n1 n2 = true by
          cases hs : setOk 1 n1 n2 with
          | true => rfl
          | false => exact absurd (he.symm.trans (HT.out.trans (by rw [fmtS, hs]; rfl))) HNE.out)
        have HE := hid (HT.out.symm.trans he)
        clear he
        obtain ⟨q0, q1, q2⟩ := KN.cells3
        have g0 := KN.frozen 0
        have g1 := KN.frozen 1
        have g2 := KN.frozen 2
        have k9 : Blk (((W9.setCell ⟨N, 0, none⟩ (.int .i64 1)).setCell ⟨N, 1, none⟩ (.int .i64 n1)).setCell ⟨N, 2, none⟩ (.int .i64 n2)) N 24 #[.int .i64 1, .int .i64 n1, .int .i64 n2] := ((KN.set_ 0 _).set_ 1 _).set_ 2 _
        obtain ⟨j0, j1, j2⟩ := k9.cells3
        clear k9
        go_wp2
        (try simp only [Exit.inBlock, Exit.then])
        exact bodyPost_ret (v := .tuple #[.agg #[.int .i64 1, .int .i64 n1, .int .i64 n2], .bool true]) (by simp [results, Tryz.results38, go_sem, j0, j1, j2]) rfl ⟨.inl ⟨1, n1, n2, HS.out, HE.out, rfl⟩, by exact obB⟩
      · have he1 : (T.toList == t.toList) = false := bytes_ne he
        have HD := hid (show ∀ o l m : Int, Fail t o l m from fun o l m hf => by
          obtain ⟨r0, r1, r2⟩ := HFS.out o l m hf.1 hf.2
          obtain ⟨_, s2, s3⟩ := setOk_iff.1 hf.1
          have o1 := HO.out o l m hf.1 hf.2
          have l1 := Hn1.out l (by rw [r1, str_list]; exact atoi_decP (by omega) (by omega))
          have m1 := Hn2.out m (by rw [r2, str_list]; exact atoi_decP (by omega) (by omega))
          subst o1 l1 m1
          exact he (HT.out.trans hf.2))
        clear he
        obtain ⟨q0, q1, q2⟩ := KN.cells3
        have g0 := KN.frozen 0
        have g1 := KN.frozen 1
        have g2 := KN.frozen 2
        have k9 : Blk (((W9.setCell ⟨N, 0, none⟩ (.int .i64 0)).setCell ⟨N, 1, none⟩ (.int .i64 0)).setCell ⟨N, 2, none⟩ (.int .i64 0)) N 24 #[.int .i64 0, .int .i64 0, .int .i64 0] := ((KN.set_ 0 _).set_ 1 _).set_ 2 _
        obtain ⟨j0, j1, j2⟩ := k9.cells3
        clear k9
        go_wp2
        (try simp only [Exit.inBlock, Exit.then])
        exact bodyPost_ret (v := .tuple #[.agg #[.int .i64 0, .int .i64 0, .int .i64 0], .bool false]) (by simp [results, Tryz.results38, go_sem, j0, j1, j2]) rfl ⟨.inr ⟨HD.out, rfl⟩, by exact obB⟩
    · have hb : (f0.toList == [104, 105, 103, 104]) = false := by
        have := bytes_ne hh
        rw [show (⟨#[104, 105, 103, 104]⟩ : ByteArray).toList = [104, 105, 103, 104] from by rw [ByteArray.toList_eq]] at this
        exact this
      have hb2 : ¬ f0.toList = [104, 105, 103, 104] := by simpa using hb
      have HO := hid (show ∀ o l m : Int, setOk o l m = true → fmtS o l m = t → o = 0 from fun o l m h e => by
        have h0 := (HFS.out o l m h e).1
        rcases (setOk_iff.1 h).1 with rfl | rfl
        · rfl
        · exact absurd h0 hh)
      clear hh
      refine wp_region_noPanic ?_
      refine wp_region_held_drew (S := (fun v : World => v.cell? ⟨F, 0, none⟩ = some (.string f0))) (by kernel_rfl) (x5) (fun hHeld => ?_)
      refine wpAnyH_take (i := 0) (oi := ?bo0) (v := ?bv0) ?bi0 (by kernel_rfl) (by kernel_rfl) (by kernel_rfl) (fun _ _ _ h => h) ?by0 (by assumption) ?br0
      case bi0 => (simp only [List.getElem?_toArray, List.getElem?_cons_succ, List.getElem?_cons_zero]; rfl)
      case by0 => exact Or.inl ⟨by rfl, by intro w hSw; (try dsimp only at hSw); go_simp; try with_reducible rfl⟩
      try simp only [Act.put, List.setIfInBounds_toArray, List.set_cons_zero, List.set_cons_succ]
      refine wpAnyH_take (i := 1) (oi := ?bo1) (v := ?bv1) ?bi1 (by kernel_rfl) (by kernel_rfl) (by kernel_rfl) (fun _ _ _ h => h) ?by1 (by assumption) ?br1
      case bi1 => (simp only [List.getElem?_toArray, List.getElem?_cons_succ, List.getElem?_cons_zero]; rfl)
      case by1 => exact Or.inl ⟨by rfl, by intro w hSw; (try dsimp only at hSw); go_simp; try with_reducible rfl⟩
      try simp only [Act.put, List.setIfInBounds_toArray, List.set_cons_zero, List.set_cons_succ]
      refine wpAnyH_take (i := 2) (oi := ?bo2) (v := ?bv2) ?bi2 (by kernel_rfl) (by kernel_rfl) (by kernel_rfl) (fun _ _ _ h => h) ?by2 (by assumption) ?br2
      case bi2 => (simp only [List.getElem?_toArray, List.getElem?_cons_succ, List.getElem?_cons_zero]; rfl)
      case by2 => exact Or.inl ⟨by rfl, by intro w hSw; (try dsimp only at hSw); go_simp; try with_reducible rfl⟩
      try simp only [Act.put, List.setIfInBounds_toArray, List.set_cons_zero, List.set_cons_succ]
      refine wpAnyH_ready (rs := [3]) (by kernel_rfl) (by simp) ?_
      refine AllReadyH.cons (o := ?bo3) ?bi3 (fun K hK => ?bs3) AllReadyH.nil
      case bi3 => (simp only [List.getElem?_toArray, List.getElem?_cons_succ, List.getElem?_cons_zero]; rfl)
      go_simp
      go_at_call 56
      refine (D0.out _).mono ?_
      rintro e w' ⟨rfl, rfl⟩
      go_wp2_with fail
      refine hK.out _ _ ?bk3 (fun hHeld => ?_)
      case bk3 => (try dsimp only); assumption
      clear hK K
      try simp only [Act.put, List.setIfInBounds_toArray, List.set_cons_zero, List.set_cons_succ]
      refine wpAnyH_take (i := 4) (oi := ?bo4) (v := ?bv4) ?bi4 (by kernel_rfl) (by kernel_rfl) (by kernel_rfl) (fun _ _ _ h => h) ?by4 (by assumption) ?br4
      case bi4 => (simp only [List.getElem?_toArray, List.getElem?_cons_succ, List.getElem?_cons_zero]; rfl)
      case by4 => exact Or.inl ⟨by rfl, by intro w hSw; (try dsimp only at hSw); go_simp; try with_reducible rfl⟩
      try simp only [Act.put, List.setIfInBounds_toArray, List.set_cons_zero, List.set_cons_succ]
      refine wpAnyH_done (by kernel_rfl) ?_ _
      refine NoPanic.normal ?_
      go_wp2_with fail
      obtain ⟨W4, hW4⟩ : ∃ W4, W4 = W3.drew := ⟨_, rfl⟩
      rw [← hW4]
      have kM4 : Blk W4 M 24 #[.int .i64 0, .int .i64 0, .int .i64 0] := by rw [hW4]; exact kM.drew
      have kN4 : Blk W4 N 24 #[.int .i64 0, .int .i64 0, .int .i64 0] := by rw [hW4]; exact kN3.drew
      have kF4 : Blk W4 F 9 cs := by rw [hW4]; exact kF3.drew
      have c4 : Below w.heap.size w W4 := by rw [hW4]; exact bel_drew c3
      clear hW4 kM kN3 kF3 c3 x5 y5 m0 m1 m2 n0 hb hb2
      refine (c_AtoiP f1 W4 (by omega) (hE.kept c4)).mono ?_
      rintro e W5 ⟨⟨n1, ev1, rfl, hn1⟩, hb5⟩
      have Hn1 := hid hn1
      have kM5 := kM4.on hb5
      have kN5 := kN4.on hb5
      have kF5 := kF4.on hb5
      have c5 := bel_trans c4 hb5
      obtain ⟨m0, m1, m2⟩ := kM5.cells3
      have fr1 := kM5.frozen 1
      have y5 : W5.cell? ⟨F, 2, none⟩ = some (.string f2) := (kF5.cell 2).trans v2
      clear kM4 kN4 kF4 c4 hb5 hn1
      go_wp2_with fail
      obtain ⟨W6, hW6⟩ : ∃ W6, W6 = W5.setCell ⟨M, 1, none⟩ (.int .i64 n1) := ⟨_, rfl⟩
      rw [← hW6]
      have kM6 : Blk W6 M 24 #[.int .i64 0, .int .i64 n1, .int .i64 0] := by rw [hW6]; exact kM5.set_ 1 _
      have kN6 : Blk W6 N 24 #[.int .i64 0, .int .i64 0, .int .i64 0] := by rw [hW6]; exact kN5.set_farP _ _ (by omega)
      have c6 : Below w.heap.size w W6 := by rw [hW6]; exact bel_set c5 (by show w.heap.size ≤ M; omega) _
      clear hW6 kM5 kN5 kF5 c5 m0 m1 m2 fr1 y5
      refine (c_AtoiP f2 W6 (by omega) (hE.kept c6)).mono ?_
      rintro e W7 ⟨⟨n2, ev2, rfl, hn2⟩, hb7⟩
      have Hn2 := hid hn2
      have kM7 := kM6.on hb7
      have kN7 := kN6.on hb7
      have c7 := bel_trans c6 hb7
      obtain ⟨m0, m1, m2⟩ := kM7.cells3
      have fr1 := kM7.frozen 2
      clear kM6 kN6 c6 hb7 hn2
      obtain ⟨T, hT⟩ : ∃ T, T = fmtS 0 n1 n2 := ⟨_, rfl⟩
      have HFm := hid (show ∀ w, Calls Tryz.prog 24 #[.agg #[.int .i64 0, .int .i64 n1, .int .i64 n2]] w fun e w' => e = .returned (.string T) ∧ Below w.heap.size w w' by intro w; rw [hT]; exact c_FormatSetting 0 n1 n2 w)
      have HT := hid hT
      clear hT
      go_wp2_with fail
      obtain ⟨W8, hW8⟩ : ∃ W8, W8 = W7.setCell ⟨M, 2, none⟩ (.int .i64 n2) := ⟨_, rfl⟩
      rw [← hW8]
      have kM8 : Blk W8 M 24 #[.int .i64 0, .int .i64 n1, .int .i64 n2] := by rw [hW8]; exact kM7.set_ 2 _
      have kN8 : Blk W8 N 24 #[.int .i64 0, .int .i64 0, .int .i64 0] := by rw [hW8]; exact kN7.set_farP _ _ (by omega)
      have c8 : Below w.heap.size w W8 := by rw [hW8]; exact bel_set c7 (by show w.heap.size ≤ M; omega) _
      clear hW8 kM7 kN7 c7 m0 m1 m2 fr1
      refine (HFm.out _).mono ?_
      rintro e W9 ⟨rfl, hb9⟩
      have kM9 := kM8.on hb9
      have KN := kN8.on hb9
      have c9 := bel_trans c8 hb9
      obtain ⟨m0, m1, m2⟩ := kM9.cells3
      clear kM8 kN8 c8 hb9
      by_cases he : T = t
      · have he1 : (T.toList == t.toList) = true := by rw [he]; simp
        have HS := hid (show setOk 0 n1 n2 = true by
          cases hs : setOk 0 n1 n2 with
          | true => rfl
          | false => exact absurd (he.symm.trans (HT.out.trans (by rw [fmtS, hs]; rfl))) HNE.out)
        have HE := hid (HT.out.symm.trans he)
        clear he
        obtain ⟨q0, q1, q2⟩ := KN.cells3
        have g0 := KN.frozen 0
        have g1 := KN.frozen 1
        have g2 := KN.frozen 2
        have k9 : Blk (((W9.setCell ⟨N, 0, none⟩ (.int .i64 0)).setCell ⟨N, 1, none⟩ (.int .i64 n1)).setCell ⟨N, 2, none⟩ (.int .i64 n2)) N 24 #[.int .i64 0, .int .i64 n1, .int .i64 n2] := ((KN.set_ 0 _).set_ 1 _).set_ 2 _
        obtain ⟨j0, j1, j2⟩ := k9.cells3
        clear k9
        go_wp2
        (try simp only [Exit.inBlock, Exit.then])
        exact bodyPost_ret (v := .tuple #[.agg #[.int .i64 0, .int .i64 n1, .int .i64 n2], .bool true]) (by simp [results, Tryz.results38, go_sem, j0, j1, j2]) rfl ⟨.inl ⟨0, n1, n2, HS.out, HE.out, rfl⟩, by exact obB⟩
      · have he1 : (T.toList == t.toList) = false := bytes_ne he
        have HD := hid (show ∀ o l m : Int, Fail t o l m from fun o l m hf => by
          obtain ⟨r0, r1, r2⟩ := HFS.out o l m hf.1 hf.2
          obtain ⟨_, s2, s3⟩ := setOk_iff.1 hf.1
          have o1 := HO.out o l m hf.1 hf.2
          have l1 := Hn1.out l (by rw [r1, str_list]; exact atoi_decP (by omega) (by omega))
          have m1 := Hn2.out m (by rw [r2, str_list]; exact atoi_decP (by omega) (by omega))
          subst o1 l1 m1
          exact he (HT.out.trans hf.2))
        clear he
        obtain ⟨q0, q1, q2⟩ := KN.cells3
        have g0 := KN.frozen 0
        have g1 := KN.frozen 1
        have g2 := KN.frozen 2
        have k9 : Blk (((W9.setCell ⟨N, 0, none⟩ (.int .i64 0)).setCell ⟨N, 1, none⟩ (.int .i64 0)).setCell ⟨N, 2, none⟩ (.int .i64 0)) N 24 #[.int .i64 0, .int .i64 0, .int .i64 0] := ((KN.set_ 0 _).set_ 1 _).set_ 2 _
        obtain ⟨j0, j1, j2⟩ := k9.cells3
        clear k9
        go_wp2
        (try simp only [Exit.inBlock, Exit.then])
        exact bodyPost_ret (v := .tuple #[.agg #[.int .i64 0, .int .i64 0, .int .i64 0], .bool false]) (by simp [results, Tryz.results38, go_sem, j0, j1, j2]) rfl ⟨.inr ⟨HD.out, rfl⟩, by exact obB⟩
  · have HD := hid (show ∀ o l m : Int, Fail t o l m from fun o l m hf => h3 (by rw [hL, split_fmtP hf.1 hf.2]; rfl))
    have h3i : (L : Int) < 3 ∨ 3 < (L : Int) := by omega
    have h3b : ((L : Int) != 3) = true := ne_yes h3i
    clear hL h3i h3
    obtain ⟨q0, q1, q2⟩ := KN.cells3
    have g0 := KN.frozen 0
    have g1 := KN.frozen 1
    have g2 := KN.frozen 2
    have k9 : Blk (((W2.setCell ⟨N, 0, none⟩ (.int .i64 0)).setCell ⟨N, 1, none⟩ (.int .i64 0)).setCell ⟨N, 2, none⟩ (.int .i64 0)) N 24 #[.int .i64 0, .int .i64 0, .int .i64 0] := ((KN.set_ 0 _).set_ 1 _).set_ 2 _
    obtain ⟨j0, j1, j2⟩ := k9.cells3
    clear k9
    go_wp2
    (try simp only [Exit.inBlock, Exit.then])
    exact bodyPost_ret (v := .tuple #[.agg #[.int .i64 0, .int .i64 0, .int .i64 0], .bool false]) (by simp [results, Tryz.results38, go_sem, j0, j1, j2]) rfl ⟨.inr ⟨HD.out, rfl⟩, by exact obB⟩

theorem str_inj {a b : List UInt8} (h : str a = str b) : a = b := by
  have := congrArg (fun x : ByteArray => x.data.toList) h
  simpa [str_list] using this
theorem dec_inj {a b : Int} (ha : 0 ≤ a ∧ a ≤ 10) (hb : 0 ≤ b ∧ b ≤ 10) (h : dec a = dec b) : a = b := by
  have h1 := atoi_decP ha.1 ha.2
  rw [h, atoi_decP hb.1 hb.2] at h1
  cases h1; rfl
theorem fmtS_inj {o l m o' l' m' : Int} {t : ByteArray} (h : setOk o l m = true) (e : fmtS o l m = t) (h' : setOk o' l' m' = true) (e' : fmtS o' l' m' = t) : o' = o ∧ l' = l ∧ m' = m := by
  have h1 := split_fmtP h e
  rw [split_fmtP h' e'] at h1
  simp only [List.cons.injEq, and_true] at h1
  obtain ⟨s1, s2, s3⟩ := setOk_iff.1 h
  obtain ⟨r1, r2, r3⟩ := setOk_iff.1 h'
  exact ⟨ordL_inj r1 s1 (str_inj h1.1), dec_inj (by omega) (by omega) (str_inj h1.2.1), dec_inj (by omega) (by omega) (str_inj h1.2.2)⟩

theorem PS_yes {t : ByteArray} {e : Ending} {o l m : Int} (h : setOk o l m = true) (he : fmtS o l m = t) (hp : PS t e) : e = .returned (.tuple #[.agg #[.int .i64 o, .int .i64 l, .int .i64 m], .bool true]) := by
  rcases hp with ⟨o', l', m', h', he', rfl⟩ | ⟨hn, _⟩
  · obtain ⟨rfl, rfl, rfl⟩ := fmtS_inj h he h' he'
    rfl
  · exact absurd ⟨h, he⟩ (hn o l m)
theorem PS_no {t : ByteArray} {e : Ending} (hn : ∀ o l m : Int, Fail t o l m) (hp : PS t e) : e = .returned (.tuple #[.agg #[.int .i64 0, .int .i64 0, .int .i64 0], .bool false]) := by
  rcases hp with ⟨o', l', m', h', he', rfl⟩ | ⟨_, rfl⟩
  · exact absurd ⟨h', he'⟩ (hn o' l' m')
  · rfl
end Go.Proofs.YtmfnfheahehpcaaGreatDoor
