/- Contracts of FormatSetting in both programs. -/
import Derived.Test.YtmfnfheahehpcaaGreatDoorBa
import Derived.Test.YtmfnfheahehpcaaGreatDoorSk
import Derived.Test.YtmfnfheahehpcaaGreatDoorShelf
import Derived.Deep.RegionHeld3
import Derived.Lib.ItoaNum
namespace Go.Proofs.YtmfnfheahehpcaaGreatDoor
open Go.ChangeShapes Go.WideShapes Go.ChangeAt Go.RowKit Go.Joins
set_option linter.unusedVariables false

def dec (n : Int) : List UInt8 := Lib.decDigits n.toNat
def ordL (o : Int) : List UInt8 := if o = 1 then [104, 105, 103, 104] else [108, 111, 119]
def fmtL (o l m : Int) : List UInt8 := ordL o ++ [32] ++ dec l ++ [32] ++ dec m
def fmtS (o l m : Int) : ByteArray := if setOk o l m = true then str (fmtL o l m) else ByteArray.empty

theorem decD_small {u : Nat} (h : u < 10) : Lib.decDigits u = [UInt8.ofNat (48 + u)] := by rw [Lib.decDigits, dif_pos h]
theorem decD_big {u : Nat} (h : 10 ≤ u) : Lib.decDigits u = Lib.decDigits (u / 10) ++ [UInt8.ofNat (48 + u % 10)] := by rw [Lib.decDigits, dif_neg (by omega)]
theorem decD_len (k : Nat) : ∀ u, u < 10 ^ (k + 1) → (Lib.decDigits u).length ≤ k + 1 := by
  induction k with
  | zero => intro u h; rw [decD_small (by simpa using h)]; simp
  | succ k ih =>
    intro u h
    by_cases h10 : u < 10
    · rw [decD_small h10]; simp
    · rw [decD_big (by omega), List.length_append]
      have := ih (u / 10) (by rw [Nat.pow_succ] at h; omega)
      simp; omega

theorem Tryz.info_u8e : (Tryz.prog.info? 5).map (fun i => (i.zero, i.size, i.bytes)) = some (some (.int .u8 0), 1, 1) := by kernel_rfl

set_option maxRecDepth 100000 in
set_option maxHeartbeats 1000000 in
theorem c_l9Dec (n : Int) (w : World) (h0 : 0 ≤ n) (h1 : n ≤ 1000000000000000000) : Calls Tryz.prog 29 #[.int .i64 n] w fun e w' => e = .returned (.string (str (dec n))) ∧ Below w.heap.size w w' := by
  have hlen := decD_len 18 n.toNat (by simp; omega)
  go_enter Tryz.func29, Tryz.ntmps29
  go_wp2_with fail
  go_loopw [0, 3] (fun nv sv wr => ∃ (x : Nat) (r : List UInt8), nv = .int .i64 x ∧ sv = .string (str r) ∧ Hid (Lib.decDigits x ++ r = dec n) ∧ x ≤ 1000000000000000000 ∧ Below w.heap.size w wr) (fun nv _ _ => (intOf nv).toNat)
  case atStart => exact ⟨n.toNat, [], by rw [Int.toNat_of_nonneg h0], rfl, hid (by rw [List.append_nil]; rfl), by omega, by exact obB⟩
  case round =>
    obtain ⟨x, r, rfl, rfl, HX, hx, cr⟩ := hrel
    have hr : (str r).size ≤ 20 := by
      have := congrArg List.length HX.out
      rw [List.length_append] at this
      rw [str_size]; unfold dec at this; omega
    obtain ⟨R, hR⟩ : ∃ R, R = str r := ⟨_, rfl⟩
    rw [← hR] at hr ⊢
    have HR := hid hR
    clear hR
    by_cases h9 : 9 < x
    · have hd : (48 + (x : Int) % 10) = ((UInt8.ofNat (48 + x % 10)).toNat : Int) := by rw [UInt8.toNat_ofNat']; omega
      have hm : 0 ≤ (x : Int) % 10 ∧ (x : Int) % 10 ≤ 9 := by omega
      have hcv := run_one (P := Tryz.prog) (w := wr) Tryz.underlying22 Tryz.underlying5 Tryz.underlying9 hd
      obtain ⟨c, hc⟩ : ∃ c, c = UInt8.ofNat (48 + x % 10) := ⟨_, rfl⟩
      rw [← hc] at hcv
      obtain ⟨D, hD⟩ : ∃ D, D = str [c] := ⟨_, rfl⟩
      have hDs : D.size ≤ 1 := by rw [hD, str_size]; simp
      rw [← hD] at hcv
      have HN := hid (show D ++ R = str (c :: r) by rw [hD, HR.out, str_append]; rfl)
      have HY := hid (show Lib.decDigits (x / 10) ++ (c :: r) = dec n by rw [← HX.out, decD_big (u := x) (by omega), hc, List.append_assoc]; rfl)
      clear hD hc hd
      go_wp2
      go_roundw
      case rel => exact ⟨x / 10, c :: r, by go_num, by rw [HN.out], HY, by omega, by exact obB⟩
      case measure => simp [intOf]; omega
    · have hd : (48 + (x : Int)) = ((UInt8.ofNat (48 + x)).toNat : Int) := by rw [UInt8.toNat_ofNat']; omega
      have hcv := run_one (P := Tryz.prog) (w := wr) Tryz.underlying22 Tryz.underlying5 Tryz.underlying9 hd
      obtain ⟨c, hc⟩ : ∃ c, c = UInt8.ofNat (48 + x) := ⟨_, rfl⟩
      rw [← hc] at hcv
      obtain ⟨D, hD⟩ : ∃ D, D = str [c] := ⟨_, rfl⟩
      have hDs : D.size ≤ 1 := by rw [hD, str_size]; simp
      rw [← hD] at hcv
      have HN := hid (show D ++ R = str (dec n) by rw [hD, HR.out, str_append, ← HX.out, decD_small (by omega), hc])
      clear hD hc hd
      go_wp2
      go_ret
      exact ⟨by rw [HN.out]; rfl, by exact obB⟩

theorem c_name (o : Int) (w : World) (ho : o = 0 ∨ o = 1) : Calls Tryz.prog 56 #[.int .i64 o] w (Same (.string (str (ordL o))) w) := by
  rcases ho with rfl | rfl
  all_goals
    go_enter Tryz.func56, Tryz.ntmps56
    go_wp2
    go_ret
    exact ⟨rfl, rfl⟩

set_option linter.unusedSimpArgs false in
set_option maxRecDepth 100000 in
set_option maxHeartbeats 2000000 in
theorem c_sFormatSetting (o l m : Int) (w : World) : Calls Tryz.prog 30 #[.agg #[.int .i64 o, .int .i64 l, .int .i64 m]] w fun e w' => e = .returned (.string (fmtS o l m)) ∧ Below w.heap.size w w' := by
  cases h : setOk o l m with
  | false =>
    have HE := hid (show fmtS o l m = ByteArray.empty by rw [fmtS, h]; rfl)
    go_enter Tryz.func30, Tryz.ntmps30
    go_wp2_with (go_at_call 62; refine (c_sSettingValid _ _ _ _).mono ?_; rintro e w1 ⟨rfl, hb1⟩; have hc1 := bcell hb1; have hz1_0 : w.heap.size < w1.heap.size := (by have := hb1.size; first | omega | (simp at this; omega)))
    go_ret
    exact ⟨by rw [HE.out]; rfl, by exact obB⟩
  | true =>
    obtain ⟨s1, ⟨s2, s3⟩, s4, s5⟩ := setOk_iff.1 h
    have l1 : ∀ n : Int, 0 ≤ n → n ≤ 10 → (str (dec n)).size ≤ 2 := by
      intro n n0 n1
      rw [str_size]; exact decD_len 1 n.toNat (by simp; omega)
    have l2 : (str (ordL o)).size ≤ 4 := by rw [str_size]; unfold ordL; split <;> simp
    have HL := hid (l1 l (by omega) (by omega))
    have HM := hid (l1 m (by omega) (by omega))
    obtain ⟨L1, hL1⟩ : ∃ L1, L1 = str (dec l) := ⟨_, rfl⟩
    obtain ⟨M1, hM1⟩ : ∃ M1, M1 = str (dec m) := ⟨_, rfl⟩
    rw [← hL1] at HL
    rw [← hM1] at HM
    have D1 := hid (show ∀ w, Calls Tryz.prog 29 #[.int .i64 l] w fun e w' => e = .returned (.string L1) ∧ Below w.heap.size w w' by intro w; rw [hL1]; exact c_l9Dec l w (by omega) (by omega))
    have D2 := hid (show ∀ w, Calls Tryz.prog 29 #[.int .i64 m] w fun e w' => e = .returned (.string M1) ∧ Below w.heap.size w w' by intro w; rw [hM1]; exact c_l9Dec m w (by omega) (by omega))
    have V := hid (show ∀ w, Calls Tryz.prog 62 #[.agg #[.int .i64 o, .int .i64 l, .int .i64 m]] w fun e w' => e = .returned (.bool true) ∧ Below w.heap.size w w' by intro w; have := c_sSettingValid o l m w; rw [h] at this; exact this)
    have HF := hid (show fmtS o l m = str (ordL o ++ [32]) ++ L1 ++ str [32] ++ M1 by rw [fmtS, h, hL1, hM1, str_append, str_append, str_append]; simp [fmtL])
    obtain ⟨P1, hP1⟩ : ∃ P1, P1 = str (ordL o ++ [32]) := ⟨_, rfl⟩
    have hP1s : P1.size ≤ 5 := by rw [hP1, str_size, List.length_append]; rw [str_size] at l2; simp; omega
    have HP := hid hP1
    rw [← hP1] at HF
    have a1 : ∀ W, (Op.stringOp .add P1 L1).run Tryz.prog W = .ok (.string (P1 ++ L1)) W := fun W => run_string_add W _ _ (by omega) (by have := HL.out; omega)
    have a2 : ∀ W, (Op.stringOp .add (P1 ++ L1) ⟨#[32]⟩).run Tryz.prog W = .ok (.string (P1 ++ L1 ++ ⟨#[32]⟩)) W := fun W => run_string_add W _ _ (by rw [ByteArray.size_append]; have := HL.out; omega) (by decide)
    have a3 : ∀ W, (Op.stringOp .add (P1 ++ L1 ++ ⟨#[32]⟩) M1).run Tryz.prog W = .ok (.string (P1 ++ L1 ++ ⟨#[32]⟩ ++ M1)) W := fun W => run_string_add W _ _ (by rw [ByteArray.size_append, ByteArray.size_append]; have := HL.out; have e : (⟨#[32]⟩ : ByteArray).size = 1 := rfl; omega) (by have := HM.out; omega)
    clear hP1 hL1 hM1 l1 l2 h s2 s3 s4 s5
    have hp : (o = 1 ∧ P1 = ⟨#[104, 105, 103, 104, 32]⟩) ∨ (o = 0 ∧ P1 = ⟨#[108, 111, 119, 32]⟩) := by
      rcases s1 with rfl | rfl
      · exact .inr ⟨rfl, HP.out⟩
      · exact .inl ⟨rfl, HP.out⟩
    clear s1
    have k1 := Blk.new w 24 #[.int .i64 o, .int .i64 l, .int .i64 m]
    have c1 := bel_alloc (Below.refl w.heap.size w) (.cells #[.int .i64 o, .int .i64 l, .int .i64 m] 24)
    obtain ⟨N, hN⟩ : ∃ N, N = w.heap.size := ⟨_, rfl⟩
    go_enter Tryz.func30, Tryz.ntmps30
    go_wp2_with fail
    rw [← hN] at k1 ⊢
    refine (V.out _).mono ?_
    rintro e w2 ⟨rfl, hb2⟩
    have k2 := k1.on hb2
    have c2 := bel_trans c1 hb2
    obtain ⟨x2, y2, z2⟩ := k2.cells3
    clear hb2 c1 k1 hN
    rcases hp with ⟨ho, hP⟩ | ⟨ho, hP⟩
    · have e1 : (o == 1) = true := eq_yes ho
      have hP2 := hid hP
      rw [hP] at a1 a2 a3
      clear hP ho
      go_wp2_with fail
      refine wp_region_noPanic ?_
      refine wp_region_held_drew (S := (fun v : World => Blk v N 24 #[.int .i64 o, .int .i64 l, .int .i64 m] ∧ v.cell? ⟨N, 0, none⟩ = some (.int .i64 o) ∧ v.cell? ⟨N, 1, none⟩ = some (.int .i64 l) ∧ v.cell? ⟨N, 2, none⟩ = some (.int .i64 m) ∧ Below w.heap.size w v)) (by kernel_rfl) (sk_drew k2 c2) (fun hHeld => ?_)
      refine wpAnyH_take (i := 0) (oi := ?ao0) (v := ?av0) ?ai0 (by kernel_rfl) (by kernel_rfl) (by kernel_rfl) (fun _ _ _ h => h) ?ay0 (by assumption) ?ar0
      case ai0 => (simp only [List.getElem?_toArray, List.getElem?_cons_succ, List.getElem?_cons_zero]; rfl)
      case ay0 => exact Or.inl ⟨by rfl, by intro w hSw; (try dsimp only at hSw); go_simp; try with_reducible rfl⟩
      try simp only [Act.put, List.setIfInBounds_toArray, List.set_cons_zero, List.set_cons_succ]
      refine wpAnyH_take (i := 1) (oi := ?ao1) (v := ?av1) ?ai1 (by kernel_rfl) (by kernel_rfl) (by kernel_rfl) (fun _ _ _ h => h) ?ay1 (by assumption) ?ar1
      case ai1 => (simp only [List.getElem?_toArray, List.getElem?_cons_succ, List.getElem?_cons_zero]; rfl)
      case ay1 => exact Or.inl ⟨by rfl, by intro w hSw; (try dsimp only at hSw); go_simp; try with_reducible rfl⟩
      try simp only [Act.put, List.setIfInBounds_toArray, List.set_cons_zero, List.set_cons_succ]
      refine wpAnyH_take (i := 2) (oi := ?ao2) (v := ?av2) ?ai2 (by kernel_rfl) (by kernel_rfl) (by kernel_rfl) (fun _ _ _ h => h) ?ay2 (by assumption) ?ar2
      case ai2 => (simp only [List.getElem?_toArray, List.getElem?_cons_succ, List.getElem?_cons_zero]; rfl)
      case ay2 => exact Or.inl ⟨by rfl, by intro w hSw; (try dsimp only at hSw); go_simp; try with_reducible rfl⟩
      try simp only [Act.put, List.setIfInBounds_toArray, List.set_cons_zero, List.set_cons_succ]
      refine wpAnyH_take (i := 6) (oi := ?ao6) (v := ?av6) ?ai6 (by kernel_rfl) (by kernel_rfl) (by kernel_rfl) (fun _ _ _ h => h) ?ay6 (by assumption) ?ar6
      case ai6 => (simp only [List.getElem?_toArray, List.getElem?_cons_succ, List.getElem?_cons_zero]; rfl)
      case ay6 => exact Or.inl ⟨by rfl, by intro w hSw; (try dsimp only at hSw); go_simp; try with_reducible rfl⟩
      try simp only [Act.put, List.setIfInBounds_toArray, List.set_cons_zero, List.set_cons_succ]
      refine wpAnyH_take (i := 7) (oi := ?ao7) (v := ?av7) ?ai7 (by kernel_rfl) (by kernel_rfl) (by kernel_rfl) (fun _ _ _ h => h) ?ay7 (by assumption) ?ar7
      case ai7 => (simp only [List.getElem?_toArray, List.getElem?_cons_succ, List.getElem?_cons_zero]; rfl)
      case ay7 => exact Or.inl ⟨by rfl, by intro w hSw; (try dsimp only at hSw); go_simp; try with_reducible rfl⟩
      try simp only [Act.put, List.setIfInBounds_toArray, List.set_cons_zero, List.set_cons_succ]
      refine wpAnyH_ready (rs := [3]) (by kernel_rfl) (by simp) ?_
      refine AllReadyH.cons (o := ?ao3) ?ai3 (fun K hK => ?as3) AllReadyH.nil
      case ai3 => (simp only [List.getElem?_toArray, List.getElem?_cons_succ, List.getElem?_cons_zero]; rfl)
      go_simp
      go_at_call 29
      refine (D1.out _).mono ?_
      rintro e w6 ⟨rfl, hb6⟩
      go_wp2_with fail
      refine hK.out _ _ ?ak3 (fun hHeld => ?_)
      case ak3 => (try dsimp only); (first | assumption | exact sk_alloc (by assumption) _ | exact sk_bel (by assumption) (by assumption))
      clear hK K
      try simp only [Act.put, List.setIfInBounds_toArray, List.set_cons_zero, List.set_cons_succ]
      refine wpAnyH_take (i := 4) (oi := ?ao4) (v := ?av4) ?ai4 (by kernel_rfl) (by kernel_rfl) (by kernel_rfl) (fun _ _ _ h => h) ?ay4 (by assumption) ?ar4
      case ai4 => (simp only [List.getElem?_toArray, List.getElem?_cons_succ, List.getElem?_cons_zero]; rfl)
      case ay4 => exact Or.inl ⟨by rfl, by intro w hSw; (try dsimp only at hSw); go_simp; try with_reducible rfl⟩
      try simp only [Act.put, List.setIfInBounds_toArray, List.set_cons_zero, List.set_cons_succ]
      refine wpAnyH_take (i := 5) (oi := ?ao5) (v := ?av5) ?ai5 (by kernel_rfl) (by kernel_rfl) (by kernel_rfl) (fun _ _ _ h => h) ?ay5 (by assumption) ?ar5
      case ai5 => (simp only [List.getElem?_toArray, List.getElem?_cons_succ, List.getElem?_cons_zero]; rfl)
      case ay5 => exact Or.inl ⟨by rfl, by intro w hSw; (try dsimp only at hSw); go_simp; try with_reducible rfl⟩
      try simp only [Act.put, List.setIfInBounds_toArray, List.set_cons_zero, List.set_cons_succ]
      refine wpAnyH_ready (rs := [8]) (by kernel_rfl) (by simp) ?_
      refine AllReadyH.cons (o := ?ao8) ?ai8 (fun K hK => ?as8) AllReadyH.nil
      case ai8 => (simp only [List.getElem?_toArray, List.getElem?_cons_succ, List.getElem?_cons_zero]; rfl)
      go_simp
      go_at_call 29
      refine (D2.out _).mono ?_
      rintro e w7 ⟨rfl, hb7⟩
      go_wp2_with fail
      refine hK.out _ _ ?ak8 (fun hHeld => ?_)
      case ak8 => (try dsimp only); (first | assumption | exact sk_alloc (by assumption) _ | exact sk_bel (by assumption) (by assumption))
      clear hK K
      try simp only [Act.put, List.setIfInBounds_toArray, List.set_cons_zero, List.set_cons_succ]
      refine wpAnyH_take (i := 9) (oi := ?ao9) (v := ?av9) ?ai9 (by kernel_rfl) (by kernel_rfl) (by kernel_rfl) (fun _ _ _ h => h) ?ay9 (by assumption) ?ar9
      case ai9 => (simp only [List.getElem?_toArray, List.getElem?_cons_succ, List.getElem?_cons_zero]; rfl)
      case ay9 => exact Or.inl ⟨by rfl, by intro w hSw; (try dsimp only at hSw); go_simp; try with_reducible rfl⟩
      try simp only [Act.put, List.setIfInBounds_toArray, List.set_cons_zero, List.set_cons_succ]
      refine wpAnyH_take (i := 10) (oi := ?ao10) (v := ?av10) ?ai10 (by kernel_rfl) (by kernel_rfl) (by kernel_rfl) (fun _ _ _ h => h) ?ay10 (by assumption) ?ar10
      case ai10 => (simp only [List.getElem?_toArray, List.getElem?_cons_succ, List.getElem?_cons_zero]; rfl)
      case ay10 => exact Or.inl ⟨by rfl, by intro w hSw; (try dsimp only at hSw); go_simp; try with_reducible rfl⟩
      try simp only [Act.put, List.setIfInBounds_toArray, List.set_cons_zero, List.set_cons_succ]
      refine wpAnyH_done (by kernel_rfl) ?_ _
      refine NoPanic.normal ?_
      go_wp2
      go_ret
      exact ⟨by rw [HF.out, hP2.out]; rfl, sk_out (by assumption)⟩
    · have e1 : (o == 1) = false := eq_no (by omega)
      have hP2 := hid hP
      rw [hP] at a1 a2 a3
      clear hP ho
      go_wp2_with fail
      refine wp_region_noPanic ?_
      refine wp_region_held_drew (S := (fun v : World => Blk v N 24 #[.int .i64 o, .int .i64 l, .int .i64 m] ∧ v.cell? ⟨N, 0, none⟩ = some (.int .i64 o) ∧ v.cell? ⟨N, 1, none⟩ = some (.int .i64 l) ∧ v.cell? ⟨N, 2, none⟩ = some (.int .i64 m) ∧ Below w.heap.size w v)) (by kernel_rfl) (sk_drew k2 c2) (fun hHeld => ?_)
      refine wpAnyH_take (i := 0) (oi := ?bo0) (v := ?bv0) ?bi0 (by kernel_rfl) (by kernel_rfl) (by kernel_rfl) (fun _ _ _ h => h) ?by0 (by assumption) ?br0
      case bi0 => (simp only [List.getElem?_toArray, List.getElem?_cons_succ, List.getElem?_cons_zero]; rfl)
      case by0 => exact Or.inl ⟨by rfl, by intro w hSw; (try dsimp only at hSw); go_simp; try with_reducible rfl⟩
      try simp only [Act.put, List.setIfInBounds_toArray, List.set_cons_zero, List.set_cons_succ]
      refine wpAnyH_take (i := 1) (oi := ?bo1) (v := ?bv1) ?bi1 (by kernel_rfl) (by kernel_rfl) (by kernel_rfl) (fun _ _ _ h => h) ?by1 (by assumption) ?br1
      case bi1 => (simp only [List.getElem?_toArray, List.getElem?_cons_succ, List.getElem?_cons_zero]; rfl)
      case by1 => exact Or.inl ⟨by rfl, by intro w hSw; (try dsimp only at hSw); go_simp; try with_reducible rfl⟩
      try simp only [Act.put, List.setIfInBounds_toArray, List.set_cons_zero, List.set_cons_succ]
      refine wpAnyH_take (i := 2) (oi := ?bo2) (v := ?bv2) ?bi2 (by kernel_rfl) (by kernel_rfl) (by kernel_rfl) (fun _ _ _ h => h) ?by2 (by assumption) ?br2
      case bi2 => (simp only [List.getElem?_toArray, List.getElem?_cons_succ, List.getElem?_cons_zero]; rfl)
      case by2 => exact Or.inl ⟨by rfl, by intro w hSw; (try dsimp only at hSw); go_simp; try with_reducible rfl⟩
      try simp only [Act.put, List.setIfInBounds_toArray, List.set_cons_zero, List.set_cons_succ]
      refine wpAnyH_take (i := 6) (oi := ?bo6) (v := ?bv6) ?bi6 (by kernel_rfl) (by kernel_rfl) (by kernel_rfl) (fun _ _ _ h => h) ?by6 (by assumption) ?br6
      case bi6 => (simp only [List.getElem?_toArray, List.getElem?_cons_succ, List.getElem?_cons_zero]; rfl)
      case by6 => exact Or.inl ⟨by rfl, by intro w hSw; (try dsimp only at hSw); go_simp; try with_reducible rfl⟩
      try simp only [Act.put, List.setIfInBounds_toArray, List.set_cons_zero, List.set_cons_succ]
      refine wpAnyH_take (i := 7) (oi := ?bo7) (v := ?bv7) ?bi7 (by kernel_rfl) (by kernel_rfl) (by kernel_rfl) (fun _ _ _ h => h) ?by7 (by assumption) ?br7
      case bi7 => (simp only [List.getElem?_toArray, List.getElem?_cons_succ, List.getElem?_cons_zero]; rfl)
      case by7 => exact Or.inl ⟨by rfl, by intro w hSw; (try dsimp only at hSw); go_simp; try with_reducible rfl⟩
      try simp only [Act.put, List.setIfInBounds_toArray, List.set_cons_zero, List.set_cons_succ]
      refine wpAnyH_ready (rs := [3]) (by kernel_rfl) (by simp) ?_
      refine AllReadyH.cons (o := ?bo3) ?bi3 (fun K hK => ?bs3) AllReadyH.nil
      case bi3 => (simp only [List.getElem?_toArray, List.getElem?_cons_succ, List.getElem?_cons_zero]; rfl)
      go_simp
      go_at_call 29
      refine (D1.out _).mono ?_
      rintro e w6 ⟨rfl, hb6⟩
      go_wp2_with fail
      refine hK.out _ _ ?bk3 (fun hHeld => ?_)
      case bk3 => (try dsimp only); (first | assumption | exact sk_alloc (by assumption) _ | exact sk_bel (by assumption) (by assumption))
      clear hK K
      try simp only [Act.put, List.setIfInBounds_toArray, List.set_cons_zero, List.set_cons_succ]
      refine wpAnyH_take (i := 4) (oi := ?bo4) (v := ?bv4) ?bi4 (by kernel_rfl) (by kernel_rfl) (by kernel_rfl) (fun _ _ _ h => h) ?by4 (by assumption) ?br4
      case bi4 => (simp only [List.getElem?_toArray, List.getElem?_cons_succ, List.getElem?_cons_zero]; rfl)
      case by4 => exact Or.inl ⟨by rfl, by intro w hSw; (try dsimp only at hSw); go_simp; try with_reducible rfl⟩
      try simp only [Act.put, List.setIfInBounds_toArray, List.set_cons_zero, List.set_cons_succ]
      refine wpAnyH_take (i := 5) (oi := ?bo5) (v := ?bv5) ?bi5 (by kernel_rfl) (by kernel_rfl) (by kernel_rfl) (fun _ _ _ h => h) ?by5 (by assumption) ?br5
      case bi5 => (simp only [List.getElem?_toArray, List.getElem?_cons_succ, List.getElem?_cons_zero]; rfl)
      case by5 => exact Or.inl ⟨by rfl, by intro w hSw; (try dsimp only at hSw); go_simp; try with_reducible rfl⟩
      try simp only [Act.put, List.setIfInBounds_toArray, List.set_cons_zero, List.set_cons_succ]
      refine wpAnyH_ready (rs := [8]) (by kernel_rfl) (by simp) ?_
      refine AllReadyH.cons (o := ?bo8) ?bi8 (fun K hK => ?bs8) AllReadyH.nil
      case bi8 => (simp only [List.getElem?_toArray, List.getElem?_cons_succ, List.getElem?_cons_zero]; rfl)
      go_simp
      go_at_call 29
      refine (D2.out _).mono ?_
      rintro e w7 ⟨rfl, hb7⟩
      go_wp2_with fail
      refine hK.out _ _ ?bk8 (fun hHeld => ?_)
      case bk8 => (try dsimp only); (first | assumption | exact sk_alloc (by assumption) _ | exact sk_bel (by assumption) (by assumption))
      clear hK K
      try simp only [Act.put, List.setIfInBounds_toArray, List.set_cons_zero, List.set_cons_succ]
      refine wpAnyH_take (i := 9) (oi := ?bo9) (v := ?bv9) ?bi9 (by kernel_rfl) (by kernel_rfl) (by kernel_rfl) (fun _ _ _ h => h) ?by9 (by assumption) ?br9
      case bi9 => (simp only [List.getElem?_toArray, List.getElem?_cons_succ, List.getElem?_cons_zero]; rfl)
      case by9 => exact Or.inl ⟨by rfl, by intro w hSw; (try dsimp only at hSw); go_simp; try with_reducible rfl⟩
      try simp only [Act.put, List.setIfInBounds_toArray, List.set_cons_zero, List.set_cons_succ]
      refine wpAnyH_take (i := 10) (oi := ?bo10) (v := ?bv10) ?bi10 (by kernel_rfl) (by kernel_rfl) (by kernel_rfl) (fun _ _ _ h => h) ?by10 (by assumption) ?br10
      case bi10 => (simp only [List.getElem?_toArray, List.getElem?_cons_succ, List.getElem?_cons_zero]; rfl)
      case by10 => exact Or.inl ⟨by rfl, by intro w hSw; (try dsimp only at hSw); go_simp; try with_reducible rfl⟩
      try simp only [Act.put, List.setIfInBounds_toArray, List.set_cons_zero, List.set_cons_succ]
      refine wpAnyH_done (by kernel_rfl) ?_ _
      refine NoPanic.normal ?_
      go_wp2
      go_ret
      exact ⟨by rw [HF.out, hP2.out]; rfl, sk_out (by assumption)⟩

theorem c_itoa (n : Int) (w : World) (h0 : 0 ≤ n) (h1 : n ≤ 99) : Calls Tryz.prog 25 #[.int .i64 n] w (Same (.string (str (dec n))) w) := by
  obtain ⟨k, rfl⟩ := Int.eq_ofNat_of_zero_le h0
  exact (Tryz.strconv_Itoa_small k (by omega) w).mono (fun e w' ⟨he, hw⟩ => ⟨he, hw.symm⟩)

set_option linter.unusedSimpArgs false in
set_option maxRecDepth 100000 in
set_option maxHeartbeats 2000000 in
theorem c_FormatSetting (o l m : Int) (w : World) : Calls Tryz.prog 24 #[.agg #[.int .i64 o, .int .i64 l, .int .i64 m]] w fun e w' => e = .returned (.string (fmtS o l m)) ∧ Below w.heap.size w w' := by
  cases h : setOk o l m with
  | false =>
    have HE := hid (show fmtS o l m = ByteArray.empty by rw [fmtS, h]; rfl)
    go_enter Tryz.func24, Tryz.ntmps24
    go_wp2_with (go_at_call 32; refine (c_SettingValid _ _ _ _).mono ?_; rintro e w1 ⟨rfl, hb1⟩; have hc1 := bcell hb1; have hz1_0 : w.heap.size < w1.heap.size := (by have := hb1.size; first | omega | (simp at this; omega)))
    go_ret
    exact ⟨by rw [HE.out]; rfl, by exact obB⟩
  | true =>
    obtain ⟨s1, ⟨s2, s3⟩, s4, s5⟩ := setOk_iff.1 h
    have l1 : ∀ n : Int, 0 ≤ n → n ≤ 10 → (str (dec n)).size ≤ 2 := by
      intro n n0 n1
      rw [str_size]; exact decD_len 1 n.toNat (by simp; omega)
    have l2 : (str (ordL o)).size ≤ 4 := by rw [str_size]; unfold ordL; split <;> simp
    have HL := hid (l1 l (by omega) (by omega))
    have HM := hid (l1 m (by omega) (by omega))
    obtain ⟨L1, hL1⟩ : ∃ L1, L1 = str (dec l) := ⟨_, rfl⟩
    obtain ⟨M1, hM1⟩ : ∃ M1, M1 = str (dec m) := ⟨_, rfl⟩
    rw [← hL1] at HL
    rw [← hM1] at HM
    obtain ⟨O1, hO1⟩ : ∃ O1, O1 = str (ordL o) := ⟨_, rfl⟩
    rw [← hO1] at l2
    have D0 := hid (show ∀ w, Calls Tryz.prog 56 #[.int .i64 o] w (Same (.string O1) w) by intro w; rw [hO1]; exact c_name o w s1)
    have D1 := hid (show ∀ w, Calls Tryz.prog 25 #[.int .i64 l] w (Same (.string L1) w) by intro w; rw [hL1]; exact c_itoa l w (by omega) (by omega))
    have D2 := hid (show ∀ w, Calls Tryz.prog 25 #[.int .i64 m] w (Same (.string M1) w) by intro w; rw [hM1]; exact c_itoa m w (by omega) (by omega))
    have V := hid (show ∀ w, Calls Tryz.prog 32 #[.agg #[.int .i64 o, .int .i64 l, .int .i64 m]] w fun e w' => e = .returned (.bool true) ∧ Below w.heap.size w w' by intro w; have := c_SettingValid o l m w; rw [h] at this; exact this)
    have HF := hid (show fmtS o l m = O1 ++ str [32] ++ L1 ++ str [32] ++ M1 by rw [fmtS, h, hO1, hL1, hM1, str_append, str_append, str_append, str_append]; simp [fmtL])
    have e1 : (⟨#[32]⟩ : ByteArray).size = 1 := rfl
    have a0 : ∀ W, (Op.stringOp .add O1 ⟨#[32]⟩).run Tryz.prog W = .ok (.string (O1 ++ ⟨#[32]⟩)) W := fun W => run_string_add W _ _ (by omega) (by omega)
    have a1 : ∀ W, (Op.stringOp .add (O1 ++ ⟨#[32]⟩) L1).run Tryz.prog W = .ok (.string (O1 ++ ⟨#[32]⟩ ++ L1)) W := fun W => run_string_add W _ _ (by rw [ByteArray.size_append]; omega) (by have := HL.out; omega)
    have a2 : ∀ W, (Op.stringOp .add (O1 ++ ⟨#[32]⟩ ++ L1) ⟨#[32]⟩).run Tryz.prog W = .ok (.string (O1 ++ ⟨#[32]⟩ ++ L1 ++ ⟨#[32]⟩)) W := fun W => run_string_add W _ _ (by rw [ByteArray.size_append, ByteArray.size_append]; have := HL.out; omega) (by omega)
    have a3 : ∀ W, (Op.stringOp .add (O1 ++ ⟨#[32]⟩ ++ L1 ++ ⟨#[32]⟩) M1).run Tryz.prog W = .ok (.string (O1 ++ ⟨#[32]⟩ ++ L1 ++ ⟨#[32]⟩ ++ M1)) W := fun W => run_string_add W _ _ (by rw [ByteArray.size_append, ByteArray.size_append, ByteArray.size_append]; have := HL.out; omega) (by have := HM.out; omega)
    clear hO1 hL1 hM1 l1 l2 h s1 s2 s3 s4 s5
    have k1 := Blk.new w 24 #[.int .i64 o, .int .i64 l, .int .i64 m]
    have c1 := bel_alloc (Below.refl w.heap.size w) (.cells #[.int .i64 o, .int .i64 l, .int .i64 m] 24)
    obtain ⟨N, hN⟩ : ∃ N, N = w.heap.size := ⟨_, rfl⟩
    go_enter Tryz.func24, Tryz.ntmps24
    go_wp2_with fail
    rw [← hN] at k1 ⊢
    refine (V.out _).mono ?_
    rintro e w2 ⟨rfl, hb2⟩
    have k2 := k1.on hb2
    have c2 := bel_trans c1 hb2
    obtain ⟨x2, y2, z2⟩ := k2.cells3
    clear hb2 c1 k1 hN
    go_wp2_with fail
    refine wp_region_noPanic ?_
    refine wp_region_held_drew (S := (fun v : World => Blk v N 24 #[.int .i64 o, .int .i64 l, .int .i64 m] ∧ v.cell? ⟨N, 0, none⟩ = some (.int .i64 o) ∧ v.cell? ⟨N, 1, none⟩ = some (.int .i64 l) ∧ v.cell? ⟨N, 2, none⟩ = some (.int .i64 m) ∧ Below w.heap.size w v)) (by kernel_rfl) (sk_drew k2 c2) (fun hHeld => ?_)
    refine wpAnyH_take (i := 0) (oi := ?ao0) (v := ?av0) ?ai0 (by kernel_rfl) (by kernel_rfl) (by kernel_rfl) (fun _ _ _ h => h) ?ay0 (by assumption) ?ar0
    case ai0 => (simp only [List.getElem?_toArray, List.getElem?_cons_succ, List.getElem?_cons_zero]; rfl)
    case ay0 => exact Or.inl ⟨by rfl, by intro w hSw; (try dsimp only at hSw); go_simp; try with_reducible rfl⟩
    try simp only [Act.put, List.setIfInBounds_toArray, List.set_cons_zero, List.set_cons_succ]
    refine wpAnyH_take (i := 1) (oi := ?ao1) (v := ?av1) ?ai1 (by kernel_rfl) (by kernel_rfl) (by kernel_rfl) (fun _ _ _ h => h) ?ay1 (by assumption) ?ar1
    case ai1 => (simp only [List.getElem?_toArray, List.getElem?_cons_succ, List.getElem?_cons_zero]; rfl)
    case ay1 => exact Or.inl ⟨by rfl, by intro w hSw; (try dsimp only at hSw); go_simp; try with_reducible rfl⟩
    try simp only [Act.put, List.setIfInBounds_toArray, List.set_cons_zero, List.set_cons_succ]
    refine wpAnyH_take (i := 4) (oi := ?ao4) (v := ?av4) ?ai4 (by kernel_rfl) (by kernel_rfl) (by kernel_rfl) (fun _ _ _ h => h) ?ay4 (by assumption) ?ar4
    case ai4 => (simp only [List.getElem?_toArray, List.getElem?_cons_succ, List.getElem?_cons_zero]; rfl)
    case ay4 => exact Or.inl ⟨by rfl, by intro w hSw; (try dsimp only at hSw); go_simp; try with_reducible rfl⟩
    try simp only [Act.put, List.setIfInBounds_toArray, List.set_cons_zero, List.set_cons_succ]
    refine wpAnyH_take (i := 5) (oi := ?ao5) (v := ?av5) ?ai5 (by kernel_rfl) (by kernel_rfl) (by kernel_rfl) (fun _ _ _ h => h) ?ay5 (by assumption) ?ar5
    case ai5 => (simp only [List.getElem?_toArray, List.getElem?_cons_succ, List.getElem?_cons_zero]; rfl)
    case ay5 => exact Or.inl ⟨by rfl, by intro w hSw; (try dsimp only at hSw); go_simp; try with_reducible rfl⟩
    try simp only [Act.put, List.setIfInBounds_toArray, List.set_cons_zero, List.set_cons_succ]
    refine wpAnyH_take (i := 9) (oi := ?ao9) (v := ?av9) ?ai9 (by kernel_rfl) (by kernel_rfl) (by kernel_rfl) (fun _ _ _ h => h) ?ay9 (by assumption) ?ar9
    case ai9 => (simp only [List.getElem?_toArray, List.getElem?_cons_succ, List.getElem?_cons_zero]; rfl)
    case ay9 => exact Or.inl ⟨by rfl, by intro w hSw; (try dsimp only at hSw); go_simp; try with_reducible rfl⟩
    try simp only [Act.put, List.setIfInBounds_toArray, List.set_cons_zero, List.set_cons_succ]
    refine wpAnyH_take (i := 10) (oi := ?ao10) (v := ?av10) ?ai10 (by kernel_rfl) (by kernel_rfl) (by kernel_rfl) (fun _ _ _ h => h) ?ay10 (by assumption) ?ar10
    case ai10 => (simp only [List.getElem?_toArray, List.getElem?_cons_succ, List.getElem?_cons_zero]; rfl)
    case ay10 => exact Or.inl ⟨by rfl, by intro w hSw; (try dsimp only at hSw); go_simp; try with_reducible rfl⟩
    try simp only [Act.put, List.setIfInBounds_toArray, List.set_cons_zero, List.set_cons_succ]
    refine wpAnyH_ready (rs := [2]) (by kernel_rfl) (by simp) ?_
    refine AllReadyH.cons (o := ?ao2) ?ai2 (fun K hK => ?as2) AllReadyH.nil
    case ai2 => (simp only [List.getElem?_toArray, List.getElem?_cons_succ, List.getElem?_cons_zero]; rfl)
    go_simp
    go_at_call 56
    refine (D0.out _).mono ?_
    rintro e w' ⟨rfl, rfl⟩
    go_wp2_with fail
    refine hK.out _ _ ?ak2 (fun hHeld => ?_)
    case ak2 => (try dsimp only); (first | assumption | exact sk_alloc (by assumption) _ | exact sk_bel (by assumption) (by assumption))
    clear hK K
    try simp only [Act.put, List.setIfInBounds_toArray, List.set_cons_zero, List.set_cons_succ]
    refine wpAnyH_take (i := 3) (oi := ?ao3) (v := ?av3) ?ai3 (by kernel_rfl) (by kernel_rfl) (by kernel_rfl) (fun _ _ _ h => h) ?ay3 (by assumption) ?ar3
    case ai3 => (simp only [List.getElem?_toArray, List.getElem?_cons_succ, List.getElem?_cons_zero]; rfl)
    case ay3 => exact Or.inl ⟨by rfl, by intro w hSw; (try dsimp only at hSw); go_simp; try with_reducible rfl⟩
    try simp only [Act.put, List.setIfInBounds_toArray, List.set_cons_zero, List.set_cons_succ]
    refine wpAnyH_ready (rs := [6]) (by kernel_rfl) (by simp) ?_
    refine AllReadyH.cons (o := ?ao6) ?ai6 (fun K hK => ?as6) AllReadyH.nil
    case ai6 => (simp only [List.getElem?_toArray, List.getElem?_cons_succ, List.getElem?_cons_zero]; rfl)
    go_simp
    go_at_call 25
    refine (D1.out _).mono ?_
    rintro e w' ⟨rfl, rfl⟩
    go_wp2_with fail
    refine hK.out _ _ ?ak6 (fun hHeld => ?_)
    case ak6 => (try dsimp only); (first | assumption | exact sk_alloc (by assumption) _ | exact sk_bel (by assumption) (by assumption))
    clear hK K
    try simp only [Act.put, List.setIfInBounds_toArray, List.set_cons_zero, List.set_cons_succ]
    refine wpAnyH_take (i := 7) (oi := ?ao7) (v := ?av7) ?ai7 (by kernel_rfl) (by kernel_rfl) (by kernel_rfl) (fun _ _ _ h => h) ?ay7 (by assumption) ?ar7
    case ai7 => (simp only [List.getElem?_toArray, List.getElem?_cons_succ, List.getElem?_cons_zero]; rfl)
    case ay7 => exact Or.inl ⟨by rfl, by intro w hSw; (try dsimp only at hSw); go_simp; try with_reducible rfl⟩
    try simp only [Act.put, List.setIfInBounds_toArray, List.set_cons_zero, List.set_cons_succ]
    refine wpAnyH_take (i := 8) (oi := ?ao8) (v := ?av8) ?ai8 (by kernel_rfl) (by kernel_rfl) (by kernel_rfl) (fun _ _ _ h => h) ?ay8 (by assumption) ?ar8
    case ai8 => (simp only [List.getElem?_toArray, List.getElem?_cons_succ, List.getElem?_cons_zero]; rfl)
    case ay8 => exact Or.inl ⟨by rfl, by intro w hSw; (try dsimp only at hSw); go_simp; try with_reducible rfl⟩
    try simp only [Act.put, List.setIfInBounds_toArray, List.set_cons_zero, List.set_cons_succ]
    refine wpAnyH_ready (rs := [11]) (by kernel_rfl) (by simp) ?_
    refine AllReadyH.cons (o := ?ao11) ?ai11 (fun K hK => ?as11) AllReadyH.nil
    case ai11 => (simp only [List.getElem?_toArray, List.getElem?_cons_succ, List.getElem?_cons_zero]; rfl)
    go_simp
    go_at_call 25
    refine (D2.out _).mono ?_
    rintro e w' ⟨rfl, rfl⟩
    go_wp2_with fail
    refine hK.out _ _ ?ak11 (fun hHeld => ?_)
    case ak11 => (try dsimp only); (first | assumption | exact sk_alloc (by assumption) _ | exact sk_bel (by assumption) (by assumption))
    clear hK K
    try simp only [Act.put, List.setIfInBounds_toArray, List.set_cons_zero, List.set_cons_succ]
    refine wpAnyH_take (i := 12) (oi := ?ao12) (v := ?av12) ?ai12 (by kernel_rfl) (by kernel_rfl) (by kernel_rfl) (fun _ _ _ h => h) ?ay12 (by assumption) ?ar12
    case ai12 => (simp only [List.getElem?_toArray, List.getElem?_cons_succ, List.getElem?_cons_zero]; rfl)
    case ay12 => exact Or.inl ⟨by rfl, by intro w hSw; (try dsimp only at hSw); go_simp; try with_reducible rfl⟩
    try simp only [Act.put, List.setIfInBounds_toArray, List.set_cons_zero, List.set_cons_succ]
    refine wpAnyH_take (i := 13) (oi := ?ao13) (v := ?av13) ?ai13 (by kernel_rfl) (by kernel_rfl) (by kernel_rfl) (fun _ _ _ h => h) ?ay13 (by assumption) ?ar13
    case ai13 => (simp only [List.getElem?_toArray, List.getElem?_cons_succ, List.getElem?_cons_zero]; rfl)
    case ay13 => exact Or.inl ⟨by rfl, by intro w hSw; (try dsimp only at hSw); go_simp; try with_reducible rfl⟩
    try simp only [Act.put, List.setIfInBounds_toArray, List.set_cons_zero, List.set_cons_succ]
    refine wpAnyH_done (by kernel_rfl) ?_ _
    refine NoPanic.normal ?_
    go_wp2
    go_ret
    exact ⟨by rw [HF.out]; rfl, sk_out (by assumption)⟩
end Go.Proofs.YtmfnfheahehpcaaGreatDoor
