/- Contracts of FormatSetting in both programs. -/
import Derived.Test.YtaiemogcboidhaaGreatDoorBa
import Derived.Test.YtaiemogcboidhaaGreatDoorSk
import Derived.Test.YtaiemogcboidhaaGreatDoorShelf
import Derived.Deep.RegionHeld3
import Derived.Lib.ItoaNum
namespace Go.Proofs.YtaiemogcboidhaaGreatDoor
open Go.ChangeShapes Go.WideShapes Go.ChangeAt Go.RowKit Go.Joins
set_option linter.unusedVariables false

def dec (n : Int) : List UInt8 := Lib.decDigits n.toNat
def ordL (o : Int) : List UInt8 := if o = 1 then [104, 105, 103, 104] else [108, 111, 119]
def fmtL (o l m : Int) : List UInt8 := ordL o ++ [32] ++ dec l ++ [32] ++ dec m
def fmtS (o l m : Int) : ByteArray := if setOk o l m = true then str (fmtL o l m) else ByteArray.empty

theorem decD_small {u : Nat} (h : u < 10) : Lib.decDigits u = [UInt8.ofNat (48 + u)] := by rw [Lib.decDigits, dif_pos h]
theorem decD_big {u : Nat} (h : 10 ≤ u) : Lib.decDigits u = Lib.decDigits (u / 10) ++ [UInt8.ofNat (48 + u % 10)] := by rw [Lib.decDigits, dif_neg (by omega)]
theorem decD_len (k : Nat) : ∀ u, u < 10 ^ (k + 1) → (Lib.decDigits u).length ≤ k + 1 := by
  induction k with
  | zero => intro u h; rw [decD_small (by simpa using h)]; simp
  | succ k ih =>
    intro u h
    by_cases h10 : u < 10
    · rw [decD_small h10]; simp
    · rw [decD_big (by omega), List.length_append]
      have := ih (u / 10) (by rw [Nat.pow_succ] at h; omega)
      simp; omega

theorem Tryz.info_u8e : (Tryz.prog.info? 5).map (fun i => (i.zero, i.size, i.bytes)) = some (some (.int .u8 0), 1, 1) := by kernel_rfl

set_option maxRecDepth 100000 in
set_option maxHeartbeats 1000000 in
theorem c_l9Dec (n : Int) (w : World) (h0 : 0 ≤ n) (h1 : n ≤ 1000000000000000000) : Calls Tryz.prog 21 #[.int .i64 n] w fun e w' => e = .returned (.string (str (dec n))) ∧ Below w.heap.size w w' := by
  have hlen := decD_len 18 n.toNat (by simp; omega)
  go_enter Tryz.func21, Tryz.ntmps21
  go_wp2_with fail
  go_loopw [0, 3] (fun nv sv wr => ∃ (x : Nat) (r : List UInt8), nv = .int .i64 x ∧ sv = .string (str r) ∧ Hid (Lib.decDigits x ++ r = dec n) ∧ x ≤ 1000000000000000000 ∧ Below w.heap.size w wr) (fun nv _ _ => (intOf nv).toNat)
  case atStart => exact ⟨n.toNat, [], by rw [Int.toNat_of_nonneg h0], rfl, hid (by rw [List.append_nil]; rfl), by omega, by exact obB⟩
  case round =>
    obtain ⟨x, r, rfl, rfl, HX, hx, cr⟩ := hrel
    have hr : (str r).size ≤ 20 := by
      have := congrArg List.length HX.out
      rw [List.length_append] at this
      rw [str_size]; unfold dec at this; omega
    obtain ⟨R, hR⟩ : ∃ R, R = str r := ⟨_, rfl⟩
    rw [← hR] at hr ⊢
    have HR := hid hR
    clear hR
    by_cases h9 : 9 < x
    · have hd : (48 + (x : Int) % 10) = ((UInt8.ofNat (48 + x % 10)).toNat : Int) := by rw [UInt8.toNat_ofNat']; omega
      have hm : 0 ≤ (x : Int) % 10 ∧ (x : Int) % 10 ≤ 9 := by omega
      have hcv := run_one (P := Tryz.prog) (w := wr) Tryz.underlying22 Tryz.underlying5 Tryz.underlying9 hd
      obtain ⟨c, hc⟩ : ∃ c, c = UInt8.ofNat (48 + x % 10) := ⟨_, rfl⟩
      rw [← hc] at hcv
      obtain ⟨D, hD⟩ : ∃ D, D = str [c] := ⟨_, rfl⟩
      have hDs : D.size ≤ 1 := by rw [hD, str_size]; simp
      rw [← hD] at hcv
      have HN := hid (show D ++ R = str (c :: r) by rw [hD, HR.out, str_append]; rfl)
      have HY := hid (show Lib.decDigits (x / 10) ++ (c :: r) = dec n by rw [← HX.out, decD_big (u := x) (by omega), hc, List.append_assoc]; rfl)
      clear hD hc hd
      go_wp2
      go_roundw
      case rel => exact ⟨x / 10, c :: r, by go_num, by rw [HN.out], HY, by omega, by exact obB⟩
      case measure => simp [intOf]; omega
    · have hd : (48 + (x : Int)) = ((UInt8.ofNat (48 + x)).toNat : Int) := by rw [UInt8.toNat_ofNat']; omega
      have hcv := run_one (P := Tryz.prog) (w := wr) Tryz.underlying22 Tryz.underlying5 Tryz.underlying9 hd
      obtain ⟨c, hc⟩ : ∃ c, c = UInt8.ofNat (48 + x) := ⟨_, rfl⟩
      rw [← hc] at hcv
      obtain ⟨D, hD⟩ : ∃ D, D = str [c] := ⟨_, rfl⟩
      have hDs : D.size ≤ 1 := by rw [hD, str_size]; simp
      rw [← hD] at hcv
      have HN := hid (show D ++ R = str (dec n) by rw [hD, HR.out, str_append, ← HX.out, decD_small (by omega), hc])
      clear hD hc hd
      go_wp2
      go_ret
      exact ⟨by rw [HN.out]; rfl, by exact obB⟩

theorem c_itoa (n : Int) (w : World) (h0 : 0 ≤ n) (h1 : n ≤ 99) : Calls Tryz.prog 47 #[.int .i64 n] w (Same (.string (str (dec n))) w) := by
  obtain ⟨k, rfl⟩ := Int.eq_ofNat_of_zero_le h0
  exact (Tryz.strconv_Itoa_small k (by omega) w).mono (fun e w' ⟨he, hw⟩ => ⟨he, hw.symm⟩)
end Go.Proofs.YtaiemogcboidhaaGreatDoor
