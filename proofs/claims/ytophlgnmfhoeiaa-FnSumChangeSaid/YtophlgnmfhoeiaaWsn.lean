/- The walk of the law on a changed byte. -/
import Derived.Test.YtophlgnmfhoeiaaWsm
namespace Go.Proofs.Ytophlgnmfhoeiaa
open Go.ChangeShapes Go.WideShapes Go.ChangeAt Go.RowKit Go.Joins
set_option linter.unusedVariables false

theorem run_byte_at {W : World} {g : Nat} {X : Int} {c : UInt8} (h : W.cell? ⟨g, 0, none⟩ = some (.int .u8 X)) (hX : X = (c.toNat : Int)) : (convert 22 9 (.slice (some ⟨g, 0, none⟩) 1 1)).run Try.prog W = .ok (.string (str [c])) W := by
  refine run_convert_bytes_back (l := [c]) _ _ _ 5 ⟨g, 0, none⟩ 1 Try.underlying22 Try.underlying5 Try.underlying9 ?_
  intro j hj
  have : j = 0 := by simpa using hj
  subst this
  rw [hX] at h
  exact h
/-- a byte that is changed -/
theorem changed (D : ByteArray) (i : Nat) (h : i < D.size) (X : UInt8) : M.ck ((D.extract 0 i ++ str [X]) ++ D.extract (i + 1) D.size).data.toList = M.ck D.data.toList ↔ (X.toNat : Int) % 255 = ((D[i]).toNat : Int) % 255 := by
  have e2 : ((D.extract 0 i ++ str [X]) ++ D.extract (i + 1) D.size).data.toList = D.data.toList.take i ++ [X] ++ D.data.toList.drop (i + 1) := by
    rw [app_list, app_list, Lib.extract_data, Lib.extract_data, str_list, List.take_of_length_le (l := List.drop (i + 1) D.data.toList) (by simp)]
    simp
  rw [e2]
  conv => lhs; rhs; rw [split_at D i h]
  exact M.ck_set _ _ _ _

set_option maxHeartbeats 4000000 in
set_option maxRecDepth 100000 in
theorem walk_FnSumChange (A1 : Option Addr) (n1 cap1 : Nat) (A2 : Option Addr) (n2 cap2 : Nat) (w : World) (hc : CodeAt w w.heap.size A1 n1 cap1) (hc2 : CodeAt w w.heap.size A2 n2 cap2) : Calls Try.prog 15 #[.slice A1 n1 cap1, .slice A2 n2 cap2] w fun e w' => e = .returned (.bool true) ∧ Below w.heap.size w w' := by
  have h1 := hc.1
  have h2 := hc.2.1
  have h3 := hc2.1
  have h4 := hc2.2.1
  unfold maxLen at h2 h4
  by_cases big : 1048576 < n1
  · go_enter Try.func15, Try.ntmps15
    go_wp2_with fail
    go_ret
    exact ⟨rfl, by (repeat (first | with_reducible (first | assumption | exact Below.refl _ _ | refine bel_alloc ?_ _ | refine bel_drew ?_ | refine bel_drewN ?_ _ | refine bel_set ?_ (by first | omega | (simp; done) | (simp; omega)) _ | refine bel_trans ?_ (by assumption)) | assumption | refine bel_trans ?_ (by assumption)))⟩
  by_cases big2 : 1048576 < n2
  · go_enter Try.func15, Try.ntmps15
    go_wp2_with fail
    go_ret
    exact ⟨rfl, by (repeat (first | with_reducible (first | assumption | exact Below.refl _ _ | refine bel_alloc ?_ _ | refine bel_drew ?_ | refine bel_drewN ?_ _ | refine bel_set ?_ (by first | omega | (simp; done) | (simp; omega)) _ | refine bel_trans ?_ (by assumption)) | assumption | refine bel_trans ?_ (by assumption)))⟩
  go_enter Try.func15, Try.ntmps15
  go_wp2_with fail
  refine (c_DrawSumOf _ _ _ _ hc).mono ?_
  rintro e w1 ⟨D, rfl, hD, b1⟩
  clear hc hc2 h1 h2
  have HI := hid (fun (v : World) => c_SumOf D v (by unfold maxLen; omega))
  have HS := hid (fun (v : World) => c_sSumOf D v (by unfold maxLen; omega))
  obtain ⟨K, hK⟩ : ∃ K, K = M.ck D.data.toList := ⟨_, rfl⟩
  have hKl : K ≤ 65535 := by rw [hK]; exact M.ck_le _
  rw [← hK] at HI HS
  have HK := hid hK
  clear hK
  go_wp2_with fail
  refine (HI.out _).mono ?_
  rintro e w2 ⟨rfl, rfl⟩
  go_wp2_with fail
  refine (HS.out _).mono ?_
  rintro e w2 ⟨rfl, rfl⟩
  go_wp2_with fail
  obtain ⟨S0, hS0⟩ : ∃ S0, S0 = str [0] := ⟨_, rfl⟩
  have hS0z : S0.size = 1 := by rw [hS0, str_size]; rfl
  obtain ⟨z, hz⟩ : ∃ z, z = M.ck (D ++ S0).data.toList := ⟨_, rfl⟩
  have HZ := hid (show ∀ v : World, Calls Try.prog 67 #[.string (D ++ S0)] v (Same (.int .i64 z) v) by
    intro v; rw [hz]
    exact c_SumOf _ v (by rw [ByteArray.size_append]; unfold maxLen; omega))
  have HQ := hid (show z = K ↔ K % 256 = 0 by rw [hz, HK.out, hS0, app_list, str_list]; exact M.ck_zero _)
  clear hz
  go_loopw [7] (fun i wr => ∃ j : Nat, i = .int .i64 (j : Int) ∧ j ≤ D.size ∧ Below w.heap.size w wr) (fun i _ => (D.size + 1 - (intOf i).toNat))
  case atStart => exact ⟨0, rfl, by omega, by (repeat (first | with_reducible (first | assumption | exact Below.refl _ _ | refine bel_alloc ?_ _ | refine bel_drew ?_ | refine bel_drewN ?_ _ | refine bel_set ?_ (by first | omega | (simp; done) | (simp; omega)) _ | refine bel_trans ?_ (by assumption)) | assumption | refine bel_trans ?_ (by assumption)))⟩
  case round =>
    obtain ⟨j, rfl, hj, hbel⟩ := hrel
    by_cases hlt : j < D.size
    · have hb1 := byte_le D j hlt
      obtain ⟨bb, hbb⟩ : ∃ bb : Nat, bb = ((D[j]).toNat + 1 + n2 % 254) % 256 := ⟨_, rfl⟩
      have hbl : bb ≤ 255 := by omega
      obtain ⟨X, hX⟩ : ∃ X : UInt8, X = UInt8.ofNat bb := ⟨_, rfl⟩
      have hXn : X.toNat = bb := by rw [hX, UInt8.toNat_ofNat']; omega
      obtain ⟨t, ht⟩ : ∃ t, t = M.ck ((D.extract 0 j ++ str [X]) ++ D.extract (j + 1) D.size).data.toList := ⟨_, rfl⟩
      have HE := hid (show t = K ↔ (bb : Int) % 255 = ((D[j]).toNat : Int) % 255 by
        rw [ht, HK.out, ← hXn]; exact changed D j hlt X)
      have HT := hid (show ∀ v : World, Calls Try.prog 67 #[.string ((D.extract 0 j ++ str [X]) ++ D.extract (j + 1) D.size)] v (Same (.int .i64 t) v) by
        intro v; rw [ht]
        exact c_SumOf _ v (by
          have z1 := ByteArray.size_extract (a := D) (b := 0) (e := j)
          have z4 := ByteArray.size_extract (a := D) (b := j + 1) (e := D.size)
          rw [ByteArray.size_append, ByteArray.size_append, str_size]
          unfold maxLen; simp; omega))
      clear ht
      have hx2 := index_str (P := Try.prog) Try.underlying9 D j (by omega) .i64 (j : Int) rfl
      obtain ⟨c, hc⟩ : ∃ c : Nat, c = (D[j]).toNat := ⟨_, rfl⟩
      rw [← hc] at hx2 hb1 HE hbb
      have eb : ((c : Int) + 1 + (n2 : Int) % 254) % 256 = (bb : Int) := by omega
      have HX := hid hXn
      clear hc hX hXn hbb
      obtain ⟨S1, hS1⟩ : ∃ S1, S1 = str [X] := ⟨_, rfl⟩
      rw [← hS1] at HT
      have hS1z : S1.size = 1 := by rw [hS1, str_size]; rfl
      have hrn := run_byte_at (W := (wr.alloc (.cells #[.int .u8 (bb : Int)] 5)).drew) (g := wr.heap.size) (X := (bb : Int)) (c := X) (one_new wr _ _ 0 _ rfl) (by rw [HX.out])
      rw [← hS1] at hrn
      clear hS1
      have z1 : (D.extract 0 j).size ≤ 30 := by have := ByteArray.size_extract (a := D) (b := 0) (e := j); omega
      have z2 : (D.extract (j + 1) D.size).size ≤ 30 := by have := ByteArray.size_extract (a := D) (b := j + 1) (e := D.size); omega
      have z3 : (D.extract 0 j ++ S1).size ≤ 31 := by rw [ByteArray.size_append]; omega
      have ha1 : ∀ W, (Op.stringOp .add (D.extract 0 j) S1).run Try.prog W = .ok (.string (D.extract 0 j ++ S1)) W := fun W => run_string_add W _ _ (by omega) (by omega)
      have ha2 : ∀ W, (Op.stringOp .add (D.extract 0 j ++ S1) (D.extract (j + 1) D.size)).run Try.prog W = .ok (.string (D.extract 0 j ++ S1 ++ D.extract (j + 1) D.size)) W := fun W => run_string_add W _ _ (by omega) (by omega)
      go_wp2_with fail
      go_region
      clear hrn ha1 ha2
      have hE := HE.out
      rw [← tmod_iff] at hE
      obtain ⟨B, hB⟩ : ∃ B : Bool, (((bb : Int) - (c : Int)).tmod 255 == 0) = B := ⟨_, rfl⟩
      have eB : (((((c : Int) + 1 + (n2 : Int) % 254) % 256) - (c : Int)).tmod 255 == 0) = B := by rw [eb]; exact hB
      have eT : ((t : Int) == (K : Int)) = B := by
        rw [← hB, Bool.eq_iff_iff, beq_iff_eq, beq_iff_eq, ← hE]; omega
      have ew1 : IntKind.i64.wrap (((c : Int) + 1 + (n2 : Int) % 254) % 256) = ((c : Int) + 1 + (n2 : Int) % 254) % 256 := IntWalk.i64_in _ (by omega)
      have ew2 : IntKind.i64.wrap (c : Int) = (c : Int) := IntWalk.i64_in _ (by omega)
      have ew3 : IntKind.i64.wrap (((c : Int) + 1 + (n2 : Int) % 254) % 256 - (c : Int)) = ((c : Int) + 1 + (n2 : Int) % 254) % 256 - (c : Int) := IntWalk.i64_in _ (by omega)
      clear hE
      clear eb
      cases B
      all_goals
       go_wp2_with fail
       go_region_with (go_at_call 67; refine (HT.out _).mono ?_; rintro e w3 ⟨rfl, rfl⟩)
       all_goals
        go_wp2
        go_roundw
        case rel => exact ⟨j + 1, by go_num, by omega, by (repeat (first | with_reducible (first | assumption | exact Below.refl _ _ | refine bel_alloc ?_ _ | refine bel_drew ?_ | refine bel_drewN ?_ _ | refine bel_set ?_ (by first | omega | (simp; done) | (simp; omega)) _ | refine bel_trans ?_ (by assumption)) | assumption | refine bel_trans ?_ (by assumption)))⟩
        case measure => simp [intOf]; omega
    · have hrn := run_one (P := Try.prog) (w := wr) (e := 5) (src := 22) (dst := 9) Try.underlying22 Try.underlying5 Try.underlying9 (X := 0) (c := 0) rfl
      rw [← hS0] at hrn
      clear hS0
      have ha0 : ∀ W, (Op.stringOp .add D S0).run Try.prog W = .ok (.string (D ++ S0)) W := fun W => run_string_add W _ _ (by omega) (by omega)
      have hsz : ¬ 9223372036854775807 < D.size + S0.size := by omega
      go_wp2_with fail
      refine (HZ.out _).mono ?_
      rintro e w3 ⟨rfl, rfl⟩
      have hQ := HQ.out
      by_cases hk0 : K % 256 = 0
      · have eT : ((z : Int) == (K : Int)) = true := eq_yes (by have := hQ.2 hk0; omega)
        go_wp2
        go_ret
        exact ⟨rfl, by (repeat (first | with_reducible (first | assumption | exact Below.refl _ _ | refine bel_alloc ?_ _ | refine bel_drew ?_ | refine bel_drewN ?_ _ | refine bel_set ?_ (by first | omega | (simp; done) | (simp; omega)) _ | refine bel_trans ?_ (by assumption)) | assumption | refine bel_trans ?_ (by assumption)))⟩
      · have eK : ((K : Int) % 256 != 0) = true := ne_yes (by omega)
        go_wp2
        go_ret
        exact ⟨ret_bool (by simp), by (repeat (first | with_reducible (first | assumption | exact Below.refl _ _ | refine bel_alloc ?_ _ | refine bel_drew ?_ | refine bel_drewN ?_ _ | refine bel_set ?_ (by first | omega | (simp; done) | (simp; omega)) _ | refine bel_trans ?_ (by assumption)) | assumption | refine bel_trans ?_ (by assumption)))⟩
end Go.Proofs.Ytophlgnmfhoeiaa
