/- The walks of the laws on checksums. -/
import Derived.Test.YtophlgnmfhoeiaaSc
import Derived.Test.YtophlgnmfhoeiaaDraw3
namespace Go.Proofs.Ytophlgnmfhoeiaa
open Go.ChangeShapes Go.WideShapes Go.ChangeAt Go.RowKit Go.Joins
set_option linter.unusedVariables false

def ASum (w : World) (m : Nat) (e : Ending) (w' : World) : Prop := ∃ s : ByteArray, e = .returned (.string s) ∧ s.size ≤ m ∧ Below w.heap.size w w'
theorem c_DrawSumOf (A' : Option Addr) (n cap : Nat) (w : World) (hc : CodeAt w w.heap.size A' n cap) : Calls Try.prog 66 #[.slice A' n cap] w (ASum w 30) := by
  go_enter Try.func66, Try.ntmps66
  go_wp2_with fail
  refine (c_l9Open _ _ _ _ _ hc (Nat.le_refl _)).mono ?_
  rintro e w1 ⟨rfl, hr1, hb1, hz1⟩
  go_wp2_with fail
  refine (c_l1Bytes _ _ 0 30 _ hr1 (by omega) (by decide)).mono ?_
  rintro e w2 ⟨l, rfl, hl, hr2, hg2⟩
  go_wp2
  go_ret
  exact ⟨str l, rfl, by rw [str_size]; exact hl, bel_grown hb1 hg2 (Nat.le_refl _)⟩

theorem split_at (D : ByteArray) (i : Nat) (h : i < D.size) : D.data.toList = D.data.toList.take i ++ [D[i]] ++ D.data.toList.drop (i + 1) := by
  rw [← take_snoc D i h, List.take_append_drop]
theorem drop_at (D : ByteArray) (i : Nat) (h : i < D.size) : (D.data.toList.drop i).take 1 = [D[i]] := by
  rw [List.drop_eq_getElem_cons (by simpa using h)]; rfl
theorem app_list (a b : ByteArray) : (a ++ b).data.toList = a.data.toList ++ b.data.toList := by simp
theorem index_str {P : Program} {t : TypeId} (ht : P.underlying t = some .string) (s : ByteArray) (n : Nat) (h : n < s.size) (k : IntKind) (X : Int) (hX : X = (n : Int)) (w : World) :
    (Instr.index t (.string s) (.int k X)).run P w = .ok (.int .u8 ((s[n]).toNat : Int)) w := by
  subst hX
  have e := run_index_string (P := P) (w := w) t s k (n : Int) ht
  rw [dif_pos (by omega)] at e
  exact e
theorem tmod_iff (c d : Nat) : ((c : Int) - (d : Int)).tmod 255 = 0 ↔ (c : Int) % 255 = (d : Int) % 255 := by
  constructor
  · intro h
    have := Int.dvd_of_tmod_eq_zero h
    omega
  · intro h
    exact Int.tmod_eq_zero_of_dvd (by omega)
/-- two neighbors exchanged -/
theorem swapped (D : ByteArray) (i : Nat) (h0 : 0 < i) (h : i < D.size) : M.ck ((((D.extract 0 (i - 1) ++ D.extract i (i + 1)) ++ D.extract (i - 1) i) ++ D.extract (i + 1) D.size).data.toList) = M.ck D.data.toList ↔ ((D[i]).toNat : Int) % 255 = ((D[i - 1]).toNat : Int) % 255 := by
  have e : D.data.toList = D.data.toList.take (i - 1) ++ [D[i - 1], D[i]] ++ D.data.toList.drop (i + 1) := by
    conv => lhs; rw [split_at D i h]
    congr 1
    have := take_snoc D (i - 1) (by omega)
    rw [show i - 1 + 1 = i from by omega] at this
    rw [this]; simp
  have e2 : ((((D.extract 0 (i - 1) ++ D.extract i (i + 1)) ++ D.extract (i - 1) i) ++ D.extract (i + 1) D.size).data.toList) = D.data.toList.take (i - 1) ++ [D[i], D[i - 1]] ++ D.data.toList.drop (i + 1) := by
    rw [app_list, app_list, app_list, Lib.extract_data, Lib.extract_data, Lib.extract_data, Lib.extract_data]
    rw [show i + 1 - i = 1 from by omega, show i - (i - 1) = 1 from by omega, drop_at D i h, drop_at D (i - 1) (by omega)]
    rw [List.take_of_length_le (l := List.drop (i + 1) D.data.toList) (by simp)]
    simp
  rw [e2]
  conv => lhs; rhs; rw [e]
  exact M.ck_swap _ _ _ _

set_option maxHeartbeats 4000000 in
set_option maxRecDepth 100000 in
theorem walk_FnSumCut (A1 : Option Addr) (n1 cap1 : Nat) (A2 : Option Addr) (n2 cap2 : Nat) (w : World) (hc : CodeAt w w.heap.size A1 n1 cap1) (hc2 : CodeAt w w.heap.size A2 n2 cap2) : Calls Try.prog 14 #[.slice A1 n1 cap1, .slice A2 n2 cap2] w fun e w' => e = .returned (.bool true) ∧ Below w.heap.size w w' := by
  have h1 := hc.1
  have h2 := hc.2.1
  have h3 := hc2.1
  have h4 := hc2.2.1
  unfold maxLen at h2 h4
  by_cases big : 1048576 < n1
  · go_enter Try.func14, Try.ntmps14
    go_wp2_with fail
    go_ret
    exact ⟨rfl, by (repeat (first | with_reducible (first | assumption | exact Below.refl _ _ | refine bel_alloc ?_ _ | refine bel_drew ?_ | refine bel_drewN ?_ _ | refine bel_set ?_ (by first | omega | (simp; done) | (simp; omega)) _ | refine bel_trans ?_ (by assumption)) | assumption | refine bel_trans ?_ (by assumption)))⟩
  by_cases big2 : 1048576 < n2
  · go_enter Try.func14, Try.ntmps14
    go_wp2_with fail
    go_ret
    exact ⟨rfl, by (repeat (first | with_reducible (first | assumption | exact Below.refl _ _ | refine bel_alloc ?_ _ | refine bel_drew ?_ | refine bel_drewN ?_ _ | refine bel_set ?_ (by first | omega | (simp; done) | (simp; omega)) _ | refine bel_trans ?_ (by assumption)) | assumption | refine bel_trans ?_ (by assumption)))⟩
  go_enter Try.func14, Try.ntmps14
  go_wp2_with fail
  refine (c_DrawSumOf _ _ _ _ hc).mono ?_
  rintro e w1 ⟨D, rfl, hD, b1⟩
  clear hc hc2 h1 h2
  have HI := hid (fun (v : World) => c_SumOf D v (by unfold maxLen; omega))
  have HS := hid (fun (v : World) => c_sSumOf D v (by unfold maxLen; omega))
  obtain ⟨K, hK⟩ : ∃ K, K = M.ck D.data.toList := ⟨_, rfl⟩
  have hKl : K ≤ 65535 := by rw [hK]; exact M.ck_le _
  rw [← hK] at HI HS
  have HK := hid hK
  clear hK
  go_wp2_with fail
  refine (HI.out _).mono ?_
  rintro e w2 ⟨rfl, rfl⟩
  go_wp2_with fail
  refine (HS.out _).mono ?_
  rintro e w2 ⟨rfl, rfl⟩
  go_wp2_with fail
  obtain ⟨m, hm⟩ : ∃ m : Nat, m = n2 % (D.size + 1) := ⟨_, rfl⟩
  have hmd : m ≤ D.size := by have := Nat.mod_lt n2 (show 0 < D.size + 1 by omega); omega
  have em : (n2 : Int) % ((D.size : Int) + 1) = (m : Int) := by rw [hm]; push_cast; rfl
  clear hm
  obtain ⟨q, hq⟩ : ∃ q : Nat, q = D.size - m := ⟨_, rfl⟩
  have eq1 : (D.size : Int) - (m : Int) = (q : Int) := by omega
  have hqb : q ≤ 30 := by omega
  obtain ⟨a, ha⟩ : ∃ a, a = M.ck (D.extract 0 m).data.toList := ⟨_, rfl⟩
  obtain ⟨b, hb⟩ : ∃ b, b = M.ck (D.extract m D.size).data.toList := ⟨_, rfl⟩
  have hal : a ≤ 65535 := by rw [ha]; exact M.ck_le _
  have hbl : b ≤ 65535 := by rw [hb]; exact M.ck_le _
  obtain ⟨P, hP⟩ : ∃ P : Nat, P = a % 256 * q := ⟨_, rfl⟩
  have hPl : P ≤ 7650 := by rw [hP]; exact Nat.mul_le_mul (show a % 256 ≤ 255 by omega) hqb
  have eP : (a : Int) % 256 * (q : Int) = (P : Int) := by rw [hP]; push_cast; rfl
  have HF := hid (show K = 256 * ((a / 256 + P + b / 256) % 255) + (a % 256 + b % 256) % 255 by
    have e : D.data.toList = (D.extract 0 m).data.toList ++ (D.extract m D.size).data.toList := by
      rw [Lib.extract_data, Lib.extract_data, Nat.sub_zero, List.drop_zero, List.take_of_length_le (l := List.drop m D.data.toList) (by simp), List.take_append_drop]
    have := M.ck_app (D.extract 0 m).data.toList (D.extract m D.size).data.toList
    rw [← e, ← ha, ← hb, ← HK.out, Lib.extract_data, List.length_take, List.length_drop, len_toList, Nat.min_self, ← hq, ← hP] at this
    exact this)
  have HA := hid (show ∀ v : World, Calls Try.prog 67 #[.string (D.extract 0 m)] v (Same (.int .i64 a) v) by
    intro v; rw [ha]
    exact c_SumOf (D.extract 0 m) v (by have := ByteArray.size_extract (a := D) (b := 0) (e := m); unfold maxLen; omega))
  have HB := hid (show ∀ v : World, Calls Try.prog 67 #[.string (D.extract m D.size)] v (Same (.int .i64 b) v) by
    intro v; rw [hb]
    exact c_SumOf (D.extract m D.size) v (by have := ByteArray.size_extract (a := D) (b := m) (e := D.size); unfold maxLen; omega))
  clear ha hb hP hq
  go_loopw [7] (fun i wr => ∃ j : Nat, i = .int .i64 ((j : Int) + 1) ∧ j ≤ D.size ∧ Below w.heap.size w wr) (fun i _ => (D.size + 1 - (intOf i).toNat))
  case atStart => exact ⟨0, rfl, by omega, by (repeat (first | with_reducible (first | assumption | exact Below.refl _ _ | refine bel_alloc ?_ _ | refine bel_drew ?_ | refine bel_drewN ?_ _ | refine bel_set ?_ (by first | omega | (simp; done) | (simp; omega)) _ | refine bel_trans ?_ (by assumption)) | assumption | refine bel_trans ?_ (by assumption)))⟩
  case round =>
    obtain ⟨j, rfl, hj, hbel⟩ := hrel
    by_cases hlt : j + 1 < D.size
    · have hb1 := byte_le D (j + 1) hlt
      have hb2 := byte_le D j (by omega)
      obtain ⟨t, ht⟩ : ∃ t, t = M.ck (D.extract 0 j ++ D.extract (j + 1) (j + 1 + 1) ++ D.extract j (j + 1) ++ D.extract (j + 1 + 1) D.size).data.toList := ⟨_, rfl⟩
      have HE := hid (show t = K ↔ ((D[j + 1]).toNat : Int) % 255 = ((D[j]).toNat : Int) % 255 by
        rw [ht, HK.out]; exact swapped D (j + 1) (by omega) hlt)
      have HT := hid (show ∀ v : World, Calls Try.prog 67 #[.string (D.extract 0 j ++ D.extract (j + 1) (j + 1 + 1) ++ D.extract j (j + 1) ++ D.extract (j + 1 + 1) D.size)] v (Same (.int .i64 t) v) by
        intro v; rw [ht]
        exact c_SumOf _ v (by
          have z1 := ByteArray.size_extract (a := D) (b := 0) (e := j)
          have z2 := ByteArray.size_extract (a := D) (b := j + 1) (e := j + 1 + 1)
          have z3 := ByteArray.size_extract (a := D) (b := j) (e := j + 1)
          have z4 := ByteArray.size_extract (a := D) (b := j + 1 + 1) (e := D.size)
          rw [ByteArray.size_append, ByteArray.size_append, ByteArray.size_append]
          unfold maxLen; omega))
      clear ht
      have hx1 := index_str (P := Try.prog) Try.underlying9 D (j + 1) hlt .i64 ((j : Int) + 1) (by omega)
      have hx2 := index_str (P := Try.prog) Try.underlying9 D j (by omega) .i64 (j : Int) rfl
      obtain ⟨c, hc⟩ : ∃ c : Nat, c = (D[j + 1]).toNat := ⟨_, rfl⟩
      obtain ⟨d, hd⟩ : ∃ d : Nat, d = (D[j]).toNat := ⟨_, rfl⟩
      rw [← hc] at hx1 hb1 HE
      rw [← hd] at hx2 hb2 HE
      clear hc hd
      go_wp2_with fail
      go_quiet (fail)
      go_wp2_with fail
      go_quiet (fail)
      go_wp2_with fail
      have hE := HE.out
      rw [← tmod_iff] at hE
      by_cases hz : ((c : Int) - (d : Int)).tmod 255 = 0
      · have eB : (((c : Int) - (d : Int)).tmod 255 != 0) = false := by rw [hz]; rfl
        have eT : ((t : Int) != (K : Int)) = false := ne_no (by have := hE.2 hz; omega)
        clear hE hz
        refine (HT.out _).mono ?_
        rintro e w3 ⟨rfl, rfl⟩
        go_wp2
        go_roundw
        case rel => exact ⟨j + 1, by go_num, by omega, by (repeat (first | with_reducible (first | assumption | exact Below.refl _ _ | refine bel_alloc ?_ _ | refine bel_drew ?_ | refine bel_drewN ?_ _ | refine bel_set ?_ (by first | omega | (simp; done) | (simp; omega)) _ | refine bel_trans ?_ (by assumption)) | assumption | refine bel_trans ?_ (by assumption)))⟩
        case measure => simp [intOf]; omega
      · have eB : (((c : Int) - (d : Int)).tmod 255 != 0) = true := by rw [bne_iff_ne]; exact hz
        have eT : ((t : Int) != (K : Int)) = true := by
          rw [bne_iff_ne]
          intro h
          exact hz (hE.1 (by omega))
        clear hE hz
        refine (HT.out _).mono ?_
        rintro e w3 ⟨rfl, rfl⟩
        go_wp2
        go_roundw
        case rel => exact ⟨j + 1, by go_num, by omega, by (repeat (first | with_reducible (first | assumption | exact Below.refl _ _ | refine bel_alloc ?_ _ | refine bel_drew ?_ | refine bel_drewN ?_ _ | refine bel_set ?_ (by first | omega | (simp; done) | (simp; omega)) _ | refine bel_trans ?_ (by assumption)) | assumption | refine bel_trans ?_ (by assumption)))⟩
        case measure => simp [intOf]; omega
    · go_wp2_with fail
      refine (HA.out _).mono ?_
      rintro e w3 ⟨rfl, rfl⟩
      go_wp2_with fail
      refine (HB.out _).mono ?_
      rintro e w3 ⟨rfl, rfl⟩
      go_wp2
      have hF := HF.out
      go_ret
      exact ⟨ret_bool (eq_yes (by omega)), by (repeat (first | with_reducible (first | assumption | exact Below.refl _ _ | refine bel_alloc ?_ _ | refine bel_drew ?_ | refine bel_drewN ?_ _ | refine bel_set ?_ (by first | omega | (simp; done) | (simp; omega)) _ | refine bel_trans ?_ (by assumption)) | assumption | refine bel_trans ?_ (by assumption)))⟩
end Go.Proofs.Ytophlgnmfhoeiaa
