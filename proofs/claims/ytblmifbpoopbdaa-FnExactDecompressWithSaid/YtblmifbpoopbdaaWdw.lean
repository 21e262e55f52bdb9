/- Walks of exact laws: each law's Go text returns true, and writes nothing that was there. -/
import Derived.Test.YtblmifbpoopbdaaBh
import Derived.Test.YtblmifbpoopbdaaSw
import Derived.Test.YtblmifbpoopbdaaRp
namespace Go.Proofs.Ytblmifbpoopbdaa
open Go.ChangeShapes Go.WideShapes Go.ChangeAt Go.RowKit Go.Joins

set_option linter.unusedVariables false
theorem c_DecompressWith_no (o l m : Int) (w : World) (D T : ByteArray) (hs : D.size ≤ maxLen) (hk : ¬ FitsOk (begun o l m) D) : Calls Try.prog 86 #[.agg #[.int .i64 o, .int .i64 l, .int .i64 m], .string D, .string T] w fun e w' => e = .returned (.tuple #[.string ByteArray.empty, .int .i64 4, .int .i64 0]) ∧ Below w.heap.size w w' := by
  have hB0 : Below w.heap.size w (w.alloc (.cells #[.int .i64 o, .int .i64 l, .int .i64 m] 24)) := by (repeat (first | with_reducible (first | assumption | exact Below.refl _ _ | refine bel_alloc ?_ _ | refine bel_drew ?_ | refine bel_drewN ?_ _ | refine bel_set ?_ (by first | omega | (simp; done) | (simp; omega)) _ | refine bel_trans ?_ (by assumption)) | assumption | refine bel_trans ?_ (by assumption)))
  obtain ⟨y0, y1, y2⟩ := (Blk.new w 24 #[.int .i64 o, .int .i64 l, .int .i64 m]).cells3
  have HSt := hid (fun (v : World) => c_StartWith_no o l m v D hs hk)
  clear hk
  go_enter Try.func86, Try.ntmps86
  go_wp2_with fail
  refine (HSt.out _).mono ?_
  rintro e w1 ⟨rfl, hb1⟩
  go_wp2
  exact bodyPost_ret (v := .tuple #[.string ByteArray.empty, .int .i64 4, .int .i64 0]) (by simp [results, Try.results86, go_sem]; rfl) rfl ⟨rfl, by (repeat (first | with_reducible (first | assumption | exact Below.refl _ _ | refine bel_alloc ?_ _ | refine bel_drew ?_ | refine bel_drewN ?_ _ | refine bel_set ?_ (by first | omega | (simp; done) | (simp; omega)) _ | refine bel_trans ?_ (by assumption)) | assumption | refine bel_trans ?_ (by assumption)))⟩

theorem c_DecompressWith_bad (o l m : Int) (w : World) (D T : ByteArray) (hk : FitsOk (begun o l m) D) (K : Kn) (hK : K = ((begun o l m).learned D.data.toList)) (hT : T.size ≤ maxLen) (hu : ¬ UnpOk K T) : Calls Try.prog 86 #[.agg #[.int .i64 o, .int .i64 l, .int .i64 m], .string D, .string T] w fun e w' => e = .returned (.tuple #[.string ByteArray.empty, .int .i64 4, .int .i64 0]) ∧ Below w.heap.size w w' := by
  have hB0 : Below w.heap.size w (w.alloc (.cells #[.int .i64 o, .int .i64 l, .int .i64 m] 24)) := by (repeat (first | with_reducible (first | assumption | exact Below.refl _ _ | refine bel_alloc ?_ _ | refine bel_drew ?_ | refine bel_drewN ?_ _ | refine bel_set ?_ (by first | omega | (simp; done) | (simp; omega)) _ | refine bel_trans ?_ (by assumption)) | assumption | refine bel_trans ?_ (by assumption)))
  obtain ⟨y0, y1, y2⟩ := (Blk.new w 24 #[.int .i64 o, .int .i64 l, .int .i64 m]).cells3
  have hw : K.Wf := by rw [hK]; exact (hk.1.learned hk.lits.1).wf
  have HSt := hid (fun (v : World) => c_StartWith_yes o l m v D hk)
  simp only [← hK] at HSt
  have HDc := hid (fun (A2 : Option Addr) (c2 : Nat) (v : World) (hp : PsAt v v.heap.size A2 c2 K.ps) => c_Decompress_no K A2 c2 v.heap.size v hp (Nat.le_refl _) hw T hT hu)
  clear hk hK hw hu
  go_enter Try.func86, Try.ntmps86
  go_wp2_with fail
  refine (HSt.out _).mono ?_
  rintro e w1 ⟨A', cap', rfl, hown, hb1⟩
  have hB1 := bel_trans hB0 hb1
  have HP := hid ((own_ps_at hown).alloc (Nat.le_refl _) (.cells #[.int .i64 K.o, .int .i64 K.l, .int .i64 K.m, .slice A' K.ps.length cap', .int .i64 K.base, .int .i64 K.last] 27))
  obtain ⟨u0, u1, u2, u3, u4, u5⟩ := (Blk.new w1 27 #[.int .i64 K.o, .int .i64 K.l, .int .i64 K.m, .slice A' K.ps.length cap', .int .i64 K.base, .int .i64 K.last]).cells6
  clear hown y0 y1 y2 hb1
  go_wp2_with fail
  refine (HDc.out _ _ _ (HP.out.mono (by simp))).mono ?_
  rintro e w2 ⟨rfl, hb2⟩
  go_wp2
  exact bodyPost_ret (v := .tuple #[.string ByteArray.empty, .int .i64 4, .int .i64 0]) (by simp [results, Try.results86, go_sem]) rfl ⟨rfl, by (repeat (first | with_reducible (first | assumption | exact Below.refl _ _ | refine bel_alloc ?_ _ | refine bel_drew ?_ | refine bel_drewN ?_ _ | refine bel_set ?_ (by first | omega | (simp; done) | (simp; omega)) _ | refine bel_trans ?_ (by assumption)) | assumption | refine bel_trans ?_ (by assumption)))⟩

theorem c_DecompressWith_yes (o l m : Int) (w : World) (D T : ByteArray) (hk : FitsOk (begun o l m) D) (K : Kn) (hK : K = ((begun o l m).learned D.data.toList)) (hu : UnpOk K T) : Calls Try.prog 86 #[.agg #[.int .i64 o, .int .i64 l, .int .i64 m], .string D, .string T] w fun e w' => e = .returned (.tuple #[.string (str (K.dat (K.uc T))), .int .i64 (K.ue T), .int .i64 (K.uu T : Nat)]) ∧ Below w.heap.size w w' := by
  have hB0 : Below w.heap.size w (w.alloc (.cells #[.int .i64 o, .int .i64 l, .int .i64 m] 24)) := by (repeat (first | with_reducible (first | assumption | exact Below.refl _ _ | refine bel_alloc ?_ _ | refine bel_drew ?_ | refine bel_drewN ?_ _ | refine bel_set ?_ (by first | omega | (simp; done) | (simp; omega)) _ | refine bel_trans ?_ (by assumption)) | assumption | refine bel_trans ?_ (by assumption)))
  obtain ⟨y0, y1, y2⟩ := (Blk.new w 24 #[.int .i64 o, .int .i64 l, .int .i64 m]).cells3
  have hw : K.Wf := by rw [hK]; exact (hk.1.learned hk.lits.1).wf
  have HSt := hid (fun (v : World) => c_StartWith_yes o l m v D hk)
  simp only [← hK] at HSt
  have HDc := hid (fun (A2 : Option Addr) (c2 : Nat) (v : World) (hp : PsAt v v.heap.size A2 c2 K.ps) => c_Decompress_yes K A2 c2 v.heap.size v hp (Nat.le_refl _) hw T hu)
  obtain ⟨X, hX⟩ : ∃ X, X = str (K.dat (K.uc T)) := ⟨_, rfl⟩
  obtain ⟨Y, hY⟩ : ∃ Y, Y = K.ue T := ⟨_, rfl⟩
  obtain ⟨Z, hZ⟩ : ∃ Z, Z = K.uu T := ⟨_, rfl⟩
  simp only [← hX, ← hY, ← hZ] at HDc ⊢
  clear hX hY hZ
  clear hk hK hw hu
  go_enter Try.func86, Try.ntmps86
  go_wp2_with fail
  refine (HSt.out _).mono ?_
  rintro e w1 ⟨A', cap', rfl, hown, hb1⟩
  have hB1 := bel_trans hB0 hb1
  have HP := hid ((own_ps_at hown).alloc (Nat.le_refl _) (.cells #[.int .i64 K.o, .int .i64 K.l, .int .i64 K.m, .slice A' K.ps.length cap', .int .i64 K.base, .int .i64 K.last] 27))
  obtain ⟨u0, u1, u2, u3, u4, u5⟩ := (Blk.new w1 27 #[.int .i64 K.o, .int .i64 K.l, .int .i64 K.m, .slice A' K.ps.length cap', .int .i64 K.base, .int .i64 K.last]).cells6
  clear hown y0 y1 y2 hb1
  go_wp2_with fail
  refine (HDc.out _ _ _ (HP.out.mono (by simp))).mono ?_
  rintro e w2 ⟨rfl, hb2⟩
  go_wp2
  exact bodyPost_ret (v := .tuple #[.string X, .int .i64 Y, .int .i64 (Z : Nat)]) (by simp [results, Try.results86, go_sem]) rfl ⟨rfl, by (repeat (first | with_reducible (first | assumption | exact Below.refl _ _ | refine bel_alloc ?_ _ | refine bel_drew ?_ | refine bel_drewN ?_ _ | refine bel_set ?_ (by first | omega | (simp; done) | (simp; omega)) _ | refine bel_trans ?_ (by assumption)) | assumption | refine bel_trans ?_ (by assumption)))⟩

theorem c_sDecompressWith_no (o l m : Int) (w : World) (D T : ByteArray) (hs : D.size ≤ maxLen) (hk : ¬ FitsOk (begun o l m) D) : Calls Try.prog 85 #[.agg #[.int .i64 o, .int .i64 l, .int .i64 m], .string D, .string T] w fun e w' => e = .returned (.tuple #[.string ByteArray.empty, .int .i64 4, .int .i64 0]) ∧ Below w.heap.size w w' := by
  have hB0 : Below w.heap.size w (w.alloc (.cells #[.int .i64 o, .int .i64 l, .int .i64 m] 24)) := by (repeat (first | with_reducible (first | assumption | exact Below.refl _ _ | refine bel_alloc ?_ _ | refine bel_drew ?_ | refine bel_drewN ?_ _ | refine bel_set ?_ (by first | omega | (simp; done) | (simp; omega)) _ | refine bel_trans ?_ (by assumption)) | assumption | refine bel_trans ?_ (by assumption)))
  obtain ⟨y0, y1, y2⟩ := (Blk.new w 24 #[.int .i64 o, .int .i64 l, .int .i64 m]).cells3
  have HSt := hid (fun (v : World) => c_sStartWith_no o l m v D hs hk)
  clear hk
  go_enter Try.func85, Try.ntmps85
  go_wp2_with fail
  refine (HSt.out _).mono ?_
  rintro e w1 ⟨rfl, hb1⟩
  go_wp2
  exact bodyPost_ret (v := .tuple #[.string ByteArray.empty, .int .i64 4, .int .i64 0]) (by simp [results, Try.results85, go_sem]; rfl) rfl ⟨rfl, by (repeat (first | with_reducible (first | assumption | exact Below.refl _ _ | refine bel_alloc ?_ _ | refine bel_drew ?_ | refine bel_drewN ?_ _ | refine bel_set ?_ (by first | omega | (simp; done) | (simp; omega)) _ | refine bel_trans ?_ (by assumption)) | assumption | refine bel_trans ?_ (by assumption)))⟩

theorem c_sDecompressWith_bad (o l m : Int) (w : World) (D T : ByteArray) (hk : FitsOk (begun o l m) D) (K : Kn) (hK : K = ((begun o l m).learned D.data.toList)) (hT : T.size ≤ maxLen) (hu : ¬ UnpOk K T) : Calls Try.prog 85 #[.agg #[.int .i64 o, .int .i64 l, .int .i64 m], .string D, .string T] w fun e w' => e = .returned (.tuple #[.string ByteArray.empty, .int .i64 4, .int .i64 0]) ∧ Below w.heap.size w w' := by
  have hB0 : Below w.heap.size w (w.alloc (.cells #[.int .i64 o, .int .i64 l, .int .i64 m] 24)) := by (repeat (first | with_reducible (first | assumption | exact Below.refl _ _ | refine bel_alloc ?_ _ | refine bel_drew ?_ | refine bel_drewN ?_ _ | refine bel_set ?_ (by first | omega | (simp; done) | (simp; omega)) _ | refine bel_trans ?_ (by assumption)) | assumption | refine bel_trans ?_ (by assumption)))
  obtain ⟨y0, y1, y2⟩ := (Blk.new w 24 #[.int .i64 o, .int .i64 l, .int .i64 m]).cells3
  have hw : K.Wf := by rw [hK]; exact (hk.1.learned hk.lits.1).wf
  have HSt := hid (fun (v : World) => c_sStartWith_yes o l m v D hk)
  simp only [← hK] at HSt
  have HDc := hid (fun (A2 : Option Addr) (c2 : Nat) (v : World) (hp : PsAt v v.heap.size A2 c2 K.ps) => c_sDecompress_no K A2 c2 v.heap.size v hp (Nat.le_refl _) hw T hT hu)
  clear hk hK hw hu
  go_enter Try.func85, Try.ntmps85
  go_wp2_with fail
  refine (HSt.out _).mono ?_
  rintro e w1 ⟨A', cap', rfl, hown, hb1⟩
  have hB1 := bel_trans hB0 hb1
  have HP := hid ((own_ps_at hown).alloc (Nat.le_refl _) (.cells #[.int .i64 K.o, .int .i64 K.l, .int .i64 K.m, .slice A' K.ps.length cap', .int .i64 K.base, .int .i64 K.last] 27))
  obtain ⟨u0, u1, u2, u3, u4, u5⟩ := (Blk.new w1 27 #[.int .i64 K.o, .int .i64 K.l, .int .i64 K.m, .slice A' K.ps.length cap', .int .i64 K.base, .int .i64 K.last]).cells6
  clear hown y0 y1 y2 hb1
  go_wp2_with fail
  refine (HDc.out _ _ _ (HP.out.mono (by simp))).mono ?_
  rintro e w2 ⟨rfl, hb2⟩
  go_wp2
  exact bodyPost_ret (v := .tuple #[.string ByteArray.empty, .int .i64 4, .int .i64 0]) (by simp [results, Try.results85, go_sem]) rfl ⟨rfl, by (repeat (first | with_reducible (first | assumption | exact Below.refl _ _ | refine bel_alloc ?_ _ | refine bel_drew ?_ | refine bel_drewN ?_ _ | refine bel_set ?_ (by first | omega | (simp; done) | (simp; omega)) _ | refine bel_trans ?_ (by assumption)) | assumption | refine bel_trans ?_ (by assumption)))⟩

theorem c_sDecompressWith_yes (o l m : Int) (w : World) (D T : ByteArray) (hk : FitsOk (begun o l m) D) (K : Kn) (hK : K = ((begun o l m).learned D.data.toList)) (hu : UnpOk K T) : Calls Try.prog 85 #[.agg #[.int .i64 o, .int .i64 l, .int .i64 m], .string D, .string T] w fun e w' => e = .returned (.tuple #[.string (str (K.dat (K.uc T))), .int .i64 (K.ue T), .int .i64 (K.uu T : Nat)]) ∧ Below w.heap.size w w' := by
  have hB0 : Below w.heap.size w (w.alloc (.cells #[.int .i64 o, .int .i64 l, .int .i64 m] 24)) := by (repeat (first | with_reducible (first | assumption | exact Below.refl _ _ | refine bel_alloc ?_ _ | refine bel_drew ?_ | refine bel_drewN ?_ _ | refine bel_set ?_ (by first | omega | (simp; done) | (simp; omega)) _ | refine bel_trans ?_ (by assumption)) | assumption | refine bel_trans ?_ (by assumption)))
  obtain ⟨y0, y1, y2⟩ := (Blk.new w 24 #[.int .i64 o, .int .i64 l, .int .i64 m]).cells3
  have hw : K.Wf := by rw [hK]; exact (hk.1.learned hk.lits.1).wf
  have HSt := hid (fun (v : World) => c_sStartWith_yes o l m v D hk)
  simp only [← hK] at HSt
  have HDc := hid (fun (A2 : Option Addr) (c2 : Nat) (v : World) (hp : PsAt v v.heap.size A2 c2 K.ps) => c_sDecompress_yes K A2 c2 v.heap.size v hp (Nat.le_refl _) hw T hu)
  obtain ⟨X, hX⟩ : ∃ X, X = str (K.dat (K.uc T)) := ⟨_, rfl⟩
  obtain ⟨Y, hY⟩ : ∃ Y, Y = K.ue T := ⟨_, rfl⟩
  obtain ⟨Z, hZ⟩ : ∃ Z, Z = K.uu T := ⟨_, rfl⟩
  simp only [← hX, ← hY, ← hZ] at HDc ⊢
  clear hX hY hZ
  clear hk hK hw hu
  go_enter Try.func85, Try.ntmps85
  go_wp2_with fail
  refine (HSt.out _).mono ?_
  rintro e w1 ⟨A', cap', rfl, hown, hb1⟩
  have hB1 := bel_trans hB0 hb1
  have HP := hid ((own_ps_at hown).alloc (Nat.le_refl _) (.cells #[.int .i64 K.o, .int .i64 K.l, .int .i64 K.m, .slice A' K.ps.length cap', .int .i64 K.base, .int .i64 K.last] 27))
  obtain ⟨u0, u1, u2, u3, u4, u5⟩ := (Blk.new w1 27 #[.int .i64 K.o, .int .i64 K.l, .int .i64 K.m, .slice A' K.ps.length cap', .int .i64 K.base, .int .i64 K.last]).cells6
  clear hown y0 y1 y2 hb1
  go_wp2_with fail
  refine (HDc.out _ _ _ (HP.out.mono (by simp))).mono ?_
  rintro e w2 ⟨rfl, hb2⟩
  go_wp2
  exact bodyPost_ret (v := .tuple #[.string X, .int .i64 Y, .int .i64 (Z : Nat)]) (by simp [results, Try.results85, go_sem]) rfl ⟨rfl, by (repeat (first | with_reducible (first | assumption | exact Below.refl _ _ | refine bel_alloc ?_ _ | refine bel_drew ?_ | refine bel_drewN ?_ _ | refine bel_set ?_ (by first | omega | (simp; done) | (simp; omega)) _ | refine bel_trans ?_ (by assumption)) | assumption | refine bel_trans ?_ (by assumption)))⟩

set_option maxHeartbeats 4000000 in
set_option maxRecDepth 100000 in
theorem walk_FnExactDecompressWith (o l m : Int) (s : ByteArray) (t : ByteArray) (w : World) (h_o : -9223372036854775808 ≤ o ∧ o ≤ 9223372036854775807) (h_l : -9223372036854775808 ≤ l ∧ l ≤ 9223372036854775807) (h_m : -9223372036854775808 ≤ m ∧ m ≤ 9223372036854775807) (h_s : s.size ≤ maxLen) (h_t : t.size ≤ maxLen) :
    Calls Try.prog 19 #[.agg #[.int .i64 o, .int .i64 l, .int .i64 m], .string s, .string t] w fun e w' => e = .returned (.bool true) ∧ Below w.heap.size w w' := by
  by_cases big_s : 1048576 < s.size
  · unfold maxLen at *
    go_enter Try.func19, Try.ntmps19
    go_wp2_with fail
    go_ret
    exact ⟨rfl, by (repeat (first | with_reducible (first | assumption | exact Below.refl _ _ | refine bel_alloc ?_ _ | refine bel_drew ?_ | refine bel_drewN ?_ _ | refine bel_set ?_ (by first | omega | (simp; done) | (simp; omega)) _ | refine bel_trans ?_ (by assumption)) | assumption | refine bel_trans ?_ (by assumption)))⟩
  by_cases big_t : 1048576 < t.size
  · unfold maxLen at *
    go_enter Try.func19, Try.ntmps19
    go_wp2_with fail
    go_ret
    exact ⟨rfl, by (repeat (first | with_reducible (first | assumption | exact Below.refl _ _ | refine bel_alloc ?_ _ | refine bel_drew ?_ | refine bel_drewN ?_ _ | refine bel_set ?_ (by first | omega | (simp; done) | (simp; omega)) _ | refine bel_trans ?_ (by assumption)) | assumption | refine bel_trans ?_ (by assumption)))⟩
  have hs_s : s.size ≤ 1048576 := by omega
  have hs_t : t.size ≤ 1048576 := by omega
  · skip
    obtain ⟨X, Y, Z, HS, HI⟩ : ∃ (X : ByteArray) (Y : Int) (Z : Int), (∀  (w : World), Calls Try.prog 85 #[.agg #[.int .i64 o, .int .i64 l, .int .i64 m], .string s, .string t] w (fun e w' => e = .returned (.tuple #[.string X, .int .i64 Y, .int .i64 Z]) ∧ Below w.heap.size w w')) ∧ (∀  (w : World), Calls Try.prog 86 #[.agg #[.int .i64 o, .int .i64 l, .int .i64 m], .string s, .string t] w (fun e w' => e = .returned (.tuple #[.string X, .int .i64 Y, .int .i64 Z]) ∧ Below w.heap.size w w')) := by
      by_cases hk : FitsOk (begun o l m) s
      · by_cases hu : UnpOk ((begun o l m).learned s.data.toList) t
        · exact ⟨str (((begun o l m).learned s.data.toList).dat (((begun o l m).learned s.data.toList).uc t)), ((begun o l m).learned s.data.toList).ue t, (((begun o l m).learned s.data.toList).uu t : Nat), fun w => c_sDecompressWith_yes o l m w s t hk _ rfl hu, fun w => c_DecompressWith_yes o l m w s t hk _ rfl hu⟩
        · exact ⟨ByteArray.empty, 4, 0, fun w => c_sDecompressWith_bad o l m w s t hk _ rfl h_t hu, fun w => c_DecompressWith_bad o l m w s t hk _ rfl h_t hu⟩
      · exact ⟨ByteArray.empty, 4, 0, fun w => c_sDecompressWith_no o l m w s t h_s hk, fun w => c_DecompressWith_no o l m w s t h_s hk⟩
    have HS := hid HS
    have HI := hid HI
    go_enter Try.func19, Try.ntmps19
    obtain ⟨y0, y1, y2⟩ := (Blk.new w 42 #[.int .i64 o, .int .i64 l, .int .i64 m]).cells3
    go_wp2_with fail
    refine (c_toSetting o l m _).mono ?_
    rintro e w1 ⟨rfl, hb1⟩
    have hz1 : w.heap.size ≤ w1.heap.size := by have := hb1.size; first | exact this | (simp only [World.size_alloc] at this; omega)
    have kS1 := (Blk.new _ 42 #[.int .i64 o, .int .i64 l, .int .i64 m]).on hb1
    have hB1 : Below w.heap.size w w1 := by (repeat (first | with_reducible (first | assumption | exact Below.refl _ _ | refine bel_alloc ?_ _ | refine bel_drew ?_ | refine bel_drewN ?_ _ | refine bel_set ?_ (by first | omega | (simp; done) | (simp; omega)) _ | refine bel_trans ?_ (by assumption)) | assumption | refine bel_trans ?_ (by assumption)))
    clear y0 y1 y2 hb1
    obtain ⟨q0_0, q0_1, q0_2⟩ := kS1.cells3
    have l0 := kS1.lt
    go_wp2_with fail
    refine (HS.out  _ ).mono ?_
    rintro e w2 ⟨rfl, hb2⟩
    have hz2 : w1.heap.size ≤ w2.heap.size := by have := hb2.size; first | exact this | (simp only [World.size_alloc] at this; omega)
    have kS2 := kS1.on hb2
    have hB2 : Below w.heap.size w w2 := by (repeat (first | with_reducible (first | assumption | exact Below.refl _ _ | refine bel_alloc ?_ _ | refine bel_drew ?_ | refine bel_drewN ?_ _ | refine bel_set ?_ (by first | omega | (simp; done) | (simp; omega)) _ | refine bel_trans ?_ (by assumption)) | assumption | refine bel_trans ?_ (by assumption)))
    clear kS1 q0_0 q0_1 q0_2 l0 hb2 hB1
    obtain ⟨q0_0, q0_1, q0_2⟩ := kS2.cells3
    have l0 := kS2.lt
    go_wp2_with fail
    refine (c_toSetting o l m _).mono ?_
    rintro e w3 ⟨rfl, hb3⟩
    have hz3 : w2.heap.size ≤ w3.heap.size := by have := hb3.size; first | exact this | (simp only [World.size_alloc] at this; omega)
    have kS3 := kS2.on hb3
    have hB3 : Below w.heap.size w w3 := by (repeat (first | with_reducible (first | assumption | exact Below.refl _ _ | refine bel_alloc ?_ _ | refine bel_drew ?_ | refine bel_drewN ?_ _ | refine bel_set ?_ (by first | omega | (simp; done) | (simp; omega)) _ | refine bel_trans ?_ (by assumption)) | assumption | refine bel_trans ?_ (by assumption)))
    clear kS2 q0_0 q0_1 q0_2 l0 hb3 hB2
    obtain ⟨q0_0, q0_1, q0_2⟩ := kS3.cells3
    have l0 := kS3.lt
    go_wp2_with fail
    refine (HI.out  _ ).mono ?_
    rintro e w4 ⟨rfl, hb4⟩
    have hz4 : w3.heap.size ≤ w4.heap.size := by have := hb4.size; first | exact this | (simp only [World.size_alloc] at this; omega)
    have kS4 := kS3.on hb4
    have hB4 : Below w.heap.size w w4 := by (repeat (first | with_reducible (first | assumption | exact Below.refl _ _ | refine bel_alloc ?_ _ | refine bel_drew ?_ | refine bel_drewN ?_ _ | refine bel_set ?_ (by first | omega | (simp; done) | (simp; omega)) _ | refine bel_trans ?_ (by assumption)) | assumption | refine bel_trans ?_ (by assumption)))
    clear kS3 q0_0 q0_1 q0_2 l0 hb4 hB3
    obtain ⟨q0_0, q0_1, q0_2⟩ := kS4.cells3
    have l0 := kS4.lt
    go_wp2
    go_ret
    exact ⟨rfl, by (repeat (first | with_reducible (first | assumption | exact Below.refl _ _ | refine bel_alloc ?_ _ | refine bel_drew ?_ | refine bel_drewN ?_ _ | refine bel_set ?_ (by first | omega | (simp; done) | (simp; omega)) _ | refine bel_trans ?_ (by assumption)) | assumption | refine bel_trans ?_ (by assumption)))⟩
end Go.Proofs.Ytblmifbpoopbdaa
