/- The contracts of the model's CompressWith. No condition but that the numbers are int's. -/
import Derived.Test.YtfklkepodpcdgaaGe
import Derived.Test.YtfklkepodpcdgaaGc
namespace Go.Proofs.Ytfklkepodpcdgaa
open Go.ChangeShapes Go.WideShapes Go.ChangeAt Go.RowKit Go.Joins
set_option linter.unusedVariables false

theorem c_sCompressWith_no (o l m : Int) (w : World) (D T : ByteArray) (hs : D.size ≤ maxLen) (hk : ¬ FitsOk (begun o l m) D) : Calls Try.prog 48 #[.agg #[.int .i64 o, .int .i64 l, .int .i64 m], .string D, .string T] w fun e w' => e = .returned (.tuple #[.string ByteArray.empty, .bool false]) ∧ Below w.heap.size w w' := by
  have hB0 : Below w.heap.size w (w.alloc (.cells #[.int .i64 o, .int .i64 l, .int .i64 m] 52)) := by (repeat (first | with_reducible (first | assumption | exact Below.refl _ _ | refine bel_alloc ?_ _ | refine bel_drew ?_ | refine bel_drewN ?_ _ | refine bel_set ?_ (by first | omega | (simp; done) | (simp; omega)) _ | refine bel_trans ?_ (by assumption)) | assumption | refine bel_trans ?_ (by assumption)))
  obtain ⟨y0, y1, y2⟩ := (Blk.new w 52 #[.int .i64 o, .int .i64 l, .int .i64 m]).cells3
  have HSt := hid (fun (v : World) => c_sStartWith_no o l m v D hs hk)
  clear hk
  go_enter Try.func48, Try.ntmps48
  go_wp2_with fail
  refine (HSt.out _).mono ?_
  rintro e w1 ⟨rfl, hb1⟩
  go_wp2
  exact bodyPost_ret (v := .tuple #[.string ByteArray.empty, .bool false]) (by simp [results, Try.results48, go_sem]; rfl) rfl ⟨rfl, by (repeat (first | with_reducible (first | assumption | exact Below.refl _ _ | refine bel_alloc ?_ _ | refine bel_drew ?_ | refine bel_drewN ?_ _ | refine bel_set ?_ (by first | omega | (simp; done) | (simp; omega)) _ | refine bel_trans ?_ (by assumption)) | assumption | refine bel_trans ?_ (by assumption)))⟩

theorem c_sCompressWith_bad (o l m : Int) (w : World) (D T : ByteArray) (hk : FitsOk (begun o l m) D) (K : Kn) (hK : K = ((begun o l m).learned D.data.toList)) (hT : T.size ≤ maxLen) (hu : ¬ FitsOk K T) : Calls Try.prog 48 #[.agg #[.int .i64 o, .int .i64 l, .int .i64 m], .string D, .string T] w fun e w' => e = .returned (.tuple #[.string ByteArray.empty, .bool false]) ∧ Below w.heap.size w w' := by
  have hB0 : Below w.heap.size w (w.alloc (.cells #[.int .i64 o, .int .i64 l, .int .i64 m] 52)) := by (repeat (first | with_reducible (first | assumption | exact Below.refl _ _ | refine bel_alloc ?_ _ | refine bel_drew ?_ | refine bel_drewN ?_ _ | refine bel_set ?_ (by first | omega | (simp; done) | (simp; omega)) _ | refine bel_trans ?_ (by assumption)) | assumption | refine bel_trans ?_ (by assumption)))
  obtain ⟨y0, y1, y2⟩ := (Blk.new w 52 #[.int .i64 o, .int .i64 l, .int .i64 m]).cells3
  have hw : K.Wf := by rw [hK]; exact (hk.1.learned hk.lits.1).wf
  have HSt := hid (fun (v : World) => c_sStartWith_yes o l m v D hk)
  simp only [← hK] at HSt
  have HDc := hid (fun (A2 : Option Addr) (c2 : Nat) (v : World) (hp : PsAt v v.heap.size A2 c2 K.ps) => c_sCompress_no K A2 c2 v.heap.size v hp (Nat.le_refl _) T hT hu hw)
  clear hk hK hw hu
  go_enter Try.func48, Try.ntmps48
  go_wp2_with fail
  refine (HSt.out _).mono ?_
  rintro e w1 ⟨A', cap', rfl, hown, hb1⟩
  have hB1 := bel_trans hB0 hb1
  have HP := hid ((own_ps_at hown).alloc (Nat.le_refl _) (.cells #[.int .i64 K.o, .int .i64 K.l, .int .i64 K.m, .slice A' K.ps.length cap', .int .i64 K.base, .int .i64 K.last] 55))
  obtain ⟨u0, u1, u2, u3, u4, u5⟩ := (Blk.new w1 55 #[.int .i64 K.o, .int .i64 K.l, .int .i64 K.m, .slice A' K.ps.length cap', .int .i64 K.base, .int .i64 K.last]).cells6
  clear hown y0 y1 y2 hb1
  go_wp2_with fail
  refine (HDc.out _ _ _ (HP.out.mono (by simp))).mono ?_
  rintro e w2 ⟨rfl, hb2⟩
  go_wp2
  exact bodyPost_ret (v := .tuple #[.string ByteArray.empty, .bool false]) (by simp [results, Try.results48, go_sem]) rfl ⟨rfl, by (repeat (first | with_reducible (first | assumption | exact Below.refl _ _ | refine bel_alloc ?_ _ | refine bel_drew ?_ | refine bel_drewN ?_ _ | refine bel_set ?_ (by first | omega | (simp; done) | (simp; omega)) _ | refine bel_trans ?_ (by assumption)) | assumption | refine bel_trans ?_ (by assumption)))⟩

theorem c_sCompressWith_yes (o l m : Int) (w : World) (D T : ByteArray) (hk : FitsOk (begun o l m) D) (K : Kn) (hK : K = ((begun o l m).learned D.data.toList)) (hu : FitsOk K T) : Calls Try.prog 48 #[.agg #[.int .i64 o, .int .i64 l, .int .i64 m], .string D, .string T] w fun e w' => e = .returned (.tuple #[.string (K.packed (K.greedy T.data.toList)), .bool true]) ∧ Below w.heap.size w w' := by
  have hB0 : Below w.heap.size w (w.alloc (.cells #[.int .i64 o, .int .i64 l, .int .i64 m] 52)) := by (repeat (first | with_reducible (first | assumption | exact Below.refl _ _ | refine bel_alloc ?_ _ | refine bel_drew ?_ | refine bel_drewN ?_ _ | refine bel_set ?_ (by first | omega | (simp; done) | (simp; omega)) _ | refine bel_trans ?_ (by assumption)) | assumption | refine bel_trans ?_ (by assumption)))
  obtain ⟨y0, y1, y2⟩ := (Blk.new w 52 #[.int .i64 o, .int .i64 l, .int .i64 m]).cells3
  have hw : K.Wf := by rw [hK]; exact (hk.1.learned hk.lits.1).wf
  have HSt := hid (fun (v : World) => c_sStartWith_yes o l m v D hk)
  simp only [← hK] at HSt
  have HDc := hid (fun (A2 : Option Addr) (c2 : Nat) (v : World) (hp : PsAt v v.heap.size A2 c2 K.ps) => c_sCompress_yes K A2 c2 v.heap.size v hp (Nat.le_refl _) T hu hw)
  obtain ⟨X, hX⟩ : ∃ X, X = K.packed (K.greedy T.data.toList) := ⟨_, rfl⟩
  simp only [← hX] at HDc ⊢
  clear hX
  clear hk hK hw hu
  go_enter Try.func48, Try.ntmps48
  go_wp2_with fail
  refine (HSt.out _).mono ?_
  rintro e w1 ⟨A', cap', rfl, hown, hb1⟩
  have hB1 := bel_trans hB0 hb1
  have HP := hid ((own_ps_at hown).alloc (Nat.le_refl _) (.cells #[.int .i64 K.o, .int .i64 K.l, .int .i64 K.m, .slice A' K.ps.length cap', .int .i64 K.base, .int .i64 K.last] 55))
  obtain ⟨u0, u1, u2, u3, u4, u5⟩ := (Blk.new w1 55 #[.int .i64 K.o, .int .i64 K.l, .int .i64 K.m, .slice A' K.ps.length cap', .int .i64 K.base, .int .i64 K.last]).cells6
  clear hown y0 y1 y2 hb1
  go_wp2_with fail
  refine (HDc.out _ _ _ (HP.out.mono (by simp))).mono ?_
  rintro e w2 ⟨rfl, hb2⟩
  go_wp2
  exact bodyPost_ret (v := .tuple #[.string X, .bool true]) (by simp [results, Try.results48, go_sem]) rfl ⟨rfl, by (repeat (first | with_reducible (first | assumption | exact Below.refl _ _ | refine bel_alloc ?_ _ | refine bel_drew ?_ | refine bel_drewN ?_ _ | refine bel_set ?_ (by first | omega | (simp; done) | (simp; omega)) _ | refine bel_trans ?_ (by assumption)) | assumption | refine bel_trans ?_ (by assumption)))⟩
end Go.Proofs.Ytfklkepodpcdgaa
