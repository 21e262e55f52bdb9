/- Walks of exact laws: each law's Go text returns true, and writes nothing that was there. -/
import Derived.Test.YtmlaaammfnboiaaGreatDoorBh
import Derived.Test.YtmlaaammfnboiaaGreatDoorGe
import Derived.Test.YtmlaaammfnboiaaGreatDoorUd
namespace Go.Proofs.YtmlaaammfnboiaaGreatDoor
open Go.ChangeShapes Go.WideShapes Go.ChangeAt Go.RowKit Go.Joins
set_option linter.unusedVariables false

theorem c_sDecompressWith_bad (o l m : Int) (w : World) (D T : ByteArray) (hk : FitsOk (begun o l m) D) (K : Kn) (hK : K = ((begun o l m).learned D.data.toList)) (hT : T.size ≤ maxLen) (hu : ¬ UnpOk K T) : Calls Tryz.prog 66 #[.agg #[.int .i64 o, .int .i64 l, .int .i64 m], .string D, .string T] w fun e w' => e = .returned (.tuple #[.string ByteArray.empty, .int .i64 4, .int .i64 0]) ∧ Below w.heap.size w w' := by
 have hB0 : Below w.heap.size w (w.alloc (.cells #[.int .i64 o, .int .i64 l, .int .i64 m] 28)) := by exact obB
 obtain ⟨y0, y1, y2⟩ := (Blk.new w 28 #[.int .i64 o, .int .i64 l, .int .i64 m]).cells3
 have hw : K.Wf := by rw [hK]; exact (hk.1.learned hk.lits.1).wf
 have HSt := hid (fun (v : World) => c_sStartWith_yes o l m v D hk)
 simp only [← hK] at HSt
 have HDc := hid (fun (A2 : Option Addr) (c2 : Nat) (v : World) (hp : PsAt v v.heap.size A2 c2 K.ps) => c_sDecompress_no K A2 c2 v.heap.size v hp (Nat.le_refl _) hw T hT hu)
 clear hk hK hw hu
 go_enter Tryz.func66, Tryz.ntmps66
 go_wp2_with fail
 refine (HSt.out _).mono ?_
 rintro e w1 ⟨A', cap', rfl, hown, hb1⟩
 have hB1 := bel_trans hB0 hb1
 have HP := hid ((own_ps_at hown).alloc (Nat.le_refl _) (.cells #[.int .i64 K.o, .int .i64 K.l, .int .i64 K.m, .slice A' K.ps.length cap', .int .i64 K.base, .int .i64 K.last] 88))
 obtain ⟨u0, u1, u2, u3, u4, u5⟩ := (Blk.new w1 88 #[.int .i64 K.o, .int .i64 K.l, .int .i64 K.m, .slice A' K.ps.length cap', .int .i64 K.base, .int .i64 K.last]).cells6
 clear hown y0 y1 y2 hb1
 go_wp2_with fail
 refine (HDc.out _ _ _ (HP.out.mono (by simp))).mono ?_
 rintro e w2 ⟨rfl, hb2⟩
 go_wp2
 exact bodyPost_ret (v := .tuple #[.string ByteArray.empty, .int .i64 4, .int .i64 0]) (by simp [results, Tryz.results66, go_sem]) rfl ⟨rfl, by exact obB⟩

theorem c_sDecompressWith_yes (o l m : Int) (w : World) (D T : ByteArray) (hk : FitsOk (begun o l m) D) (K : Kn) (hK : K = ((begun o l m).learned D.data.toList)) (hu : UnpOk K T) : Calls Tryz.prog 66 #[.agg #[.int .i64 o, .int .i64 l, .int .i64 m], .string D, .string T] w fun e w' => e = .returned (.tuple #[.string (str (K.dat (K.uc T))), .int .i64 (K.ue T), .int .i64 (K.uu T : Nat)]) ∧ Below w.heap.size w w' := by
 have hB0 : Below w.heap.size w (w.alloc (.cells #[.int .i64 o, .int .i64 l, .int .i64 m] 28)) := by exact obB
 obtain ⟨y0, y1, y2⟩ := (Blk.new w 28 #[.int .i64 o, .int .i64 l, .int .i64 m]).cells3
 have hw : K.Wf := by rw [hK]; exact (hk.1.learned hk.lits.1).wf
 have HSt := hid (fun (v : World) => c_sStartWith_yes o l m v D hk)
 simp only [← hK] at HSt
 have HDc := hid (fun (A2 : Option Addr) (c2 : Nat) (v : World) (hp : PsAt v v.heap.size A2 c2 K.ps) => c_sDecompress_yes K A2 c2 v.heap.size v hp (Nat.le_refl _) hw T hu)
 obtain ⟨X, hX⟩ : ∃ X, X = str (K.dat (K.uc T)) := ⟨_, rfl⟩
 obtain ⟨Y, hY⟩ : ∃ Y, Y = K.ue T := ⟨_, rfl⟩
 obtain ⟨Z, hZ⟩ : ∃ Z, Z = K.uu T := ⟨_, rfl⟩
 simp only [← hX, ← hY, ← hZ] at HDc ⊢
 clear hX hY hZ
 clear hk hK hw hu
 go_enter Tryz.func66, Tryz.ntmps66
 go_wp2_with fail
 refine (HSt.out _).mono ?_
 rintro e w1 ⟨A', cap', rfl, hown, hb1⟩
 have hB1 := bel_trans hB0 hb1
 have HP := hid ((own_ps_at hown).alloc (Nat.le_refl _) (.cells #[.int .i64 K.o, .int .i64 K.l, .int .i64 K.m, .slice A' K.ps.length cap', .int .i64 K.base, .int .i64 K.last] 88))
 obtain ⟨u0, u1, u2, u3, u4, u5⟩ := (Blk.new w1 88 #[.int .i64 K.o, .int .i64 K.l, .int .i64 K.m, .slice A' K.ps.length cap', .int .i64 K.base, .int .i64 K.last]).cells6
 clear hown y0 y1 y2 hb1
 go_wp2_with fail
 refine (HDc.out _ _ _ (HP.out.mono (by simp))).mono ?_
 rintro e w2 ⟨rfl, hb2⟩
 go_wp2
 exact bodyPost_ret (v := .tuple #[.string X, .int .i64 Y, .int .i64 (Z : Nat)]) (by simp [results, Tryz.results66, go_sem]) rfl ⟨rfl, by exact obB⟩
end Go.Proofs.YtmlaaammfnboiaaGreatDoor
