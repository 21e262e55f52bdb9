/- BlockOf and BlockData in both programs, and their laws' walks. The layout of the header is as the program's text lays it. -/
import Derived.Test.YtmlaaammfnboiaaGreatDoorHb
namespace Go.Proofs.YtmlaaammfnboiaaGreatDoor
open Go.ChangeShapes Go.WideShapes Go.ChangeAt Go.RowKit Go.Joins
set_option linter.unusedVariables false
set_option linter.unusedSimpArgs false

theorem Kn.learned_clearedH (k : Kn) (d : List UInt8) : (k.learned d).cleared = k.learned d := by
 unfold Kn.learned
 exact Kn.settled_cleared _
/-- what is known of a setting and a dictionary -/
def kOf (o l m : Int) (dict : ByteArray) : Kn := (begun o l m).learned dict.data.toList
theorem kOf_ok {o l m : Int} {dict : ByteArray} (h : dataFits o l m dict = true) : FitsOk (begun o l m) dict ∧ (kOf o l m dict).Ok ∧ (kOf o l m dict).cleared = kOf o l m dict ∧ (kOf o l m dict).Wf := by
 have hk := (fits_begun o l m dict).2 h
 have hK : (kOf o l m dict).Ok := hk.1.learned hk.lits.1
 exact ⟨hk, hK, Kn.learned_clearedH _ _, hK.wf⟩
theorem c_l5Ready (o l m : Int) (dict : ByteArray) (w : World) (hs : dict.size ≤ maxLen) : Calls Tryz.prog 31 #[.agg #[.int .i64 o, .int .i64 l, .int .i64 m], .string dict] w fun e w' => e = .returned (.bool (dataFits o l m dict)) ∧ Below w.heap.size w w' := by
 have HC := hid (fun v => c_sDataFits o l m dict v hs)
 have hB0 : Below w.heap.size w (w.alloc (.cells #[.int .i64 o, .int .i64 l, .int .i64 m] 28)) := by exact obB
 obtain ⟨y0, y1, y2⟩ := (Blk.new w 28 #[.int .i64 o, .int .i64 l, .int .i64 m]).cells3
 go_enter Tryz.func31, Tryz.ntmps31
 go_wp2_with fail
 refine (HC.out _).mono ?_
 rintro e w1 ⟨rfl, hb1⟩
 go_wp2_with fail
 go_ret
 exact ⟨rfl, by exact obB⟩

theorem optV_ex (r : Option ByteArray) : ∃ S q, optV r = .tuple #[.string S, .bool q] := by cases r <;> exact ⟨_, _, rfl⟩

end Go.Proofs.YtmlaaammfnboiaaGreatDoor
