/- The contracts of CompressWith in the program. No condition but that the numbers are int's. -/
import Derived.Test.YtfklkepodpcdgaaQv
namespace Go.Proofs.Ytfklkepodpcdgaa
open Go.ChangeShapes Go.WideShapes Go.ChangeAt Go.RowKit Go.Joins
set_option linter.unusedVariables false

theorem Kn.learned_cleared (k : Kn) (d : List UInt8) : (k.learned d).cleared = k.learned d := by
  unfold Kn.learned
  exact Kn.settled_cleared _

theorem c_CompressWith_no (o l m : Int) (w : World) (D T : ByteArray) (hs : D.size ≤ maxLen) (hk : ¬ FitsOk (begun o l m) D) : Calls Try.prog 50 #[.agg #[.int .i64 o, .int .i64 l, .int .i64 m], .string D, .string T] w fun e w' => e = .returned (.tuple #[.string ByteArray.empty, .bool false]) ∧ Below w.heap.size w w' := by
  have hB0 : Below w.heap.size w (w.alloc (.cells #[.int .i64 o, .int .i64 l, .int .i64 m] 52)) := by (repeat (first | with_reducible (first | assumption | exact Below.refl _ _ | refine bel_alloc ?_ _ | refine bel_drew ?_ | refine bel_drewN ?_ _ | refine bel_set ?_ (by first | omega | (simp; done) | (simp; omega)) _ | refine bel_trans ?_ (by assumption)) | assumption | refine bel_trans ?_ (by assumption)))
  obtain ⟨y0, y1, y2⟩ := (Blk.new w 52 #[.int .i64 o, .int .i64 l, .int .i64 m]).cells3
  have HSt := hid (fun (v : World) => c_prime_no o l m v D hs hk)
  clear hk
  go_enter Try.func50, Try.ntmps50
  go_wp2_with fail
  refine (HSt.out _).mono ?_
  rintro e w1 ⟨rfl, hb1⟩
  go_wp2
  go_ret2
  exact ⟨rfl, by (repeat (first | with_reducible (first | assumption | exact Below.refl _ _ | refine bel_alloc ?_ _ | refine bel_drew ?_ | refine bel_drewN ?_ _ | refine bel_set ?_ (by first | omega | (simp; done) | (simp; omega)) _ | refine bel_trans ?_ (by assumption)) | assumption | refine bel_trans ?_ (by assumption)))⟩

theorem c_CompressWith_bad (o l m : Int) (w : World) (D T : ByteArray) (hk : FitsOk (begun o l m) D) (K : Kn) (hK : K = ((begun o l m).learned D.data.toList)) (hT : T.size ≤ maxLen) (hu : ¬ FitsOk K T) : Calls Try.prog 50 #[.agg #[.int .i64 o, .int .i64 l, .int .i64 m], .string D, .string T] w fun e w' => e = .returned (.tuple #[.string ByteArray.empty, .bool false]) ∧ Below w.heap.size w w' := by
  have hB0 : Below w.heap.size w (w.alloc (.cells #[.int .i64 o, .int .i64 l, .int .i64 m] 52)) := by (repeat (first | with_reducible (first | assumption | exact Below.refl _ _ | refine bel_alloc ?_ _ | refine bel_drew ?_ | refine bel_drewN ?_ _ | refine bel_set ?_ (by first | omega | (simp; done) | (simp; omega)) _ | refine bel_trans ?_ (by assumption)) | assumption | refine bel_trans ?_ (by assumption)))
  obtain ⟨y0, y1, y2⟩ := (Blk.new w 52 #[.int .i64 o, .int .i64 l, .int .i64 m]).cells3
  have hKo : K.Ok := by rw [hK]; exact hk.1.learned hk.lits.1
  have hKc : K.cleared = K := by rw [hK]; exact Kn.learned_cleared _ _
  have HSt := hid (fun (v : World) => c_prime_yes o l m v D hk K hK)
  have HCo := hid (fun (L pb : Nat) (xs : List Value) (pd : Nat → Prop) (fb : Nat) (sv : Value) (v : World) (hL : L ≤ v.heap.size) (h : WS L pb 133 xs pd fb sv (Wr.fresh K) v) => c_compress_no L pb xs pd fb sv K v hKo hKc hL T hT (by rw [Bool.eq_false_iff]; exact fun e => hu ⟨hKo, e⟩) h)
  clear hk hK hu hKo hKc
  go_enter Try.func50, Try.ntmps50
  go_wp2_with fail
  refine (HSt.out _).mono ?_
  rintro e w1 ⟨pb, fb, db, te, rfl, hws, hown, hb1⟩
  have hB1 := bel_trans hB0 hb1
  have HW1 := hid hws
  have hsz := hb1.size
  have hb0 := hB0.size
  clear hws hown y0 y1 y2 hb1
  go_wp2_with fail
  refine (HCo.out _ pb _ _ fb _ _ hsz HW1.out).mono ?_
  rintro e w2 ⟨rfl, hb2, hc2, h2⟩
  go_wp2
  go_ret2
  exact ⟨rfl, hB1.trans (hb2.mono hb0)⟩

theorem c_CompressWith_yes (o l m : Int) (w : World) (D T : ByteArray) (hk : FitsOk (begun o l m) D) (K : Kn) (hK : K = ((begun o l m).learned D.data.toList)) (hu : FitsOk K T) : Calls Try.prog 50 #[.agg #[.int .i64 o, .int .i64 l, .int .i64 m], .string D, .string T] w fun e w' => e = .returned (.tuple #[.string (K.packed (K.greedy T.data.toList)), .bool true]) ∧ Below w.heap.size w w' := by
  have hB0 : Below w.heap.size w (w.alloc (.cells #[.int .i64 o, .int .i64 l, .int .i64 m] 52)) := by (repeat (first | with_reducible (first | assumption | exact Below.refl _ _ | refine bel_alloc ?_ _ | refine bel_drew ?_ | refine bel_drewN ?_ _ | refine bel_set ?_ (by first | omega | (simp; done) | (simp; omega)) _ | refine bel_trans ?_ (by assumption)) | assumption | refine bel_trans ?_ (by assumption)))
  obtain ⟨y0, y1, y2⟩ := (Blk.new w 52 #[.int .i64 o, .int .i64 l, .int .i64 m]).cells3
  have hKo : K.Ok := by rw [hK]; exact hk.1.learned hk.lits.1
  have hKc : K.cleared = K := by rw [hK]; exact Kn.learned_cleared _ _
  have HSt := hid (fun (v : World) => c_prime_yes o l m v D hk K hK)
  have HCo := hid (fun (L pb : Nat) (xs : List Value) (pd : Nat → Prop) (fb : Nat) (sv : Value) (v : World) (hL : L ≤ v.heap.size) (h : WS L pb 133 xs pd fb sv (Wr.fresh K) v) => c_compress_yes L pb xs pd fb sv K v hKc hL T hu h)
  obtain ⟨X, hX⟩ : ∃ X, X = K.packed (K.greedy T.data.toList) := ⟨_, rfl⟩
  simp only [← hX] at HCo ⊢
  clear hX
  clear hk hK hu hKo hKc
  go_enter Try.func50, Try.ntmps50
  go_wp2_with fail
  refine (HSt.out _).mono ?_
  rintro e w1 ⟨pb, fb, db, te, rfl, hws, hown, hb1⟩
  have hB1 := bel_trans hB0 hb1
  have HW1 := hid hws
  have hsz := hb1.size
  have hb0 := hB0.size
  clear hws hown y0 y1 y2 hb1
  go_wp2_with fail
  refine (HCo.out _ pb _ _ fb _ _ hsz HW1.out).mono ?_
  rintro e w2 ⟨rfl, hb2, hc2, h2⟩
  go_wp2
  go_ret2
  exact ⟨rfl, hB1.trans (hb2.mono hb0)⟩
end Go.Proofs.Ytfklkepodpcdgaa
