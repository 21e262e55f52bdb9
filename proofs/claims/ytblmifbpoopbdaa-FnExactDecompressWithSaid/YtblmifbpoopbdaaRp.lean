/- Contracts of Decompress and RepackStream in both programs. No condition but that the numbers are int's. -/
import Derived.Test.YtblmifbpoopbdaaPd
namespace Go.Proofs.Ytblmifbpoopbdaa
open Go.ChangeShapes Go.WideShapes Go.ChangeAt Go.RowKit Go.Joins
set_option linter.unusedVariables false
set_option linter.unusedSectionVars false

theorem Kn.Ok.uc_ok {k : Kn} (h : k.Ok) (s : ByteArray) : CodesOk k (k.uc s) := ⟨h, Kn.uc_len h s, Kn.uc_good h s⟩

theorem Kn.Ok.turn_uc_ok {k : Kn} (h : k.Ok) (s : ByteArray) : CodesOk k.turn (k.uc s) := ⟨h.turn, Kn.uc_len h s, by rw [Kn.turn_good]; exact Kn.uc_good h s⟩

theorem Kn.Wf.turn {k : Kn} (h : k.Wf) : k.turn.Wf := ⟨h.pairs, h.base, h.last, h.len⟩

/-- the stream in the other order -/
def Kn.again (k : Kn) (s : ByteArray) : ByteArray := k.turn.packed (k.uc s)
def RepOk (k : Kn) (s : ByteArray) : Prop := UnpOk k s ∧ k.ue s = 0
section
variable (k : Kn) (A : Option Addr) (cap L : Nat) (w : World) (h : PsAt w L A cap k.ps) (hL : L ≤ w.heap.size) (hw : k.Wf) (s : ByteArray)
include h hL hw
theorem c_sDecompress_no (hs : s.size ≤ maxLen) (hk : ¬ UnpOk k s) : Calls Try.prog 152 #[.agg #[.int .i64 k.o, .int .i64 k.l, .int .i64 k.m, .slice A k.ps.length cap, .int .i64 k.base, .int .i64 k.last], .string s] w fun e w' => e = .returned (.tuple #[.string ByteArray.empty, .int .i64 4, .int .i64 0]) ∧ Below w.heap.size w w' := by
  have HU := hid (fun (v : World) (hb : Below w.heap.size w v) => c_sUnpackCodes_no k A cap L v (h.below hb hL) (Nat.le_trans hL hb.size) hw s hs hk)
  obtain ⟨p0, p1, p2, p3, p4, p5⟩ := (Blk.new w 27 #[.int .i64 k.o, .int .i64 k.l, .int .i64 k.m, .slice A k.ps.length cap, .int .i64 k.base, .int .i64 k.last]).cells6
  clear h hw hk
  go_enter Try.func152, Try.ntmps152
  go_wp2_with fail
  refine (HU.out _ (by (repeat (first | with_reducible (first | assumption | exact Below.refl _ _ | refine bel_alloc ?_ _ | refine bel_drew ?_ | refine bel_drewN ?_ _ | refine bel_set ?_ (by first | omega | (simp; done) | (simp; omega)) _ | refine bel_trans ?_ (by assumption)) | assumption | refine bel_trans ?_ (by assumption))))).mono ?_
  rintro e w1 ⟨A3, c3, rfl, _, hb1⟩
  go_wp2
  go_ret3
  exact ⟨rfl, by (repeat (first | with_reducible (first | assumption | exact Below.refl _ _ | refine bel_alloc ?_ _ | refine bel_drew ?_ | refine bel_drewN ?_ _ | refine bel_set ?_ (by first | omega | (simp; done) | (simp; omega)) _ | refine bel_trans ?_ (by assumption)) | assumption | refine bel_trans ?_ (by assumption)))⟩

theorem c_sDecompress_yes (hk : UnpOk k s) : Calls Try.prog 152 #[.agg #[.int .i64 k.o, .int .i64 k.l, .int .i64 k.m, .slice A k.ps.length cap, .int .i64 k.base, .int .i64 k.last], .string s] w fun e w' => e = .returned (.tuple #[.string (str (k.dat (k.uc s))), .int .i64 (k.ue s), .int .i64 (k.uu s : Nat)]) ∧ Below w.heap.size w w' := by
  have HU := hid (fun (v : World) (hb : Below w.heap.size w v) => c_sUnpackCodes_yes k A cap L v (h.below hb hL) (Nat.le_trans hL hb.size) hw s hk)
  unfold UDone at HU
  have HW := hid (fun (v : World) (hb : Below w.heap.size w v) (A2 : Option Addr) (c2 : Nat) (hq : NumsAt v v.heap.size A2 c2 (k.uc s)) => c_l2Walk_yes k A cap L v (h.below hb hL) (Nat.le_trans hL hb.size) A2 c2 v.heap.size (k.uc s) hq (Nat.le_refl _) (hk.1.uc_ok s))
  unfold WYes at HW
  have heb := k.ue_bd s
  have hcl := Kn.uc_len hk.1 s
  have hub := Kn.uu_bd hk.1 s
  have hsz := hk.2
  have hwl : (k.widths (k.uc s)).length = (k.uc s).length := Kn.widths_length k _
  obtain ⟨Ws, hWs⟩ : ∃ Ws, Ws = k.widths (k.uc s) := ⟨_, rfl⟩
  obtain ⟨Ds, hDs⟩ : ∃ Ds, Ds = str (k.dat (k.uc s)) := ⟨_, rfl⟩
  simp only [← hWs, ← hDs] at HW
  rw [← hDs]
  obtain ⟨C, hC⟩ : ∃ C, C = k.uc s := ⟨_, rfl⟩
  obtain ⟨E, hE⟩ : ∃ E, E = k.ue s := ⟨_, rfl⟩
  obtain ⟨N, hN⟩ : ∃ N, N = k.uu s := ⟨_, rfl⟩
  simp only [← hC, ← hE, ← hN] at HU HW heb hcl hub
  rw [← hE, ← hN]
  have kN := Blk.new w 27 #[.int .i64 k.o, .int .i64 k.l, .int .i64 k.m, .slice A k.ps.length cap, .int .i64 k.base, .int .i64 k.last]
  obtain ⟨p0, p1, p2, p3, p4, p5⟩ := kN.cells6
  have e4 : (E == 4) = false := eq_no (by omega)
  clear h hw hk hWs hDs hwl hC hE hN
  go_enter Try.func152, Try.ntmps152
  go_wp2_with fail
  refine (HU.out _ (by (repeat (first | with_reducible (first | assumption | exact Below.refl _ _ | refine bel_alloc ?_ _ | refine bel_drew ?_ | refine bel_drewN ?_ _ | refine bel_set ?_ (by first | omega | (simp; done) | (simp; omega)) _ | refine bel_trans ?_ (by assumption)) | assumption | refine bel_trans ?_ (by assumption))))).mono ?_
  rintro e w1 ⟨A3, c3, rfl, ho, hb1⟩
  have hB1 : Below w.heap.size w w1 := by (repeat (first | with_reducible (first | assumption | exact Below.refl _ _ | refine bel_alloc ?_ _ | refine bel_drew ?_ | refine bel_drewN ?_ _ | refine bel_set ?_ (by first | omega | (simp; done) | (simp; omega)) _ | refine bel_trans ?_ (by assumption)) | assumption | refine bel_trans ?_ (by assumption)))
  have HO := hid (own_ints_at ho)
  have kN1 := kN.on hb1
  clear p0 p1 p2 p3 p4 p5 hb1 ho kN
  obtain ⟨p0, p1, p2, p3, p4, p5⟩ := kN1.cells6
  go_wp2_with fail
  refine (HW.out _ hB1 _ _ HO.out).mono ?_
  rintro e w2 ⟨k', A', cap', A4, c4, rfl, _, hb2⟩
  clear p0 p1 p2 p3 p4 p5
  go_wp2
  go_ret3
  exact ⟨rfl, by (repeat (first | with_reducible (first | assumption | exact Below.refl _ _ | refine bel_alloc ?_ _ | refine bel_drew ?_ | refine bel_drewN ?_ _ | refine bel_set ?_ (by first | omega | (simp; done) | (simp; omega)) _ | refine bel_trans ?_ (by assumption)) | assumption | refine bel_trans ?_ (by assumption)))⟩

end
end Go.Proofs.Ytblmifbpoopbdaa
