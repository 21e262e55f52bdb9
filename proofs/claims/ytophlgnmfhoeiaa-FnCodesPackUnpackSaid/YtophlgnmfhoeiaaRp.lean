/- Contracts of Decompress and RepackStream in both programs. No condition but that the numbers are int's. -/
import Derived.Test.YtophlgnmfhoeiaaPd
namespace Go.Proofs.Ytophlgnmfhoeiaa
open Go.ChangeShapes Go.WideShapes Go.ChangeAt Go.RowKit Go.Joins
set_option linter.unusedVariables false
set_option linter.unusedSectionVars false

theorem Kn.Ok.uc_ok {k : Kn} (h : k.Ok) (s : ByteArray) : CodesOk k (k.uc s) := ⟨h, Kn.uc_len h s, Kn.uc_good h s⟩

theorem Kn.Ok.turn_uc_ok {k : Kn} (h : k.Ok) (s : ByteArray) : CodesOk k.turn (k.uc s) := ⟨h.turn, Kn.uc_len h s, by rw [Kn.turn_good]; exact Kn.uc_good h s⟩

theorem Kn.Wf.turn {k : Kn} (h : k.Wf) : k.turn.Wf := ⟨h.pairs, h.base, h.last, h.len⟩

/-- the stream in the other order -/
def Kn.again (k : Kn) (s : ByteArray) : ByteArray := k.turn.packed (k.uc s)
def RepOk (k : Kn) (s : ByteArray) : Prop := UnpOk k s ∧ k.ue s = 0
section
variable (k : Kn) (A : Option Addr) (cap L : Nat) (w : World) (h : PsAt w L A cap k.ps) (hL : L ≤ w.heap.size) (hw : k.Wf) (s : ByteArray)
include h hL hw
theorem c_sDecompress_no (hs : s.size ≤ maxLen) (hk : ¬ UnpOk k s) : Calls Try.prog 62 #[.agg #[.int .i64 k.o, .int .i64 k.l, .int .i64 k.m, .slice A k.ps.length cap, .int .i64 k.base, .int .i64 k.last], .string s] w fun e w' => e = .returned (.tuple #[.string ByteArray.empty, .int .i64 4, .int .i64 0]) ∧ Below w.heap.size w w' := by
  have HU := hid (fun (v : World) (hb : Below w.heap.size w v) => c_sUnpackCodes_no k A cap L v (h.below hb hL) (Nat.le_trans hL hb.size) hw s hs hk)
  obtain ⟨p0, p1, p2, p3, p4, p5⟩ := (Blk.new w 32 #[.int .i64 k.o, .int .i64 k.l, .int .i64 k.m, .slice A k.ps.length cap, .int .i64 k.base, .int .i64 k.last]).cells6
  clear h hw hk
  go_enter Try.func62, Try.ntmps62
  go_wp2_with fail
  refine (HU.out _ (by (repeat (first | with_reducible (first | assumption | exact Below.refl _ _ | refine bel_alloc ?_ _ | refine bel_drew ?_ | refine bel_drewN ?_ _ | refine bel_set ?_ (by first | omega | (simp; done) | (simp; omega)) _ | refine bel_trans ?_ (by assumption)) | assumption | refine bel_trans ?_ (by assumption))))).mono ?_
  rintro e w1 ⟨A3, c3, rfl, _, hb1⟩
  go_wp2
  go_ret3
  exact ⟨rfl, by (repeat (first | with_reducible (first | assumption | exact Below.refl _ _ | refine bel_alloc ?_ _ | refine bel_drew ?_ | refine bel_drewN ?_ _ | refine bel_set ?_ (by first | omega | (simp; done) | (simp; omega)) _ | refine bel_trans ?_ (by assumption)) | assumption | refine bel_trans ?_ (by assumption)))⟩

theorem c_sDecompress_yes (hk : UnpOk k s) : Calls Try.prog 62 #[.agg #[.int .i64 k.o, .int .i64 k.l, .int .i64 k.m, .slice A k.ps.length cap, .int .i64 k.base, .int .i64 k.last], .string s] w fun e w' => e = .returned (.tuple #[.string (str (k.dat (k.uc s))), .int .i64 (k.ue s), .int .i64 (k.uu s : Nat)]) ∧ Below w.heap.size w w' := by
  have HU := hid (fun (v : World) (hb : Below w.heap.size w v) => c_sUnpackCodes_yes k A cap L v (h.below hb hL) (Nat.le_trans hL hb.size) hw s hk)
  unfold UDone at HU
  have HW := hid (fun (v : World) (hb : Below w.heap.size w v) (A2 : Option Addr) (c2 : Nat) (hq : NumsAt v v.heap.size A2 c2 (k.uc s)) => c_l2Walk_yes k A cap L v (h.below hb hL) (Nat.le_trans hL hb.size) A2 c2 v.heap.size (k.uc s) hq (Nat.le_refl _) (hk.1.uc_ok s))
  unfold WYes at HW
  have heb := k.ue_bd s
  have hcl := Kn.uc_len hk.1 s
  have hub := Kn.uu_bd hk.1 s
  have hsz := hk.2
  have hwl : (k.widths (k.uc s)).length = (k.uc s).length := Kn.widths_length k _
  obtain ⟨Ws, hWs⟩ : ∃ Ws, Ws = k.widths (k.uc s) := ⟨_, rfl⟩
  obtain ⟨Ds, hDs⟩ : ∃ Ds, Ds = str (k.dat (k.uc s)) := ⟨_, rfl⟩
  simp only [← hWs, ← hDs] at HW
  rw [← hDs]
  obtain ⟨C, hC⟩ : ∃ C, C = k.uc s := ⟨_, rfl⟩
  obtain ⟨E, hE⟩ : ∃ E, E = k.ue s := ⟨_, rfl⟩
  obtain ⟨N, hN⟩ : ∃ N, N = k.uu s := ⟨_, rfl⟩
  simp only [← hC, ← hE, ← hN] at HU HW heb hcl hub
  rw [← hE, ← hN]
  have kN := Blk.new w 32 #[.int .i64 k.o, .int .i64 k.l, .int .i64 k.m, .slice A k.ps.length cap, .int .i64 k.base, .int .i64 k.last]
  obtain ⟨p0, p1, p2, p3, p4, p5⟩ := kN.cells6
  have e4 : (E == 4) = false := eq_no (by omega)
  clear h hw hk hWs hDs hwl hC hE hN
  go_enter Try.func62, Try.ntmps62
  go_wp2_with fail
  refine (HU.out _ (by (repeat (first | with_reducible (first | assumption | exact Below.refl _ _ | refine bel_alloc ?_ _ | refine bel_drew ?_ | refine bel_drewN ?_ _ | refine bel_set ?_ (by first | omega | (simp; done) | (simp; omega)) _ | refine bel_trans ?_ (by assumption)) | assumption | refine bel_trans ?_ (by assumption))))).mono ?_
  rintro e w1 ⟨A3, c3, rfl, ho, hb1⟩
  have hB1 : Below w.heap.size w w1 := by (repeat (first | with_reducible (first | assumption | exact Below.refl _ _ | refine bel_alloc ?_ _ | refine bel_drew ?_ | refine bel_drewN ?_ _ | refine bel_set ?_ (by first | omega | (simp; done) | (simp; omega)) _ | refine bel_trans ?_ (by assumption)) | assumption | refine bel_trans ?_ (by assumption)))
  have HO := hid (own_ints_at ho)
  have kN1 := kN.on hb1
  clear p0 p1 p2 p3 p4 p5 hb1 ho kN
  obtain ⟨p0, p1, p2, p3, p4, p5⟩ := kN1.cells6
  go_wp2_with fail
  refine (HW.out _ hB1 _ _ HO.out).mono ?_
  rintro e w2 ⟨k', A', cap', A4, c4, rfl, _, hb2⟩
  clear p0 p1 p2 p3 p4 p5
  go_wp2
  go_ret3
  exact ⟨rfl, by (repeat (first | with_reducible (first | assumption | exact Below.refl _ _ | refine bel_alloc ?_ _ | refine bel_drew ?_ | refine bel_drewN ?_ _ | refine bel_set ?_ (by first | omega | (simp; done) | (simp; omega)) _ | refine bel_trans ?_ (by assumption)) | assumption | refine bel_trans ?_ (by assumption)))⟩

theorem c_RepackStream_inv (hs : s.size ≤ maxLen) (hk : ¬ UnpOk k s) : Calls Try.prog 64 #[.agg #[.int .i64 k.o, .int .i64 k.l, .int .i64 k.m, .slice A k.ps.length cap, .int .i64 k.base, .int .i64 k.last], .string s] w fun e w' => e = .returned (.tuple #[.string ByteArray.empty, .bool false]) ∧ Below w.heap.size w w' := by
  have HU := hid (fun (v : World) (hb : Below w.heap.size w v) => c_UnpackCodes_no k A cap L v (h.below hb hL) (Nat.le_trans hL hb.size) hw s hs hk)
  obtain ⟨p0, p1, p2, p3, p4, p5⟩ := (Blk.new w 32 #[.int .i64 k.o, .int .i64 k.l, .int .i64 k.m, .slice A k.ps.length cap, .int .i64 k.base, .int .i64 k.last]).cells6
  clear h hw hk
  go_enter Try.func64, Try.ntmps64
  go_wp2_with fail
  refine (HU.out _ (by (repeat (first | with_reducible (first | assumption | exact Below.refl _ _ | refine bel_alloc ?_ _ | refine bel_drew ?_ | refine bel_drewN ?_ _ | refine bel_set ?_ (by first | omega | (simp; done) | (simp; omega)) _ | refine bel_trans ?_ (by assumption)) | assumption | refine bel_trans ?_ (by assumption))))).mono ?_
  rintro e w1 ⟨rfl, hb1⟩
  go_wp2
  go_ret2
  exact ⟨rfl, by (repeat (first | with_reducible (first | assumption | exact Below.refl _ _ | refine bel_alloc ?_ _ | refine bel_drew ?_ | refine bel_drewN ?_ _ | refine bel_set ?_ (by first | omega | (simp; done) | (simp; omega)) _ | refine bel_trans ?_ (by assumption)) | assumption | refine bel_trans ?_ (by assumption)))⟩

theorem c_sRepackStream_inv (hs : s.size ≤ maxLen) (hk : ¬ UnpOk k s) : Calls Try.prog 65 #[.agg #[.int .i64 k.o, .int .i64 k.l, .int .i64 k.m, .slice A k.ps.length cap, .int .i64 k.base, .int .i64 k.last], .string s] w fun e w' => e = .returned (.tuple #[.string ByteArray.empty, .bool false]) ∧ Below w.heap.size w w' := by
  have HU := hid (fun (v : World) (hb : Below w.heap.size w v) => c_sUnpackCodes_no k A cap L v (h.below hb hL) (Nat.le_trans hL hb.size) hw s hs hk)
  obtain ⟨p0, p1, p2, p3, p4, p5⟩ := (Blk.new w 32 #[.int .i64 k.o, .int .i64 k.l, .int .i64 k.m, .slice A k.ps.length cap, .int .i64 k.base, .int .i64 k.last]).cells6
  clear h hw hk
  go_enter Try.func65, Try.ntmps65
  go_wp2_with fail
  refine (HU.out _ (by (repeat (first | with_reducible (first | assumption | exact Below.refl _ _ | refine bel_alloc ?_ _ | refine bel_drew ?_ | refine bel_drewN ?_ _ | refine bel_set ?_ (by first | omega | (simp; done) | (simp; omega)) _ | refine bel_trans ?_ (by assumption)) | assumption | refine bel_trans ?_ (by assumption))))).mono ?_
  rintro e w1 ⟨A3, c3, rfl, _, hb1⟩
  go_wp2
  go_ret2
  exact ⟨rfl, by (repeat (first | with_reducible (first | assumption | exact Below.refl _ _ | refine bel_alloc ?_ _ | refine bel_drew ?_ | refine bel_drewN ?_ _ | refine bel_set ?_ (by first | omega | (simp; done) | (simp; omega)) _ | refine bel_trans ?_ (by assumption)) | assumption | refine bel_trans ?_ (by assumption)))⟩

theorem c_RepackStream_end (hk : UnpOk k s) (he : k.ue s ≠ 0) : Calls Try.prog 64 #[.agg #[.int .i64 k.o, .int .i64 k.l, .int .i64 k.m, .slice A k.ps.length cap, .int .i64 k.base, .int .i64 k.last], .string s] w fun e w' => e = .returned (.tuple #[.string ByteArray.empty, .bool false]) ∧ Below w.heap.size w w' := by
  have HU := hid (fun (v : World) (hb : Below w.heap.size w v) => c_UnpackCodes_yes k A cap L v (h.below hb hL) (Nat.le_trans hL hb.size) hw s hk)
  obtain ⟨E, hE⟩ : ∃ E, E = k.ue s := ⟨_, rfl⟩
  simp only [← hE] at HU he
  have e1 : (E != 0) = true := bne_iff_ne.2 he
  obtain ⟨p0, p1, p2, p3, p4, p5⟩ := (Blk.new w 32 #[.int .i64 k.o, .int .i64 k.l, .int .i64 k.m, .slice A k.ps.length cap, .int .i64 k.base, .int .i64 k.last]).cells6
  clear h hw hk he hE
  go_enter Try.func64, Try.ntmps64
  go_wp2_with fail
  refine (HU.out _ (by (repeat (first | with_reducible (first | assumption | exact Below.refl _ _ | refine bel_alloc ?_ _ | refine bel_drew ?_ | refine bel_drewN ?_ _ | refine bel_set ?_ (by first | omega | (simp; done) | (simp; omega)) _ | refine bel_trans ?_ (by assumption)) | assumption | refine bel_trans ?_ (by assumption))))).mono ?_
  rintro e w1 ⟨A3, c3, rfl, _, hb1⟩
  go_wp2
  go_ret2
  exact ⟨rfl, by (repeat (first | with_reducible (first | assumption | exact Below.refl _ _ | refine bel_alloc ?_ _ | refine bel_drew ?_ | refine bel_drewN ?_ _ | refine bel_set ?_ (by first | omega | (simp; done) | (simp; omega)) _ | refine bel_trans ?_ (by assumption)) | assumption | refine bel_trans ?_ (by assumption)))⟩

theorem c_sRepackStream_end (hk : UnpOk k s) (he : k.ue s ≠ 0) : Calls Try.prog 65 #[.agg #[.int .i64 k.o, .int .i64 k.l, .int .i64 k.m, .slice A k.ps.length cap, .int .i64 k.base, .int .i64 k.last], .string s] w fun e w' => e = .returned (.tuple #[.string ByteArray.empty, .bool false]) ∧ Below w.heap.size w w' := by
  have HU := hid (fun (v : World) (hb : Below w.heap.size w v) => c_sUnpackCodes_yes k A cap L v (h.below hb hL) (Nat.le_trans hL hb.size) hw s hk)
  unfold UDone at HU
  obtain ⟨E, hE⟩ : ∃ E, E = k.ue s := ⟨_, rfl⟩
  simp only [← hE] at HU he
  have e1 : (E != 0) = true := bne_iff_ne.2 he
  obtain ⟨p0, p1, p2, p3, p4, p5⟩ := (Blk.new w 32 #[.int .i64 k.o, .int .i64 k.l, .int .i64 k.m, .slice A k.ps.length cap, .int .i64 k.base, .int .i64 k.last]).cells6
  clear h hw hk he hE
  go_enter Try.func65, Try.ntmps65
  go_wp2_with fail
  refine (HU.out _ (by (repeat (first | with_reducible (first | assumption | exact Below.refl _ _ | refine bel_alloc ?_ _ | refine bel_drew ?_ | refine bel_drewN ?_ _ | refine bel_set ?_ (by first | omega | (simp; done) | (simp; omega)) _ | refine bel_trans ?_ (by assumption)) | assumption | refine bel_trans ?_ (by assumption))))).mono ?_
  rintro e w1 ⟨A3, c3, rfl, _, hb1⟩
  go_wp2
  go_ret2
  exact ⟨rfl, by (repeat (first | with_reducible (first | assumption | exact Below.refl _ _ | refine bel_alloc ?_ _ | refine bel_drew ?_ | refine bel_drewN ?_ _ | refine bel_set ?_ (by first | omega | (simp; done) | (simp; omega)) _ | refine bel_trans ?_ (by assumption)) | assumption | refine bel_trans ?_ (by assumption)))⟩

theorem c_RepackStream_yes (hk : RepOk k s) : Calls Try.prog 64 #[.agg #[.int .i64 k.o, .int .i64 k.l, .int .i64 k.m, .slice A k.ps.length cap, .int .i64 k.base, .int .i64 k.last], .string s] w fun e w' => e = .returned (.tuple #[.string (k.again s), .bool true]) ∧ Below w.heap.size w w' := by
  have HU := hid (fun (v : World) (hb : Below w.heap.size w v) => c_UnpackCodes_yes k A cap L v (h.below hb hL) (Nat.le_trans hL hb.size) hw s hk.1)
  have HP := hid (fun (v : World) (hb : Below w.heap.size w v) (A2 : Option Addr) (c2 : Nat) (hq : NumsAt v v.heap.size A2 c2 (k.uc s)) => c_PackCodes_yes k.turn A cap L v (h.below hb hL) (Nat.le_trans hL hb.size) hw.turn A2 c2 v.heap.size (k.uc s) hq (Nat.le_refl _) (hk.1.1.turn_uc_ok s))
  simp only [hk.2] at HU
  obtain ⟨T, hT⟩ : ∃ T, T = k.again s := ⟨_, rfl⟩
  have hT2 : k.turn.packed (k.uc s) = T := hT.symm
  simp only [hT2] at HP
  rw [← hT]
  obtain ⟨C, hC⟩ : ∃ C, C = k.uc s := ⟨_, rfl⟩
  simp only [← hC] at HU HP
  have hord := (setOk_iff.1 hk.1.1.set).1
  have kN := Blk.new w 32 #[.int .i64 k.o, .int .i64 k.l, .int .i64 k.m, .slice A k.ps.length cap, .int .i64 k.base, .int .i64 k.last]
  obtain ⟨p0, p1, p2, p3, p4, p5⟩ := kN.cells6
  clear h hw hk hT hT2 hC
  go_enter Try.func64, Try.ntmps64
  go_wp2_with fail
  refine (HU.out _ (by (repeat (first | with_reducible (first | assumption | exact Below.refl _ _ | refine bel_alloc ?_ _ | refine bel_drew ?_ | refine bel_drewN ?_ _ | refine bel_set ?_ (by first | omega | (simp; done) | (simp; omega)) _ | refine bel_trans ?_ (by assumption)) | assumption | refine bel_trans ?_ (by assumption))))).mono ?_
  rintro e w1 ⟨A3, c3, rfl, ho, hb1⟩
  have hB1 : Below w.heap.size w w1 := by (repeat (first | with_reducible (first | assumption | exact Below.refl _ _ | refine bel_alloc ?_ _ | refine bel_drew ?_ | refine bel_drewN ?_ _ | refine bel_set ?_ (by first | omega | (simp; done) | (simp; omega)) _ | refine bel_trans ?_ (by assumption)) | assumption | refine bel_trans ?_ (by assumption)))
  have kN1 := kN.on hb1
  have HO := hid (own_ints_at (own_store_blk ho kN1 tykn_ti 0 (.int .i64 (1 - k.o))))
  have kN2 := kN1.set_ 0 (.int .i64 (1 - k.o))
  have hB2 : Below w.heap.size w (w1.setCell ⟨w.heap.size, 0, none⟩ (.int .i64 (1 - k.o))) := hB1.setCell (Nat.le_refl _) _
  clear p0 p1 p2 p3 p4 p5 hb1 ho kN
  obtain ⟨p0, p1, p2, p3, p4, p5⟩ := kN1.cells6
  have f0 := kN1.frozen 0
  obtain ⟨q0, q1, q2, q3, q4, q5⟩ := (show Blk _ _ _ #[.int .i64 (1 - k.o), .int .i64 k.l, .int .i64 k.m, .slice A k.ps.length cap, .int .i64 k.base, .int .i64 k.last] from kN2).cells6
  go_wp2_with fail
  refine (HP.out _ hB2 _ _ HO.out).mono ?_
  rintro e w2 ⟨rfl, hb2⟩
  go_wp2
  go_ret2
  exact ⟨rfl, bel_trans hB2 hb2⟩

theorem c_sRepackStream_yes (hk : RepOk k s) : Calls Try.prog 65 #[.agg #[.int .i64 k.o, .int .i64 k.l, .int .i64 k.m, .slice A k.ps.length cap, .int .i64 k.base, .int .i64 k.last], .string s] w fun e w' => e = .returned (.tuple #[.string (k.again s), .bool true]) ∧ Below w.heap.size w w' := by
  have HU := hid (fun (v : World) (hb : Below w.heap.size w v) => c_sUnpackCodes_yes k A cap L v (h.below hb hL) (Nat.le_trans hL hb.size) hw s hk.1)
  unfold UDone at HU
  have HP := hid (fun (v : World) (hb : Below w.heap.size w v) (A2 : Option Addr) (c2 : Nat) (hq : NumsAt v v.heap.size A2 c2 (k.uc s)) => c_l2Pack_yes k.turn A cap L v (h.below hb hL) (Nat.le_trans hL hb.size) A2 c2 v.heap.size (k.uc s) hq (Nat.le_refl _) (hk.1.1.turn_uc_ok s))
  have hko := hk.1.1.turn_uc_ok s
  have hpo := hko.1.pack_ok hko.2.2 hko.2.1
  have HL := hid (fun (v : World) => c_l1Pack k.turn.o (str (k.turn.bits (k.uc s))) v hpo.1 hpo.2)
  simp only [hko.1.pack_eq] at HL
  simp only [hk.2] at HU
  obtain ⟨T, hT⟩ : ∃ T, T = k.again s := ⟨_, rfl⟩
  have hT2 : k.turn.packed (k.uc s) = T := hT.symm
  obtain ⟨D, hD⟩ : ∃ D, D = str (k.turn.bits (k.uc s)) := ⟨_, rfl⟩
  simp only [hT2, ← hD] at HL HP
  rw [← hT]
  obtain ⟨C, hC⟩ : ∃ C, C = k.uc s := ⟨_, rfl⟩
  simp only [← hC] at HU HP
  have hord := (setOk_iff.1 hk.1.1.set).1
  have kN := Blk.new w 32 #[.int .i64 k.o, .int .i64 k.l, .int .i64 k.m, .slice A k.ps.length cap, .int .i64 k.base, .int .i64 k.last]
  obtain ⟨p0, p1, p2, p3, p4, p5⟩ := kN.cells6
  clear h hw hk hko hpo hT hT2 hD hC
  go_enter Try.func65, Try.ntmps65
  go_wp2_with fail
  refine (HU.out _ (by (repeat (first | with_reducible (first | assumption | exact Below.refl _ _ | refine bel_alloc ?_ _ | refine bel_drew ?_ | refine bel_drewN ?_ _ | refine bel_set ?_ (by first | omega | (simp; done) | (simp; omega)) _ | refine bel_trans ?_ (by assumption)) | assumption | refine bel_trans ?_ (by assumption))))).mono ?_
  rintro e w1 ⟨A3, c3, rfl, ho, hb1⟩
  have hB1 : Below w.heap.size w w1 := by (repeat (first | with_reducible (first | assumption | exact Below.refl _ _ | refine bel_alloc ?_ _ | refine bel_drew ?_ | refine bel_drewN ?_ _ | refine bel_set ?_ (by first | omega | (simp; done) | (simp; omega)) _ | refine bel_trans ?_ (by assumption)) | assumption | refine bel_trans ?_ (by assumption)))
  have kN1 := kN.on hb1
  have HO := hid (own_ints_at (ho.alloc (.cells #[.int .i64 (1 - k.o), .int .i64 k.l, .int .i64 k.m, .slice A k.ps.length cap, .int .i64 k.base, .int .i64 k.last] 32)))
  have hB2 : Below w.heap.size w (w1.alloc (.cells #[.int .i64 (1 - k.o), .int .i64 k.l, .int .i64 k.m, .slice A k.ps.length cap, .int .i64 k.base, .int .i64 k.last] 32)) := bel_alloc hB1 _
  clear p0 p1 p2 p3 p4 p5 hb1 ho kN
  obtain ⟨p0, p1, p2, p3, p4, p5⟩ := kN1.cells6
  have r0 := (kN1.alloc (.cells #[.int .i64 k.o, .int .i64 k.l, .int .i64 k.m, .slice A k.ps.length cap, .int .i64 k.base, .int .i64 k.last] 32)).cell 0
  simp only [List.getElem?_toArray, List.getElem?_cons_zero] at r0
  obtain ⟨m0, m1, m2, m3, m4, m5⟩ := (Blk.new w1 32 #[.int .i64 k.o, .int .i64 k.l, .int .i64 k.m, .slice A k.ps.length cap, .int .i64 k.base, .int .i64 k.last]).cells6
  have f0 := (Blk.new w1 32 #[.int .i64 k.o, .int .i64 k.l, .int .i64 k.m, .slice A k.ps.length cap, .int .i64 k.base, .int .i64 k.last]).frozen 0
  obtain ⟨q0, q1, q2, q3, q4, q5⟩ := (Blk.new w1 32 #[.int .i64 (1 - k.o), .int .i64 k.l, .int .i64 k.m, .slice A k.ps.length cap, .int .i64 k.base, .int .i64 k.last]).cells6
  go_wp2_with fail
  obtain ⟨W2, hW2⟩ : ∃ W2, W2 = w1.alloc (.cells #[.int .i64 (1 - k.o), .int .i64 k.l, .int .i64 k.m, .slice A k.ps.length cap, .int .i64 k.base, .int .i64 k.last] 32) := ⟨_, rfl⟩
  rw [← hW2] at HO hB2 q0 q1 q2 q3 q4 q5 ⊢
  clear hW2
  have hS := s6_mk q0 q1 q2 q3 q4 q5 (Below.refl W2.heap.size W2)
  refine wp_region_noPanic ?_
  refine wp_region_held_drew (S := (fun v => v.cell? ⟨w1.heap.size, 0, none⟩ = some (.int .i64 (1 - k.o)) ∧ v.cell? ⟨w1.heap.size, 1, none⟩ = some (.int .i64 k.l) ∧ v.cell? ⟨w1.heap.size, 2, none⟩ = some (.int .i64 k.m) ∧ v.cell? ⟨w1.heap.size, 3, none⟩ = some (.slice A k.ps.length cap) ∧ v.cell? ⟨w1.heap.size, 4, none⟩ = some (.int .i64 k.base) ∧ v.cell? ⟨w1.heap.size, 5, none⟩ = some (.int .i64 k.last) ∧ Below W2.heap.size W2 v)) (by kernel_rfl) (s6_drew hS) (fun hHeld => ?_)
  refine tk 0 ?_
  refine tk 1 ?_
  refine tk 2 ?_
  refine tk 3 ?_
  refine tk 4 ?_
  refine wpAnyH_ready (rs := [5]) (by kernel_rfl) (by simp) ?_
  refine AllReadyH.cons (o := ?or1_5) ?ir1_5 (fun K hK => ?sr1_5) AllReadyH.nil
  case ir1_5 => (simp only [List.getElem?_toArray, List.getElem?_cons_succ, List.getElem?_cons_zero]; rfl)
  (first | (go_simp; (first | (go_at_call 121; refine (HP.out _ (bel_drew hB2) _ _ (show NumsAt W2.drew W2.drew.heap.size A3 c3 C from HO.out)).mono ?_; rintro e w2 ⟨rfl, hb2⟩) | (go_at_call 120; refine (HL.out _).mono ?_; rintro e w3 ⟨rfl, hb3⟩) | skip)))
  refine hK.out _ _ ?kr1_5 (fun hHeld => ?_)
  case kr1_5 => (try dsimp only); (first | with_reducible assumption | exact s6_bel (by assumption) (by assumption) | assumption | exact s6_alloc (by assumption) _)
  clear hK K
  try simp only [Act.put, List.setIfInBounds_toArray, List.set_cons_zero, List.set_cons_succ]
  refine wpAnyH_ready (rs := [6]) (by kernel_rfl) (by simp) ?_
  refine AllReadyH.cons (o := ?or1_6) ?ir1_6 (fun K hK => ?sr1_6) AllReadyH.nil
  case ir1_6 => (simp only [List.getElem?_toArray, List.getElem?_cons_succ, List.getElem?_cons_zero]; rfl)
  (first | (go_simp; (first | (go_at_call 121; refine (HP.out _ (bel_drew hB2) _ _ (show NumsAt W2.drew W2.drew.heap.size A3 c3 C from HO.out)).mono ?_; rintro e w2 ⟨rfl, hb2⟩) | (go_at_call 120; refine (HL.out _).mono ?_; rintro e w3 ⟨rfl, hb3⟩) | skip)))
  refine hK.out _ _ ?kr1_6 (fun hHeld => ?_)
  case kr1_6 => (try dsimp only); (first | with_reducible assumption | exact s6_bel (by assumption) (by assumption) | assumption | exact s6_alloc (by assumption) _)
  clear hK K
  try simp only [Act.put, List.setIfInBounds_toArray, List.set_cons_zero, List.set_cons_succ]
  refine tk 7 ?_
  refine tk 8 ?_
  refine wpAnyH_done (by kernel_rfl) ?_ _
  refine NoPanic.normal ?_
  go_wp2
  go_ret2
  exact ⟨rfl, bel_trans hB2 hHeld.2.2.2.2.2.2⟩

end
end Go.Proofs.Ytophlgnmfhoeiaa
