/- The contracts of WriterValid in both programs, and of the program's resumeWriting as far as its answer goes. No condition but that the numbers are int's. -/
import Derived.Test.YtfklkepodpcdgaaTrd
import Derived.Test.YtfklkepodpcdgaaGa
import Derived.Test.YtfklkepodpcdgaaBe
import Derived.Test.YtfklkepodpcdgaaBj
import Derived.Test.YtfklkepodpcdgaaGb
namespace Go.Proofs.Ytfklkepodpcdgaa
open Go.ChangeShapes Go.WideShapes Go.ChangeAt Go.RowKit Go.Joins
set_option linter.unusedVariables false

set_option maxHeartbeats 4000000 in
theorem c_isWord_yes (L fb : Nat) (k : Kn) (A : Option Addr) (cap nb cap2 : Nat) (N : Nat → Nat) (Lo : Nat → Option Nat) (bm n : Nat) (D : ByteArray) (w : World) (hk : k.Ok) (h : FQ L fb k A cap nb cap2 k.ps N Lo bm n w) (h0 : 0 < D.size) (hs : D.size ≤ 1048576) (hl : ((D[0]).toNat : Int) < k.c) (hn : 0 ≤ k.find D.data.toList) :
    Calls Try.prog 176 #[.pointer (some ⟨fb, 0, none⟩), .string D] w fun e w' => e = .returned (.bool true) ∧ Below w.heap.size w w' := by
  have HL := hid (c_longest L fb k A cap nb cap2 N Lo bm n D w hk h h0 hs hl)
  have hla := hk.lng_all h0 hl
  obtain ⟨g, hg⟩ : ∃ g, g = k.lng D.data.toList := ⟨_, rfl⟩
  obtain ⟨F, hF⟩ : ∃ F, F = k.find (D.data.toList.take g) := ⟨_, rfl⟩
  simp only [← hg, ← hF] at HL
  simp only [← hg] at hla
  have hgI : ((g : Nat) : Int) = (D.size : Int) := by have := hla.1 hn; omega
  clear hg hF hl h hk hn hla
  go_enter Try.func176, Try.ntmps176
  go_wp2_with fail
  refine (HL.out).mono ?_
  rintro e w1 ⟨rfl, hb1⟩
  go_wp2
  go_ret
  exact ⟨ret_bool (by simp), by (repeat (first | with_reducible (first | assumption | exact Below.refl _ _ | refine bel_alloc ?_ _ | refine bel_drew ?_ | refine bel_drewN ?_ _ | refine bel_set ?_ (by first | omega | (simp; done) | (simp; omega)) _ | refine bel_trans ?_ (by assumption)) | assumption | refine bel_trans ?_ (by assumption)))⟩

set_option maxHeartbeats 4000000 in
theorem c_isWord_no (L fb : Nat) (k : Kn) (A : Option Addr) (cap nb cap2 : Nat) (N : Nat → Nat) (Lo : Nat → Option Nat) (bm n : Nat) (D : ByteArray) (w : World) (hk : k.Ok) (h : FQ L fb k A cap nb cap2 k.ps N Lo bm n w) (h0 : 0 < D.size) (hs : D.size ≤ 1048576) (hl : ((D[0]).toNat : Int) < k.c) (hn : k.find D.data.toList < 0) :
    Calls Try.prog 176 #[.pointer (some ⟨fb, 0, none⟩), .string D] w fun e w' => e = .returned (.bool false) ∧ Below w.heap.size w w' := by
  have HL := hid (c_longest L fb k A cap nb cap2 N Lo bm n D w hk h h0 hs hl)
  have hla := hk.lng_all h0 hl
  obtain ⟨g, hg⟩ : ∃ g, g = k.lng D.data.toList := ⟨_, rfl⟩
  obtain ⟨F, hF⟩ : ∃ F, F = k.find (D.data.toList.take g) := ⟨_, rfl⟩
  simp only [← hg, ← hF] at HL
  simp only [← hg] at hla
  have hgI : ¬ ((g : Nat) : Int) = (D.size : Int) := by have := hla.2.1 hn; omega
  clear hg hF hl h hk hn hla
  go_enter Try.func176, Try.ntmps176
  go_wp2_with fail
  refine (HL.out).mono ?_
  rintro e w1 ⟨rfl, hb1⟩
  go_wp2
  go_ret
  exact ⟨ret_bool (by simp [hgI]), by (repeat (first | with_reducible (first | assumption | exact Below.refl _ _ | refine bel_alloc ?_ _ | refine bel_drew ?_ | refine bel_drewN ?_ _ | refine bel_set ?_ (by first | omega | (simp; done) | (simp; omega)) _ | refine bel_trans ?_ (by assumption)) | assumption | refine bel_trans ?_ (by assumption)))⟩

set_option maxHeartbeats 4000000 in
set_option maxRecDepth 100000 in
theorem c_resume_bad (k : Kn) (A : Option Addr) (cap L : Nat) (P Q : ByteArray) (b : Bool) (w : World) (h : PsAt w L A cap k.ps) (hL : L ≤ w.heap.size) (hP : P.size ≤ maxLen) (hQ : Q.size ≤ maxLen) (hw : k.Wf) (hk : ¬ k.Ok) : Calls Try.prog 130 #[.agg #[.int .i64 k.o, .int .i64 k.l, .int .i64 k.m, .slice A k.ps.length cap, .int .i64 k.base, .int .i64 k.last, .string P, .string Q, .bool b]] w fun e w' => ∃ X, e = .returned (.tuple #[.pointer X, .bool false]) ∧ Below w.heap.size w w' := by
  have HV := hid (fun (v : World) (hb : Below w.heap.size w v) => c_KnownValid_no k A cap L v (h.below hb hL) (Nat.le_trans hL hb.size) hk hw)
  have HKN := hid (Blk.new w 99 #[.int .i64 k.o, .int .i64 k.l, .int .i64 k.m, .slice A k.ps.length cap, .int .i64 k.base, .int .i64 k.last, .string P, .string Q, .bool b])
  obtain ⟨p0, p1, p2, p3, p4, p5, p6, p7, p8⟩ := HKN.out.cells9
  have kc := fun (w : World) (s : ByteArray) => run_bytes_of_string (P := Try.prog) w 9 128 5 s Try.underlying9 Try.underlying128 Try.underlying5
  unfold maxLen at hP hQ
  clear h hk hw
  go_enter Try.func130, Try.ntmps130
  go_wp2_with fail
  refine (HV.out _ (by (repeat (first | with_reducible (first | assumption | exact Below.refl _ _ | refine bel_alloc ?_ _ | refine bel_drew ?_ | refine bel_drewN ?_ _ | refine bel_set ?_ (by first | omega | (simp; done) | (simp; omega)) _ | refine bel_trans ?_ (by assumption)) | assumption | refine bel_trans ?_ (by assumption))))).mono ?_
  rintro e w1 ⟨rfl, hb1⟩
  have K1 := hid (HKN.out.on hb1)
  clear p0 p1 p2 p3 p4 p5 p6 p7 p8
  obtain ⟨p0, p1, p2, p3, p4, p5, p6, p7, p8⟩ := K1.out.cells9
  go_wp2
  go_ret2
  first | exact ⟨_, rfl, by (repeat (first | with_reducible (first | assumption | exact Below.refl _ _ | refine bel_alloc ?_ _ | refine bel_drew ?_ | refine bel_drewN ?_ _ | refine bel_set ?_ (by first | omega | (simp; done) | (simp; omega)) _ | refine bel_trans ?_ (by assumption)) | assumption | refine bel_trans ?_ (by assumption)))⟩ | exact ⟨⟨_, rfl⟩, by (repeat (first | with_reducible (first | assumption | exact Below.refl _ _ | refine bel_alloc ?_ _ | refine bel_drew ?_ | refine bel_drewN ?_ _ | refine bel_set ?_ (by first | omega | (simp; done) | (simp; omega)) _ | refine bel_trans ?_ (by assumption)) | assumption | refine bel_trans ?_ (by assumption)))⟩

set_option maxHeartbeats 4000000 in
set_option maxRecDepth 100000 in
theorem c_sresume_bad (k : Kn) (A : Option Addr) (cap L : Nat) (P Q : ByteArray) (b : Bool) (w : World) (h : PsAt w L A cap k.ps) (hL : L ≤ w.heap.size) (hP : P.size ≤ maxLen) (hQ : Q.size ≤ maxLen) (hw : k.Wf) (hk : ¬ k.Ok) : Calls Try.prog 78 #[.agg #[.int .i64 k.o, .int .i64 k.l, .int .i64 k.m, .slice A k.ps.length cap, .int .i64 k.base, .int .i64 k.last, .string P, .string Q, .bool b]] w fun e w' => e = .returned (.bool false) ∧ Below w.heap.size w w' := by
  have HV := hid (fun (v : World) (hb : Below w.heap.size w v) => c_sKnownValid_no k A cap L v (h.below hb hL) (Nat.le_trans hL hb.size) hk hw)
  have HKN := hid (Blk.new w 99 #[.int .i64 k.o, .int .i64 k.l, .int .i64 k.m, .slice A k.ps.length cap, .int .i64 k.base, .int .i64 k.last, .string P, .string Q, .bool b])
  obtain ⟨p0, p1, p2, p3, p4, p5, p6, p7, p8⟩ := HKN.out.cells9
  unfold maxLen at hP hQ
  clear h hk hw
  go_enter Try.func78, Try.ntmps78
  go_wp2_with fail
  refine (HV.out _ (by (repeat (first | with_reducible (first | assumption | exact Below.refl _ _ | refine bel_alloc ?_ _ | refine bel_drew ?_ | refine bel_drewN ?_ _ | refine bel_set ?_ (by first | omega | (simp; done) | (simp; omega)) _ | refine bel_trans ?_ (by assumption)) | assumption | refine bel_trans ?_ (by assumption))))).mono ?_
  rintro e w1 ⟨rfl, hb1⟩
  have K1 := hid (HKN.out.on hb1)
  clear p0 p1 p2 p3 p4 p5 p6 p7 p8
  obtain ⟨p0, p1, p2, p3, p4, p5, p6, p7, p8⟩ := K1.out.cells9
  go_wp2
  go_ret
  first | exact ⟨rfl, by (repeat (first | with_reducible (first | assumption | exact Below.refl _ _ | refine bel_alloc ?_ _ | refine bel_drew ?_ | refine bel_drewN ?_ _ | refine bel_set ?_ (by first | omega | (simp; done) | (simp; omega)) _ | refine bel_trans ?_ (by assumption)) | assumption | refine bel_trans ?_ (by assumption)))⟩ | exact ⟨ret_bool (by first | exact decide_eq_false (by omega) | exact decide_eq_true (by omega)), by (repeat (first | with_reducible (first | assumption | exact Below.refl _ _ | refine bel_alloc ?_ _ | refine bel_drew ?_ | refine bel_drewN ?_ _ | refine bel_set ?_ (by first | omega | (simp; done) | (simp; omega)) _ | refine bel_trans ?_ (by assumption)) | assumption | refine bel_trans ?_ (by assumption)))⟩

set_option maxHeartbeats 4000000 in
set_option maxRecDepth 100000 in
theorem c_resume_fits (k : Kn) (A : Option Addr) (cap L : Nat) (P Q : ByteArray) (b : Bool) (w : World) (h : PsAt w L A cap k.ps) (hL : L ≤ w.heap.size) (hP : P.size ≤ maxLen) (hQ : Q.size ≤ maxLen) (hw : k.Wf) (hk : k.Ok) (hf : dataFits k.o k.l k.m P = false) : Calls Try.prog 130 #[.agg #[.int .i64 k.o, .int .i64 k.l, .int .i64 k.m, .slice A k.ps.length cap, .int .i64 k.base, .int .i64 k.last, .string P, .string Q, .bool b]] w fun e w' => ∃ X, e = .returned (.tuple #[.pointer X, .bool false]) ∧ Below w.heap.size w w' := by
  have HV := hid (fun (v : World) (hb : Below w.heap.size w v) => c_KnownValid_yes k A cap L v (h.below hb hL) (Nat.le_trans hL hb.size) hk hw)
  have HKN := hid (Blk.new w 99 #[.int .i64 k.o, .int .i64 k.l, .int .i64 k.m, .slice A k.ps.length cap, .int .i64 k.base, .int .i64 k.last, .string P, .string Q, .bool b])
  obtain ⟨p0, p1, p2, p3, p4, p5, p6, p7, p8⟩ := HKN.out.cells9
  have HD := hid (fun (v : World) => c_DataFits k.o k.l k.m P v hP)
  simp only [hf] at HD
  have kc := fun (w : World) (s : ByteArray) => run_bytes_of_string (P := Try.prog) w 9 128 5 s Try.underlying9 Try.underlying128 Try.underlying5
  unfold maxLen at hP hQ
  clear h hk hw
  clear hf
  go_enter Try.func130, Try.ntmps130
  go_wp2_with fail
  refine (HV.out _ (by (repeat (first | with_reducible (first | assumption | exact Below.refl _ _ | refine bel_alloc ?_ _ | refine bel_drew ?_ | refine bel_drewN ?_ _ | refine bel_set ?_ (by first | omega | (simp; done) | (simp; omega)) _ | refine bel_trans ?_ (by assumption)) | assumption | refine bel_trans ?_ (by assumption))))).mono ?_
  rintro e w1 ⟨rfl, hb1⟩
  have K1 := hid (HKN.out.on hb1)
  clear p0 p1 p2 p3 p4 p5 p6 p7 p8
  obtain ⟨p0, p1, p2, p3, p4, p5, p6, p7, p8⟩ := K1.out.cells9
  go_wp2_with fail
  refine (HD.out _).mono ?_
  rintro e w2 ⟨rfl, hb2⟩
  have K2 := hid (K1.out.on hb2)
  clear p0 p1 p2 p3 p4 p5 p6 p7 p8
  obtain ⟨p0, p1, p2, p3, p4, p5, p6, p7, p8⟩ := K2.out.cells9
  go_wp2
  go_ret2
  first | exact ⟨_, rfl, by (repeat (first | with_reducible (first | assumption | exact Below.refl _ _ | refine bel_alloc ?_ _ | refine bel_drew ?_ | refine bel_drewN ?_ _ | refine bel_set ?_ (by first | omega | (simp; done) | (simp; omega)) _ | refine bel_trans ?_ (by assumption)) | assumption | refine bel_trans ?_ (by assumption)))⟩ | exact ⟨⟨_, rfl⟩, by (repeat (first | with_reducible (first | assumption | exact Below.refl _ _ | refine bel_alloc ?_ _ | refine bel_drew ?_ | refine bel_drewN ?_ _ | refine bel_set ?_ (by first | omega | (simp; done) | (simp; omega)) _ | refine bel_trans ?_ (by assumption)) | assumption | refine bel_trans ?_ (by assumption)))⟩

set_option maxHeartbeats 4000000 in
set_option maxRecDepth 100000 in
theorem c_sresume_fits (k : Kn) (A : Option Addr) (cap L : Nat) (P Q : ByteArray) (b : Bool) (w : World) (h : PsAt w L A cap k.ps) (hL : L ≤ w.heap.size) (hP : P.size ≤ maxLen) (hQ : Q.size ≤ maxLen) (hw : k.Wf) (hk : k.Ok) (hf : dataFits k.o k.l k.m P = false) : Calls Try.prog 78 #[.agg #[.int .i64 k.o, .int .i64 k.l, .int .i64 k.m, .slice A k.ps.length cap, .int .i64 k.base, .int .i64 k.last, .string P, .string Q, .bool b]] w fun e w' => e = .returned (.bool false) ∧ Below w.heap.size w w' := by
  have HV := hid (fun (v : World) (hb : Below w.heap.size w v) => c_sKnownValid_yes k A cap L v (h.below hb hL) (Nat.le_trans hL hb.size) hk hw)
  have HKN := hid (Blk.new w 99 #[.int .i64 k.o, .int .i64 k.l, .int .i64 k.m, .slice A k.ps.length cap, .int .i64 k.base, .int .i64 k.last, .string P, .string Q, .bool b])
  obtain ⟨p0, p1, p2, p3, p4, p5, p6, p7, p8⟩ := HKN.out.cells9
  have HD := hid (fun (v : World) => c_sDataFits k.o k.l k.m P v hP)
  simp only [hf] at HD
  unfold maxLen at hP hQ
  clear h hk hw
  clear hf
  go_enter Try.func78, Try.ntmps78
  go_wp2_with fail
  refine (HV.out _ (by (repeat (first | with_reducible (first | assumption | exact Below.refl _ _ | refine bel_alloc ?_ _ | refine bel_drew ?_ | refine bel_drewN ?_ _ | refine bel_set ?_ (by first | omega | (simp; done) | (simp; omega)) _ | refine bel_trans ?_ (by assumption)) | assumption | refine bel_trans ?_ (by assumption))))).mono ?_
  rintro e w1 ⟨rfl, hb1⟩
  have K1 := hid (HKN.out.on hb1)
  clear p0 p1 p2 p3 p4 p5 p6 p7 p8
  obtain ⟨p0, p1, p2, p3, p4, p5, p6, p7, p8⟩ := K1.out.cells9
  go_wp2_with fail
  refine (HD.out _).mono ?_
  rintro e w2 ⟨rfl, hb2⟩
  have K2 := hid (K1.out.on hb2)
  clear p0 p1 p2 p3 p4 p5 p6 p7 p8
  obtain ⟨p0, p1, p2, p3, p4, p5, p6, p7, p8⟩ := K2.out.cells9
  go_wp2
  go_ret
  first | exact ⟨rfl, by (repeat (first | with_reducible (first | assumption | exact Below.refl _ _ | refine bel_alloc ?_ _ | refine bel_drew ?_ | refine bel_drewN ?_ _ | refine bel_set ?_ (by first | omega | (simp; done) | (simp; omega)) _ | refine bel_trans ?_ (by assumption)) | assumption | refine bel_trans ?_ (by assumption)))⟩ | exact ⟨ret_bool (by first | exact decide_eq_false (by omega) | exact decide_eq_true (by omega)), by (repeat (first | with_reducible (first | assumption | exact Below.refl _ _ | refine bel_alloc ?_ _ | refine bel_drew ?_ | refine bel_drewN ?_ _ | refine bel_set ?_ (by first | omega | (simp; done) | (simp; omega)) _ | refine bel_trans ?_ (by assumption)) | assumption | refine bel_trans ?_ (by assumption)))⟩

set_option maxHeartbeats 4000000 in
set_option maxRecDepth 100000 in
theorem c_resume_bits (k : Kn) (A : Option Addr) (cap L : Nat) (P Q : ByteArray) (b : Bool) (w : World) (h : PsAt w L A cap k.ps) (hL : L ≤ w.heap.size) (hP : P.size ≤ maxLen) (hQ : Q.size ≤ maxLen) (hw : k.Wf) (hk : k.Ok) (hf : dataFits k.o k.l k.m P = true) (hq : bitsOk Q = false) : Calls Try.prog 130 #[.agg #[.int .i64 k.o, .int .i64 k.l, .int .i64 k.m, .slice A k.ps.length cap, .int .i64 k.base, .int .i64 k.last, .string P, .string Q, .bool b]] w fun e w' => ∃ X, e = .returned (.tuple #[.pointer X, .bool false]) ∧ Below w.heap.size w w' := by
  have HV := hid (fun (v : World) (hb : Below w.heap.size w v) => c_KnownValid_yes k A cap L v (h.below hb hL) (Nat.le_trans hL hb.size) hk hw)
  have HKN := hid (Blk.new w 99 #[.int .i64 k.o, .int .i64 k.l, .int .i64 k.m, .slice A k.ps.length cap, .int .i64 k.base, .int .i64 k.last, .string P, .string Q, .bool b])
  obtain ⟨p0, p1, p2, p3, p4, p5, p6, p7, p8⟩ := HKN.out.cells9
  have HD := hid (fun (v : World) => c_DataFits k.o k.l k.m P v hP)
  simp only [hf] at HD
  have HB := hid (fun (v : World) => c_BitsValid Q v hQ)
  simp only [hq] at HB
  have kc := fun (w : World) (s : ByteArray) => run_bytes_of_string (P := Try.prog) w 9 128 5 s Try.underlying9 Try.underlying128 Try.underlying5
  unfold maxLen at hP hQ
  clear h hk hw
  clear hf
  clear hq
  by_cases h8 : 8 ≤ Q.size
  · go_enter Try.func130, Try.ntmps130
    go_wp2_with fail
    refine (HV.out _ (by (repeat (first | with_reducible (first | assumption | exact Below.refl _ _ | refine bel_alloc ?_ _ | refine bel_drew ?_ | refine bel_drewN ?_ _ | refine bel_set ?_ (by first | omega | (simp; done) | (simp; omega)) _ | refine bel_trans ?_ (by assumption)) | assumption | refine bel_trans ?_ (by assumption))))).mono ?_
    rintro e w1 ⟨rfl, hb1⟩
    have K1 := hid (HKN.out.on hb1)
    clear p0 p1 p2 p3 p4 p5 p6 p7 p8
    obtain ⟨p0, p1, p2, p3, p4, p5, p6, p7, p8⟩ := K1.out.cells9
    go_wp2_with fail
    refine (HD.out _).mono ?_
    rintro e w2 ⟨rfl, hb2⟩
    have K2 := hid (K1.out.on hb2)
    clear p0 p1 p2 p3 p4 p5 p6 p7 p8
    obtain ⟨p0, p1, p2, p3, p4, p5, p6, p7, p8⟩ := K2.out.cells9
    have B2 : Below w.heap.size w w2 := by (repeat (first | with_reducible (first | assumption | exact Below.refl _ _ | refine bel_alloc ?_ _ | refine bel_drew ?_ | refine bel_drewN ?_ _ | refine bel_set ?_ (by first | omega | (simp; done) | (simp; omega)) _ | refine bel_trans ?_ (by assumption)) | assumption | refine bel_trans ?_ (by assumption)))
    clear hb1 hb2
    go_wp2
    go_ret2
    first | exact ⟨_, rfl, by (repeat (first | with_reducible (first | assumption | exact Below.refl _ _ | refine bel_alloc ?_ _ | refine bel_drew ?_ | refine bel_drewN ?_ _ | refine bel_set ?_ (by first | omega | (simp; done) | (simp; omega)) _ | refine bel_trans ?_ (by assumption)) | assumption | refine bel_trans ?_ (by assumption)))⟩ | exact ⟨⟨_, rfl⟩, by (repeat (first | with_reducible (first | assumption | exact Below.refl _ _ | refine bel_alloc ?_ _ | refine bel_drew ?_ | refine bel_drewN ?_ _ | refine bel_set ?_ (by first | omega | (simp; done) | (simp; omega)) _ | refine bel_trans ?_ (by assumption)) | assumption | refine bel_trans ?_ (by assumption)))⟩
  · go_enter Try.func130, Try.ntmps130
    go_wp2_with fail
    refine (HV.out _ (by (repeat (first | with_reducible (first | assumption | exact Below.refl _ _ | refine bel_alloc ?_ _ | refine bel_drew ?_ | refine bel_drewN ?_ _ | refine bel_set ?_ (by first | omega | (simp; done) | (simp; omega)) _ | refine bel_trans ?_ (by assumption)) | assumption | refine bel_trans ?_ (by assumption))))).mono ?_
    rintro e w1 ⟨rfl, hb1⟩
    have K1 := hid (HKN.out.on hb1)
    clear p0 p1 p2 p3 p4 p5 p6 p7 p8
    obtain ⟨p0, p1, p2, p3, p4, p5, p6, p7, p8⟩ := K1.out.cells9
    go_wp2_with fail
    refine (HD.out _).mono ?_
    rintro e w2 ⟨rfl, hb2⟩
    have K2 := hid (K1.out.on hb2)
    clear p0 p1 p2 p3 p4 p5 p6 p7 p8
    obtain ⟨p0, p1, p2, p3, p4, p5, p6, p7, p8⟩ := K2.out.cells9
    have B2 : Below w.heap.size w w2 := by (repeat (first | with_reducible (first | assumption | exact Below.refl _ _ | refine bel_alloc ?_ _ | refine bel_drew ?_ | refine bel_drewN ?_ _ | refine bel_set ?_ (by first | omega | (simp; done) | (simp; omega)) _ | refine bel_trans ?_ (by assumption)) | assumption | refine bel_trans ?_ (by assumption)))
    clear hb1 hb2
    go_wp2_with fail
    refine (HB.out _).mono ?_
    rintro e wb ⟨rfl, rfl⟩
    go_wp2
    go_ret2
    first | exact ⟨_, rfl, by (repeat (first | with_reducible (first | assumption | exact Below.refl _ _ | refine bel_alloc ?_ _ | refine bel_drew ?_ | refine bel_drewN ?_ _ | refine bel_set ?_ (by first | omega | (simp; done) | (simp; omega)) _ | refine bel_trans ?_ (by assumption)) | assumption | refine bel_trans ?_ (by assumption)))⟩ | exact ⟨⟨_, rfl⟩, by (repeat (first | with_reducible (first | assumption | exact Below.refl _ _ | refine bel_alloc ?_ _ | refine bel_drew ?_ | refine bel_drewN ?_ _ | refine bel_set ?_ (by first | omega | (simp; done) | (simp; omega)) _ | refine bel_trans ?_ (by assumption)) | assumption | refine bel_trans ?_ (by assumption)))⟩

set_option maxHeartbeats 4000000 in
set_option maxRecDepth 100000 in
theorem c_sresume_bits (k : Kn) (A : Option Addr) (cap L : Nat) (P Q : ByteArray) (b : Bool) (w : World) (h : PsAt w L A cap k.ps) (hL : L ≤ w.heap.size) (hP : P.size ≤ maxLen) (hQ : Q.size ≤ maxLen) (hw : k.Wf) (hk : k.Ok) (hf : dataFits k.o k.l k.m P = true) (hq : bitsOk Q = false) : Calls Try.prog 78 #[.agg #[.int .i64 k.o, .int .i64 k.l, .int .i64 k.m, .slice A k.ps.length cap, .int .i64 k.base, .int .i64 k.last, .string P, .string Q, .bool b]] w fun e w' => e = .returned (.bool false) ∧ Below w.heap.size w w' := by
  have HV := hid (fun (v : World) (hb : Below w.heap.size w v) => c_sKnownValid_yes k A cap L v (h.below hb hL) (Nat.le_trans hL hb.size) hk hw)
  have HKN := hid (Blk.new w 99 #[.int .i64 k.o, .int .i64 k.l, .int .i64 k.m, .slice A k.ps.length cap, .int .i64 k.base, .int .i64 k.last, .string P, .string Q, .bool b])
  obtain ⟨p0, p1, p2, p3, p4, p5, p6, p7, p8⟩ := HKN.out.cells9
  have HD := hid (fun (v : World) => c_sDataFits k.o k.l k.m P v hP)
  simp only [hf] at HD
  have HB := hid (fun (v : World) => c_sBitsValid Q v hQ)
  simp only [hq] at HB
  unfold maxLen at hP hQ
  clear h hk hw
  clear hf
  clear hq
  go_enter Try.func78, Try.ntmps78
  go_wp2_with fail
  refine (HV.out _ (by (repeat (first | with_reducible (first | assumption | exact Below.refl _ _ | refine bel_alloc ?_ _ | refine bel_drew ?_ | refine bel_drewN ?_ _ | refine bel_set ?_ (by first | omega | (simp; done) | (simp; omega)) _ | refine bel_trans ?_ (by assumption)) | assumption | refine bel_trans ?_ (by assumption))))).mono ?_
  rintro e w1 ⟨rfl, hb1⟩
  have K1 := hid (HKN.out.on hb1)
  clear p0 p1 p2 p3 p4 p5 p6 p7 p8
  obtain ⟨p0, p1, p2, p3, p4, p5, p6, p7, p8⟩ := K1.out.cells9
  go_wp2_with fail
  refine (HD.out _).mono ?_
  rintro e w2 ⟨rfl, hb2⟩
  have K2 := hid (K1.out.on hb2)
  clear p0 p1 p2 p3 p4 p5 p6 p7 p8
  obtain ⟨p0, p1, p2, p3, p4, p5, p6, p7, p8⟩ := K2.out.cells9
  have B2 : Below w.heap.size w w2 := by (repeat (first | with_reducible (first | assumption | exact Below.refl _ _ | refine bel_alloc ?_ _ | refine bel_drew ?_ | refine bel_drewN ?_ _ | refine bel_set ?_ (by first | omega | (simp; done) | (simp; omega)) _ | refine bel_trans ?_ (by assumption)) | assumption | refine bel_trans ?_ (by assumption)))
  clear hb1 hb2
  go_wp2_with fail
  refine (HB.out _).mono ?_
  rintro e wb ⟨rfl, rfl⟩
  go_wp2
  go_ret
  first | exact ⟨rfl, by (repeat (first | with_reducible (first | assumption | exact Below.refl _ _ | refine bel_alloc ?_ _ | refine bel_drew ?_ | refine bel_drewN ?_ _ | refine bel_set ?_ (by first | omega | (simp; done) | (simp; omega)) _ | refine bel_trans ?_ (by assumption)) | assumption | refine bel_trans ?_ (by assumption)))⟩ | exact ⟨ret_bool (by first | exact decide_eq_false (by omega) | exact decide_eq_true (by omega)), by (repeat (first | with_reducible (first | assumption | exact Below.refl _ _ | refine bel_alloc ?_ _ | refine bel_drew ?_ | refine bel_drewN ?_ _ | refine bel_set ?_ (by first | omega | (simp; done) | (simp; omega)) _ | refine bel_trans ?_ (by assumption)) | assumption | refine bel_trans ?_ (by assumption)))⟩

set_option maxHeartbeats 4000000 in
set_option maxRecDepth 100000 in
theorem c_resume_long (k : Kn) (A : Option Addr) (cap L : Nat) (P Q : ByteArray) (b : Bool) (w : World) (h : PsAt w L A cap k.ps) (hL : L ≤ w.heap.size) (hP : P.size ≤ maxLen) (hQ : Q.size ≤ maxLen) (hw : k.Wf) (hk : k.Ok) (hf : dataFits k.o k.l k.m P = true) (hq : bitsOk Q = true) (h8 : 8 ≤ Q.size) : Calls Try.prog 130 #[.agg #[.int .i64 k.o, .int .i64 k.l, .int .i64 k.m, .slice A k.ps.length cap, .int .i64 k.base, .int .i64 k.last, .string P, .string Q, .bool b]] w fun e w' => ∃ X, e = .returned (.tuple #[.pointer X, .bool false]) ∧ Below w.heap.size w w' := by
  have HV := hid (fun (v : World) (hb : Below w.heap.size w v) => c_KnownValid_yes k A cap L v (h.below hb hL) (Nat.le_trans hL hb.size) hk hw)
  have HKN := hid (Blk.new w 99 #[.int .i64 k.o, .int .i64 k.l, .int .i64 k.m, .slice A k.ps.length cap, .int .i64 k.base, .int .i64 k.last, .string P, .string Q, .bool b])
  obtain ⟨p0, p1, p2, p3, p4, p5, p6, p7, p8⟩ := HKN.out.cells9
  have HD := hid (fun (v : World) => c_DataFits k.o k.l k.m P v hP)
  simp only [hf] at HD
  have HB := hid (fun (v : World) => c_BitsValid Q v hQ)
  simp only [hq] at HB
  have kc := fun (w : World) (s : ByteArray) => run_bytes_of_string (P := Try.prog) w 9 128 5 s Try.underlying9 Try.underlying128 Try.underlying5
  unfold maxLen at hP hQ
  clear h hk hw
  clear hf
  clear hq
  go_enter Try.func130, Try.ntmps130
  go_wp2_with fail
  refine (HV.out _ (by (repeat (first | with_reducible (first | assumption | exact Below.refl _ _ | refine bel_alloc ?_ _ | refine bel_drew ?_ | refine bel_drewN ?_ _ | refine bel_set ?_ (by first | omega | (simp; done) | (simp; omega)) _ | refine bel_trans ?_ (by assumption)) | assumption | refine bel_trans ?_ (by assumption))))).mono ?_
  rintro e w1 ⟨rfl, hb1⟩
  have K1 := hid (HKN.out.on hb1)
  clear p0 p1 p2 p3 p4 p5 p6 p7 p8
  obtain ⟨p0, p1, p2, p3, p4, p5, p6, p7, p8⟩ := K1.out.cells9
  go_wp2_with fail
  refine (HD.out _).mono ?_
  rintro e w2 ⟨rfl, hb2⟩
  have K2 := hid (K1.out.on hb2)
  clear p0 p1 p2 p3 p4 p5 p6 p7 p8
  obtain ⟨p0, p1, p2, p3, p4, p5, p6, p7, p8⟩ := K2.out.cells9
  have B2 : Below w.heap.size w w2 := by (repeat (first | with_reducible (first | assumption | exact Below.refl _ _ | refine bel_alloc ?_ _ | refine bel_drew ?_ | refine bel_drewN ?_ _ | refine bel_set ?_ (by first | omega | (simp; done) | (simp; omega)) _ | refine bel_trans ?_ (by assumption)) | assumption | refine bel_trans ?_ (by assumption)))
  clear hb1 hb2
  go_wp2
  go_ret2
  first | exact ⟨_, rfl, by (repeat (first | with_reducible (first | assumption | exact Below.refl _ _ | refine bel_alloc ?_ _ | refine bel_drew ?_ | refine bel_drewN ?_ _ | refine bel_set ?_ (by first | omega | (simp; done) | (simp; omega)) _ | refine bel_trans ?_ (by assumption)) | assumption | refine bel_trans ?_ (by assumption)))⟩ | exact ⟨⟨_, rfl⟩, by (repeat (first | with_reducible (first | assumption | exact Below.refl _ _ | refine bel_alloc ?_ _ | refine bel_drew ?_ | refine bel_drewN ?_ _ | refine bel_set ?_ (by first | omega | (simp; done) | (simp; omega)) _ | refine bel_trans ?_ (by assumption)) | assumption | refine bel_trans ?_ (by assumption)))⟩

set_option maxHeartbeats 4000000 in
set_option maxRecDepth 100000 in
theorem c_sresume_long (k : Kn) (A : Option Addr) (cap L : Nat) (P Q : ByteArray) (b : Bool) (w : World) (h : PsAt w L A cap k.ps) (hL : L ≤ w.heap.size) (hP : P.size ≤ maxLen) (hQ : Q.size ≤ maxLen) (hw : k.Wf) (hk : k.Ok) (hf : dataFits k.o k.l k.m P = true) (hq : bitsOk Q = true) (h8 : 8 ≤ Q.size) : Calls Try.prog 78 #[.agg #[.int .i64 k.o, .int .i64 k.l, .int .i64 k.m, .slice A k.ps.length cap, .int .i64 k.base, .int .i64 k.last, .string P, .string Q, .bool b]] w fun e w' => e = .returned (.bool false) ∧ Below w.heap.size w w' := by
  have HV := hid (fun (v : World) (hb : Below w.heap.size w v) => c_sKnownValid_yes k A cap L v (h.below hb hL) (Nat.le_trans hL hb.size) hk hw)
  have HKN := hid (Blk.new w 99 #[.int .i64 k.o, .int .i64 k.l, .int .i64 k.m, .slice A k.ps.length cap, .int .i64 k.base, .int .i64 k.last, .string P, .string Q, .bool b])
  obtain ⟨p0, p1, p2, p3, p4, p5, p6, p7, p8⟩ := HKN.out.cells9
  have HD := hid (fun (v : World) => c_sDataFits k.o k.l k.m P v hP)
  simp only [hf] at HD
  have HB := hid (fun (v : World) => c_sBitsValid Q v hQ)
  simp only [hq] at HB
  unfold maxLen at hP hQ
  clear h hk hw
  clear hf
  clear hq
  go_enter Try.func78, Try.ntmps78
  go_wp2_with fail
  refine (HV.out _ (by (repeat (first | with_reducible (first | assumption | exact Below.refl _ _ | refine bel_alloc ?_ _ | refine bel_drew ?_ | refine bel_drewN ?_ _ | refine bel_set ?_ (by first | omega | (simp; done) | (simp; omega)) _ | refine bel_trans ?_ (by assumption)) | assumption | refine bel_trans ?_ (by assumption))))).mono ?_
  rintro e w1 ⟨rfl, hb1⟩
  have K1 := hid (HKN.out.on hb1)
  clear p0 p1 p2 p3 p4 p5 p6 p7 p8
  obtain ⟨p0, p1, p2, p3, p4, p5, p6, p7, p8⟩ := K1.out.cells9
  go_wp2_with fail
  refine (HD.out _).mono ?_
  rintro e w2 ⟨rfl, hb2⟩
  have K2 := hid (K1.out.on hb2)
  clear p0 p1 p2 p3 p4 p5 p6 p7 p8
  obtain ⟨p0, p1, p2, p3, p4, p5, p6, p7, p8⟩ := K2.out.cells9
  have B2 : Below w.heap.size w w2 := by (repeat (first | with_reducible (first | assumption | exact Below.refl _ _ | refine bel_alloc ?_ _ | refine bel_drew ?_ | refine bel_drewN ?_ _ | refine bel_set ?_ (by first | omega | (simp; done) | (simp; omega)) _ | refine bel_trans ?_ (by assumption)) | assumption | refine bel_trans ?_ (by assumption)))
  clear hb1 hb2
  go_wp2_with fail
  refine (HB.out _).mono ?_
  rintro e wb ⟨rfl, rfl⟩
  go_wp2
  go_ret
  first | exact ⟨rfl, by (repeat (first | with_reducible (first | assumption | exact Below.refl _ _ | refine bel_alloc ?_ _ | refine bel_drew ?_ | refine bel_drewN ?_ _ | refine bel_set ?_ (by first | omega | (simp; done) | (simp; omega)) _ | refine bel_trans ?_ (by assumption)) | assumption | refine bel_trans ?_ (by assumption)))⟩ | exact ⟨ret_bool (by first | exact decide_eq_false (by omega) | exact decide_eq_true (by omega)), by (repeat (first | with_reducible (first | assumption | exact Below.refl _ _ | refine bel_alloc ?_ _ | refine bel_drew ?_ | refine bel_drewN ?_ _ | refine bel_set ?_ (by first | omega | (simp; done) | (simp; omega)) _ | refine bel_trans ?_ (by assumption)) | assumption | refine bel_trans ?_ (by assumption)))⟩

set_option maxHeartbeats 4000000 in
set_option maxRecDepth 100000 in
theorem c_resume_newp (k : Kn) (A : Option Addr) (cap L : Nat) (P Q : ByteArray) (b : Bool) (w : World) (h : PsAt w L A cap k.ps) (hL : L ≤ w.heap.size) (hP : P.size ≤ maxLen) (hQ : Q.size ≤ maxLen) (hw : k.Wf) (hk : k.Ok) (hf : dataFits k.o k.l k.m P = true) (hq : bitsOk Q = true) (h8 : Q.size < 8) (h0 : 0 < P.size) : Calls Try.prog 130 #[.agg #[.int .i64 k.o, .int .i64 k.l, .int .i64 k.m, .slice A k.ps.length cap, .int .i64 k.base, .int .i64 k.last, .string P, .string Q, .bool false]] w fun e w' => ∃ X, e = .returned (.tuple #[.pointer X, .bool false]) ∧ Below w.heap.size w w' := by
  have HV := hid (fun (v : World) (hb : Below w.heap.size w v) => c_KnownValid_yes k A cap L v (h.below hb hL) (Nat.le_trans hL hb.size) hk hw)
  have HKN := hid (Blk.new w 99 #[.int .i64 k.o, .int .i64 k.l, .int .i64 k.m, .slice A k.ps.length cap, .int .i64 k.base, .int .i64 k.last, .string P, .string Q, .bool false])
  obtain ⟨p0, p1, p2, p3, p4, p5, p6, p7, p8⟩ := HKN.out.cells9
  have HD := hid (fun (v : World) => c_DataFits k.o k.l k.m P v hP)
  simp only [hf] at HD
  have HB := hid (fun (v : World) => c_BitsValid Q v hQ)
  simp only [hq] at HB
  have he := not_empty h0
  have kc := fun (w : World) (s : ByteArray) => run_bytes_of_string (P := Try.prog) w 9 128 5 s Try.underlying9 Try.underlying128 Try.underlying5
  unfold maxLen at hP hQ
  clear h hk hw
  clear hf
  clear hq
  go_enter Try.func130, Try.ntmps130
  go_wp2_with fail
  refine (HV.out _ (by (repeat (first | with_reducible (first | assumption | exact Below.refl _ _ | refine bel_alloc ?_ _ | refine bel_drew ?_ | refine bel_drewN ?_ _ | refine bel_set ?_ (by first | omega | (simp; done) | (simp; omega)) _ | refine bel_trans ?_ (by assumption)) | assumption | refine bel_trans ?_ (by assumption))))).mono ?_
  rintro e w1 ⟨rfl, hb1⟩
  have K1 := hid (HKN.out.on hb1)
  clear p0 p1 p2 p3 p4 p5 p6 p7 p8
  obtain ⟨p0, p1, p2, p3, p4, p5, p6, p7, p8⟩ := K1.out.cells9
  go_wp2_with fail
  refine (HD.out _).mono ?_
  rintro e w2 ⟨rfl, hb2⟩
  have K2 := hid (K1.out.on hb2)
  clear p0 p1 p2 p3 p4 p5 p6 p7 p8
  obtain ⟨p0, p1, p2, p3, p4, p5, p6, p7, p8⟩ := K2.out.cells9
  have B2 : Below w.heap.size w w2 := by (repeat (first | with_reducible (first | assumption | exact Below.refl _ _ | refine bel_alloc ?_ _ | refine bel_drew ?_ | refine bel_drewN ?_ _ | refine bel_set ?_ (by first | omega | (simp; done) | (simp; omega)) _ | refine bel_trans ?_ (by assumption)) | assumption | refine bel_trans ?_ (by assumption)))
  clear hb1 hb2
  go_wp2_with fail
  refine (HB.out _).mono ?_
  rintro e wb ⟨rfl, rfl⟩
  go_wp2
  go_ret2
  first | exact ⟨_, rfl, by (repeat (first | with_reducible (first | assumption | exact Below.refl _ _ | refine bel_alloc ?_ _ | refine bel_drew ?_ | refine bel_drewN ?_ _ | refine bel_set ?_ (by first | omega | (simp; done) | (simp; omega)) _ | refine bel_trans ?_ (by assumption)) | assumption | refine bel_trans ?_ (by assumption)))⟩ | exact ⟨⟨_, rfl⟩, by (repeat (first | with_reducible (first | assumption | exact Below.refl _ _ | refine bel_alloc ?_ _ | refine bel_drew ?_ | refine bel_drewN ?_ _ | refine bel_set ?_ (by first | omega | (simp; done) | (simp; omega)) _ | refine bel_trans ?_ (by assumption)) | assumption | refine bel_trans ?_ (by assumption)))⟩

set_option maxHeartbeats 4000000 in
set_option maxRecDepth 100000 in
theorem c_sresume_newp (k : Kn) (A : Option Addr) (cap L : Nat) (P Q : ByteArray) (b : Bool) (w : World) (h : PsAt w L A cap k.ps) (hL : L ≤ w.heap.size) (hP : P.size ≤ maxLen) (hQ : Q.size ≤ maxLen) (hw : k.Wf) (hk : k.Ok) (hf : dataFits k.o k.l k.m P = true) (hq : bitsOk Q = true) (h8 : Q.size < 8) (h0 : 0 < P.size) : Calls Try.prog 78 #[.agg #[.int .i64 k.o, .int .i64 k.l, .int .i64 k.m, .slice A k.ps.length cap, .int .i64 k.base, .int .i64 k.last, .string P, .string Q, .bool false]] w fun e w' => e = .returned (.bool false) ∧ Below w.heap.size w w' := by
  have HV := hid (fun (v : World) (hb : Below w.heap.size w v) => c_sKnownValid_yes k A cap L v (h.below hb hL) (Nat.le_trans hL hb.size) hk hw)
  have HKN := hid (Blk.new w 99 #[.int .i64 k.o, .int .i64 k.l, .int .i64 k.m, .slice A k.ps.length cap, .int .i64 k.base, .int .i64 k.last, .string P, .string Q, .bool false])
  obtain ⟨p0, p1, p2, p3, p4, p5, p6, p7, p8⟩ := HKN.out.cells9
  have HD := hid (fun (v : World) => c_sDataFits k.o k.l k.m P v hP)
  simp only [hf] at HD
  have HB := hid (fun (v : World) => c_sBitsValid Q v hQ)
  simp only [hq] at HB
  have he := not_empty h0
  unfold maxLen at hP hQ
  clear h hk hw
  clear hf
  clear hq
  go_enter Try.func78, Try.ntmps78
  go_wp2_with fail
  refine (HV.out _ (by (repeat (first | with_reducible (first | assumption | exact Below.refl _ _ | refine bel_alloc ?_ _ | refine bel_drew ?_ | refine bel_drewN ?_ _ | refine bel_set ?_ (by first | omega | (simp; done) | (simp; omega)) _ | refine bel_trans ?_ (by assumption)) | assumption | refine bel_trans ?_ (by assumption))))).mono ?_
  rintro e w1 ⟨rfl, hb1⟩
  have K1 := hid (HKN.out.on hb1)
  clear p0 p1 p2 p3 p4 p5 p6 p7 p8
  obtain ⟨p0, p1, p2, p3, p4, p5, p6, p7, p8⟩ := K1.out.cells9
  go_wp2_with fail
  refine (HD.out _).mono ?_
  rintro e w2 ⟨rfl, hb2⟩
  have K2 := hid (K1.out.on hb2)
  clear p0 p1 p2 p3 p4 p5 p6 p7 p8
  obtain ⟨p0, p1, p2, p3, p4, p5, p6, p7, p8⟩ := K2.out.cells9
  have B2 : Below w.heap.size w w2 := by (repeat (first | with_reducible (first | assumption | exact Below.refl _ _ | refine bel_alloc ?_ _ | refine bel_drew ?_ | refine bel_drewN ?_ _ | refine bel_set ?_ (by first | omega | (simp; done) | (simp; omega)) _ | refine bel_trans ?_ (by assumption)) | assumption | refine bel_trans ?_ (by assumption)))
  clear hb1 hb2
  go_wp2_with fail
  refine (HB.out _).mono ?_
  rintro e wb ⟨rfl, rfl⟩
  go_wp2
  go_ret
  first | exact ⟨rfl, by (repeat (first | with_reducible (first | assumption | exact Below.refl _ _ | refine bel_alloc ?_ _ | refine bel_drew ?_ | refine bel_drewN ?_ _ | refine bel_set ?_ (by first | omega | (simp; done) | (simp; omega)) _ | refine bel_trans ?_ (by assumption)) | assumption | refine bel_trans ?_ (by assumption)))⟩ | exact ⟨ret_bool (by first | exact decide_eq_false (by omega) | exact decide_eq_true (by omega)), by (repeat (first | with_reducible (first | assumption | exact Below.refl _ _ | refine bel_alloc ?_ _ | refine bel_drew ?_ | refine bel_drewN ?_ _ | refine bel_set ?_ (by first | omega | (simp; done) | (simp; omega)) _ | refine bel_trans ?_ (by assumption)) | assumption | refine bel_trans ?_ (by assumption)))⟩

set_option maxHeartbeats 4000000 in
set_option maxRecDepth 100000 in
theorem c_resume_newq (k : Kn) (A : Option Addr) (cap L : Nat) (P Q : ByteArray) (b : Bool) (w : World) (h : PsAt w L A cap k.ps) (hL : L ≤ w.heap.size) (hP : P.size ≤ maxLen) (hQ : Q.size ≤ maxLen) (hw : k.Wf) (hk : k.Ok) (hf : dataFits k.o k.l k.m ByteArray.empty = true) (hq : bitsOk Q = true) (h8 : Q.size < 8) (h1 : 0 < Q.size) : Calls Try.prog 130 #[.agg #[.int .i64 k.o, .int .i64 k.l, .int .i64 k.m, .slice A k.ps.length cap, .int .i64 k.base, .int .i64 k.last, .string ByteArray.empty, .string Q, .bool false]] w fun e w' => ∃ X, e = .returned (.tuple #[.pointer X, .bool false]) ∧ Below w.heap.size w w' := by
  have HV := hid (fun (v : World) (hb : Below w.heap.size w v) => c_KnownValid_yes k A cap L v (h.below hb hL) (Nat.le_trans hL hb.size) hk hw)
  have HKN := hid (Blk.new w 99 #[.int .i64 k.o, .int .i64 k.l, .int .i64 k.m, .slice A k.ps.length cap, .int .i64 k.base, .int .i64 k.last, .string ByteArray.empty, .string Q, .bool false])
  obtain ⟨p0, p1, p2, p3, p4, p5, p6, p7, p8⟩ := HKN.out.cells9
  have HD := hid (fun (v : World) => c_DataFits k.o k.l k.m ByteArray.empty v (by simp [maxLen]))
  simp only [hf] at HD
  have HB := hid (fun (v : World) => c_BitsValid Q v hQ)
  simp only [hq] at HB
  have he := not_empty h1
  have kc := fun (w : World) (s : ByteArray) => run_bytes_of_string (P := Try.prog) w 9 128 5 s Try.underlying9 Try.underlying128 Try.underlying5
  unfold maxLen at hP hQ
  clear h hk hw
  clear hf
  clear hq
  go_enter Try.func130, Try.ntmps130
  go_wp2_with fail
  refine (HV.out _ (by (repeat (first | with_reducible (first | assumption | exact Below.refl _ _ | refine bel_alloc ?_ _ | refine bel_drew ?_ | refine bel_drewN ?_ _ | refine bel_set ?_ (by first | omega | (simp; done) | (simp; omega)) _ | refine bel_trans ?_ (by assumption)) | assumption | refine bel_trans ?_ (by assumption))))).mono ?_
  rintro e w1 ⟨rfl, hb1⟩
  have K1 := hid (HKN.out.on hb1)
  clear p0 p1 p2 p3 p4 p5 p6 p7 p8
  obtain ⟨p0, p1, p2, p3, p4, p5, p6, p7, p8⟩ := K1.out.cells9
  go_wp2_with fail
  refine (HD.out _).mono ?_
  rintro e w2 ⟨rfl, hb2⟩
  have K2 := hid (K1.out.on hb2)
  clear p0 p1 p2 p3 p4 p5 p6 p7 p8
  obtain ⟨p0, p1, p2, p3, p4, p5, p6, p7, p8⟩ := K2.out.cells9
  have B2 : Below w.heap.size w w2 := by (repeat (first | with_reducible (first | assumption | exact Below.refl _ _ | refine bel_alloc ?_ _ | refine bel_drew ?_ | refine bel_drewN ?_ _ | refine bel_set ?_ (by first | omega | (simp; done) | (simp; omega)) _ | refine bel_trans ?_ (by assumption)) | assumption | refine bel_trans ?_ (by assumption)))
  clear hb1 hb2
  go_wp2_with fail
  refine (HB.out _).mono ?_
  rintro e wb ⟨rfl, rfl⟩
  go_wp2
  go_ret2
  first | exact ⟨_, rfl, by (repeat (first | with_reducible (first | assumption | exact Below.refl _ _ | refine bel_alloc ?_ _ | refine bel_drew ?_ | refine bel_drewN ?_ _ | refine bel_set ?_ (by first | omega | (simp; done) | (simp; omega)) _ | refine bel_trans ?_ (by assumption)) | assumption | refine bel_trans ?_ (by assumption)))⟩ | exact ⟨⟨_, rfl⟩, by (repeat (first | with_reducible (first | assumption | exact Below.refl _ _ | refine bel_alloc ?_ _ | refine bel_drew ?_ | refine bel_drewN ?_ _ | refine bel_set ?_ (by first | omega | (simp; done) | (simp; omega)) _ | refine bel_trans ?_ (by assumption)) | assumption | refine bel_trans ?_ (by assumption)))⟩

set_option maxHeartbeats 4000000 in
set_option maxRecDepth 100000 in
theorem c_sresume_newq (k : Kn) (A : Option Addr) (cap L : Nat) (P Q : ByteArray) (b : Bool) (w : World) (h : PsAt w L A cap k.ps) (hL : L ≤ w.heap.size) (hP : P.size ≤ maxLen) (hQ : Q.size ≤ maxLen) (hw : k.Wf) (hk : k.Ok) (hf : dataFits k.o k.l k.m ByteArray.empty = true) (hq : bitsOk Q = true) (h8 : Q.size < 8) (h1 : 0 < Q.size) : Calls Try.prog 78 #[.agg #[.int .i64 k.o, .int .i64 k.l, .int .i64 k.m, .slice A k.ps.length cap, .int .i64 k.base, .int .i64 k.last, .string ByteArray.empty, .string Q, .bool false]] w fun e w' => e = .returned (.bool false) ∧ Below w.heap.size w w' := by
  have HV := hid (fun (v : World) (hb : Below w.heap.size w v) => c_sKnownValid_yes k A cap L v (h.below hb hL) (Nat.le_trans hL hb.size) hk hw)
  have HKN := hid (Blk.new w 99 #[.int .i64 k.o, .int .i64 k.l, .int .i64 k.m, .slice A k.ps.length cap, .int .i64 k.base, .int .i64 k.last, .string ByteArray.empty, .string Q, .bool false])
  obtain ⟨p0, p1, p2, p3, p4, p5, p6, p7, p8⟩ := HKN.out.cells9
  have HD := hid (fun (v : World) => c_sDataFits k.o k.l k.m ByteArray.empty v (by simp [maxLen]))
  simp only [hf] at HD
  have HB := hid (fun (v : World) => c_sBitsValid Q v hQ)
  simp only [hq] at HB
  have he := not_empty h1
  unfold maxLen at hP hQ
  clear h hk hw
  clear hf
  clear hq
  go_enter Try.func78, Try.ntmps78
  go_wp2_with fail
  refine (HV.out _ (by (repeat (first | with_reducible (first | assumption | exact Below.refl _ _ | refine bel_alloc ?_ _ | refine bel_drew ?_ | refine bel_drewN ?_ _ | refine bel_set ?_ (by first | omega | (simp; done) | (simp; omega)) _ | refine bel_trans ?_ (by assumption)) | assumption | refine bel_trans ?_ (by assumption))))).mono ?_
  rintro e w1 ⟨rfl, hb1⟩
  have K1 := hid (HKN.out.on hb1)
  clear p0 p1 p2 p3 p4 p5 p6 p7 p8
  obtain ⟨p0, p1, p2, p3, p4, p5, p6, p7, p8⟩ := K1.out.cells9
  go_wp2_with fail
  refine (HD.out _).mono ?_
  rintro e w2 ⟨rfl, hb2⟩
  have K2 := hid (K1.out.on hb2)
  clear p0 p1 p2 p3 p4 p5 p6 p7 p8
  obtain ⟨p0, p1, p2, p3, p4, p5, p6, p7, p8⟩ := K2.out.cells9
  have B2 : Below w.heap.size w w2 := by (repeat (first | with_reducible (first | assumption | exact Below.refl _ _ | refine bel_alloc ?_ _ | refine bel_drew ?_ | refine bel_drewN ?_ _ | refine bel_set ?_ (by first | omega | (simp; done) | (simp; omega)) _ | refine bel_trans ?_ (by assumption)) | assumption | refine bel_trans ?_ (by assumption)))
  clear hb1 hb2
  go_wp2_with fail
  refine (HB.out _).mono ?_
  rintro e wb ⟨rfl, rfl⟩
  go_wp2
  go_ret
  first | exact ⟨rfl, by (repeat (first | with_reducible (first | assumption | exact Below.refl _ _ | refine bel_alloc ?_ _ | refine bel_drew ?_ | refine bel_drewN ?_ _ | refine bel_set ?_ (by first | omega | (simp; done) | (simp; omega)) _ | refine bel_trans ?_ (by assumption)) | assumption | refine bel_trans ?_ (by assumption)))⟩ | exact ⟨ret_bool (by first | exact decide_eq_false (by omega) | exact decide_eq_true (by omega)), by (repeat (first | with_reducible (first | assumption | exact Below.refl _ _ | refine bel_alloc ?_ _ | refine bel_drew ?_ | refine bel_drewN ?_ _ | refine bel_set ?_ (by first | omega | (simp; done) | (simp; omega)) _ | refine bel_trans ?_ (by assumption)) | assumption | refine bel_trans ?_ (by assumption)))⟩

set_option maxHeartbeats 4000000 in
set_option maxRecDepth 100000 in
theorem c_resume_new (k : Kn) (A : Option Addr) (cap L : Nat) (P Q : ByteArray) (b : Bool) (w : World) (h : PsAt w L A cap k.ps) (hL : L ≤ w.heap.size) (hP : P.size ≤ maxLen) (hQ : Q.size ≤ maxLen) (hw : k.Wf) (hk : k.Ok) (hf : dataFits k.o k.l k.m ByteArray.empty = true) : Calls Try.prog 130 #[.agg #[.int .i64 k.o, .int .i64 k.l, .int .i64 k.m, .slice A k.ps.length cap, .int .i64 k.base, .int .i64 k.last, .string ByteArray.empty, .string ByteArray.empty, .bool false]] w fun e w' => ∃ X, e = .returned (.tuple #[.pointer X, .bool true]) ∧ Below w.heap.size w w' := by
  have HV := hid (fun (v : World) (hb : Below w.heap.size w v) => c_KnownValid_yes k A cap L v (h.below hb hL) (Nat.le_trans hL hb.size) hk hw)
  have HKN := hid (Blk.new w 99 #[.int .i64 k.o, .int .i64 k.l, .int .i64 k.m, .slice A k.ps.length cap, .int .i64 k.base, .int .i64 k.last, .string ByteArray.empty, .string ByteArray.empty, .bool false])
  obtain ⟨p0, p1, p2, p3, p4, p5, p6, p7, p8⟩ := HKN.out.cells9
  have HD := hid (fun (v : World) => c_DataFits k.o k.l k.m ByteArray.empty v (by simp [maxLen]))
  simp only [hf] at HD
  have HB := hid (fun (v : World) => c_BitsValid ByteArray.empty v (by simp [maxLen]))
  simp only [show bitsOk ByteArray.empty = true from by rfl] at HB
  have HNF := hid (fun (v : World) (hb : Below w.heap.size w v) => c_newFinder k A cap L v hk (h.below hb hL) (Nat.le_trans hL hb.size))
  have kc := fun (w : World) (s : ByteArray) => run_bytes_of_string (P := Try.prog) w 9 128 5 s Try.underlying9 Try.underlying128 Try.underlying5
  unfold maxLen at hP hQ
  clear h hk hw
  clear hf
  go_enter Try.func130, Try.ntmps130
  go_wp2_with fail
  refine (HV.out _ (by (repeat (first | with_reducible (first | assumption | exact Below.refl _ _ | refine bel_alloc ?_ _ | refine bel_drew ?_ | refine bel_drewN ?_ _ | refine bel_set ?_ (by first | omega | (simp; done) | (simp; omega)) _ | refine bel_trans ?_ (by assumption)) | assumption | refine bel_trans ?_ (by assumption))))).mono ?_
  rintro e w1 ⟨rfl, hb1⟩
  have K1 := hid (HKN.out.on hb1)
  clear p0 p1 p2 p3 p4 p5 p6 p7 p8
  obtain ⟨p0, p1, p2, p3, p4, p5, p6, p7, p8⟩ := K1.out.cells9
  go_wp2_with fail
  refine (HD.out _).mono ?_
  rintro e w2 ⟨rfl, hb2⟩
  have K2 := hid (K1.out.on hb2)
  clear p0 p1 p2 p3 p4 p5 p6 p7 p8
  obtain ⟨p0, p1, p2, p3, p4, p5, p6, p7, p8⟩ := K2.out.cells9
  have B2 : Below w.heap.size w w2 := by (repeat (first | with_reducible (first | assumption | exact Below.refl _ _ | refine bel_alloc ?_ _ | refine bel_drew ?_ | refine bel_drewN ?_ _ | refine bel_set ?_ (by first | omega | (simp; done) | (simp; omega)) _ | refine bel_trans ?_ (by assumption)) | assumption | refine bel_trans ?_ (by assumption)))
  clear hb1 hb2
  go_wp2_with fail
  refine (HB.out _).mono ?_
  rintro e wb ⟨rfl, rfl⟩
  go_wp2_with fail
  refine (HNF.out _ B2).mono ?_
  rintro e w3 ⟨hb3, fb, A3, cap3, nb, cap2, N, Lo, bm, n, rfl, hn3, hF3⟩
  have HF3 := hid hF3
  clear hF3
  have K3 := hid (K2.out.on hb3)
  clear p0 p1 p2 p3 p4 p5 p6 p7 p8
  obtain ⟨p0, p1, p2, p3, p4, p5, p6, p7, p8⟩ := K3.out.cells9
  have hz3 := K3.out.lt
  go_wp2
  go_ret2
  first | exact ⟨_, rfl, by (repeat (first | with_reducible (first | assumption | exact Below.refl _ _ | refine bel_alloc ?_ _ | refine bel_drew ?_ | refine bel_drewN ?_ _ | refine bel_set ?_ (by first | omega | (simp; done) | (simp; omega)) _ | refine bel_trans ?_ (by assumption)) | assumption | refine bel_trans ?_ (by assumption)))⟩ | exact ⟨⟨_, rfl⟩, by (repeat (first | with_reducible (first | assumption | exact Below.refl _ _ | refine bel_alloc ?_ _ | refine bel_drew ?_ | refine bel_drewN ?_ _ | refine bel_set ?_ (by first | omega | (simp; done) | (simp; omega)) _ | refine bel_trans ?_ (by assumption)) | assumption | refine bel_trans ?_ (by assumption)))⟩

set_option maxHeartbeats 4000000 in
set_option maxRecDepth 100000 in
theorem c_sresume_new (k : Kn) (A : Option Addr) (cap L : Nat) (P Q : ByteArray) (b : Bool) (w : World) (h : PsAt w L A cap k.ps) (hL : L ≤ w.heap.size) (hP : P.size ≤ maxLen) (hQ : Q.size ≤ maxLen) (hw : k.Wf) (hk : k.Ok) (hf : dataFits k.o k.l k.m ByteArray.empty = true) : Calls Try.prog 78 #[.agg #[.int .i64 k.o, .int .i64 k.l, .int .i64 k.m, .slice A k.ps.length cap, .int .i64 k.base, .int .i64 k.last, .string ByteArray.empty, .string ByteArray.empty, .bool false]] w fun e w' => e = .returned (.bool true) ∧ Below w.heap.size w w' := by
  have HV := hid (fun (v : World) (hb : Below w.heap.size w v) => c_sKnownValid_yes k A cap L v (h.below hb hL) (Nat.le_trans hL hb.size) hk hw)
  have HKN := hid (Blk.new w 99 #[.int .i64 k.o, .int .i64 k.l, .int .i64 k.m, .slice A k.ps.length cap, .int .i64 k.base, .int .i64 k.last, .string ByteArray.empty, .string ByteArray.empty, .bool false])
  obtain ⟨p0, p1, p2, p3, p4, p5, p6, p7, p8⟩ := HKN.out.cells9
  have HD := hid (fun (v : World) => c_sDataFits k.o k.l k.m ByteArray.empty v (by simp [maxLen]))
  simp only [hf] at HD
  have HB := hid (fun (v : World) => c_sBitsValid ByteArray.empty v (by simp [maxLen]))
  simp only [show bitsOk ByteArray.empty = true from by rfl] at HB
  unfold maxLen at hP hQ
  clear h hk hw
  clear hf
  go_enter Try.func78, Try.ntmps78
  go_wp2_with fail
  refine (HV.out _ (by (repeat (first | with_reducible (first | assumption | exact Below.refl _ _ | refine bel_alloc ?_ _ | refine bel_drew ?_ | refine bel_drewN ?_ _ | refine bel_set ?_ (by first | omega | (simp; done) | (simp; omega)) _ | refine bel_trans ?_ (by assumption)) | assumption | refine bel_trans ?_ (by assumption))))).mono ?_
  rintro e w1 ⟨rfl, hb1⟩
  have K1 := hid (HKN.out.on hb1)
  clear p0 p1 p2 p3 p4 p5 p6 p7 p8
  obtain ⟨p0, p1, p2, p3, p4, p5, p6, p7, p8⟩ := K1.out.cells9
  go_wp2_with fail
  refine (HD.out _).mono ?_
  rintro e w2 ⟨rfl, hb2⟩
  have K2 := hid (K1.out.on hb2)
  clear p0 p1 p2 p3 p4 p5 p6 p7 p8
  obtain ⟨p0, p1, p2, p3, p4, p5, p6, p7, p8⟩ := K2.out.cells9
  have B2 : Below w.heap.size w w2 := by (repeat (first | with_reducible (first | assumption | exact Below.refl _ _ | refine bel_alloc ?_ _ | refine bel_drew ?_ | refine bel_drewN ?_ _ | refine bel_set ?_ (by first | omega | (simp; done) | (simp; omega)) _ | refine bel_trans ?_ (by assumption)) | assumption | refine bel_trans ?_ (by assumption)))
  clear hb1 hb2
  go_wp2_with fail
  refine (HB.out _).mono ?_
  rintro e wb ⟨rfl, rfl⟩
  go_wp2
  go_ret
  first | exact ⟨rfl, by (repeat (first | with_reducible (first | assumption | exact Below.refl _ _ | refine bel_alloc ?_ _ | refine bel_drew ?_ | refine bel_drewN ?_ _ | refine bel_set ?_ (by first | omega | (simp; done) | (simp; omega)) _ | refine bel_trans ?_ (by assumption)) | assumption | refine bel_trans ?_ (by assumption)))⟩ | exact ⟨ret_bool (by first | exact decide_eq_false (by omega) | exact decide_eq_true (by omega)), by (repeat (first | with_reducible (first | assumption | exact Below.refl _ _ | refine bel_alloc ?_ _ | refine bel_drew ?_ | refine bel_drewN ?_ _ | refine bel_set ?_ (by first | omega | (simp; done) | (simp; omega)) _ | refine bel_trans ?_ (by assumption)) | assumption | refine bel_trans ?_ (by assumption)))⟩

set_option maxHeartbeats 4000000 in
set_option maxRecDepth 100000 in
theorem c_resume_none (k : Kn) (A : Option Addr) (cap L : Nat) (P Q : ByteArray) (b : Bool) (w : World) (h : PsAt w L A cap k.ps) (hL : L ≤ w.heap.size) (hP : P.size ≤ maxLen) (hQ : Q.size ≤ maxLen) (hw : k.Wf) (hk : k.Ok) (hf : dataFits k.o k.l k.m ByteArray.empty = true) (hq : bitsOk Q = true) (h8 : Q.size < 8) : Calls Try.prog 130 #[.agg #[.int .i64 k.o, .int .i64 k.l, .int .i64 k.m, .slice A k.ps.length cap, .int .i64 k.base, .int .i64 k.last, .string ByteArray.empty, .string Q, .bool true]] w fun e w' => ∃ X, e = .returned (.tuple #[.pointer X, .bool true]) ∧ Below w.heap.size w w' := by
  have HV := hid (fun (v : World) (hb : Below w.heap.size w v) => c_KnownValid_yes k A cap L v (h.below hb hL) (Nat.le_trans hL hb.size) hk hw)
  have HKN := hid (Blk.new w 99 #[.int .i64 k.o, .int .i64 k.l, .int .i64 k.m, .slice A k.ps.length cap, .int .i64 k.base, .int .i64 k.last, .string ByteArray.empty, .string Q, .bool true])
  obtain ⟨p0, p1, p2, p3, p4, p5, p6, p7, p8⟩ := HKN.out.cells9
  have HD := hid (fun (v : World) => c_DataFits k.o k.l k.m ByteArray.empty v (by simp [maxLen]))
  simp only [hf] at HD
  have HB := hid (fun (v : World) => c_BitsValid Q v hQ)
  simp only [hq] at HB
  have HNF := hid (fun (v : World) (hb : Below w.heap.size w v) => c_newFinder k A cap L v hk (h.below hb hL) (Nat.le_trans hL hb.size))
  have kc := fun (w : World) (s : ByteArray) => run_bytes_of_string (P := Try.prog) w 9 128 5 s Try.underlying9 Try.underlying128 Try.underlying5
  unfold maxLen at hP hQ
  clear h hk hw
  clear hf
  clear hq
  go_enter Try.func130, Try.ntmps130
  go_wp2_with fail
  refine (HV.out _ (by (repeat (first | with_reducible (first | assumption | exact Below.refl _ _ | refine bel_alloc ?_ _ | refine bel_drew ?_ | refine bel_drewN ?_ _ | refine bel_set ?_ (by first | omega | (simp; done) | (simp; omega)) _ | refine bel_trans ?_ (by assumption)) | assumption | refine bel_trans ?_ (by assumption))))).mono ?_
  rintro e w1 ⟨rfl, hb1⟩
  have K1 := hid (HKN.out.on hb1)
  clear p0 p1 p2 p3 p4 p5 p6 p7 p8
  obtain ⟨p0, p1, p2, p3, p4, p5, p6, p7, p8⟩ := K1.out.cells9
  go_wp2_with fail
  refine (HD.out _).mono ?_
  rintro e w2 ⟨rfl, hb2⟩
  have K2 := hid (K1.out.on hb2)
  clear p0 p1 p2 p3 p4 p5 p6 p7 p8
  obtain ⟨p0, p1, p2, p3, p4, p5, p6, p7, p8⟩ := K2.out.cells9
  have B2 : Below w.heap.size w w2 := by (repeat (first | with_reducible (first | assumption | exact Below.refl _ _ | refine bel_alloc ?_ _ | refine bel_drew ?_ | refine bel_drewN ?_ _ | refine bel_set ?_ (by first | omega | (simp; done) | (simp; omega)) _ | refine bel_trans ?_ (by assumption)) | assumption | refine bel_trans ?_ (by assumption)))
  clear hb1 hb2
  go_wp2_with fail
  refine (HB.out _).mono ?_
  rintro e wb ⟨rfl, rfl⟩
  go_wp2_with fail
  refine (HNF.out _ B2).mono ?_
  rintro e w3 ⟨hb3, fb, A3, cap3, nb, cap2, N, Lo, bm, n, rfl, hn3, hF3⟩
  have HF3 := hid hF3
  clear hF3
  have K3 := hid (K2.out.on hb3)
  clear p0 p1 p2 p3 p4 p5 p6 p7 p8
  obtain ⟨p0, p1, p2, p3, p4, p5, p6, p7, p8⟩ := K3.out.cells9
  have hz3 := K3.out.lt
  go_wp2
  go_ret2
  first | exact ⟨_, rfl, by (repeat (first | with_reducible (first | assumption | exact Below.refl _ _ | refine bel_alloc ?_ _ | refine bel_drew ?_ | refine bel_drewN ?_ _ | refine bel_set ?_ (by first | omega | (simp; done) | (simp; omega)) _ | refine bel_trans ?_ (by assumption)) | assumption | refine bel_trans ?_ (by assumption)))⟩ | exact ⟨⟨_, rfl⟩, by (repeat (first | with_reducible (first | assumption | exact Below.refl _ _ | refine bel_alloc ?_ _ | refine bel_drew ?_ | refine bel_drewN ?_ _ | refine bel_set ?_ (by first | omega | (simp; done) | (simp; omega)) _ | refine bel_trans ?_ (by assumption)) | assumption | refine bel_trans ?_ (by assumption)))⟩

set_option maxHeartbeats 4000000 in
set_option maxRecDepth 100000 in
theorem c_sresume_none (k : Kn) (A : Option Addr) (cap L : Nat) (P Q : ByteArray) (b : Bool) (w : World) (h : PsAt w L A cap k.ps) (hL : L ≤ w.heap.size) (hP : P.size ≤ maxLen) (hQ : Q.size ≤ maxLen) (hw : k.Wf) (hk : k.Ok) (hf : dataFits k.o k.l k.m ByteArray.empty = true) (hq : bitsOk Q = true) (h8 : Q.size < 8) : Calls Try.prog 78 #[.agg #[.int .i64 k.o, .int .i64 k.l, .int .i64 k.m, .slice A k.ps.length cap, .int .i64 k.base, .int .i64 k.last, .string ByteArray.empty, .string Q, .bool true]] w fun e w' => e = .returned (.bool true) ∧ Below w.heap.size w w' := by
  have HV := hid (fun (v : World) (hb : Below w.heap.size w v) => c_sKnownValid_yes k A cap L v (h.below hb hL) (Nat.le_trans hL hb.size) hk hw)
  have HKN := hid (Blk.new w 99 #[.int .i64 k.o, .int .i64 k.l, .int .i64 k.m, .slice A k.ps.length cap, .int .i64 k.base, .int .i64 k.last, .string ByteArray.empty, .string Q, .bool true])
  obtain ⟨p0, p1, p2, p3, p4, p5, p6, p7, p8⟩ := HKN.out.cells9
  have HD := hid (fun (v : World) => c_sDataFits k.o k.l k.m ByteArray.empty v (by simp [maxLen]))
  simp only [hf] at HD
  have HB := hid (fun (v : World) => c_sBitsValid Q v hQ)
  simp only [hq] at HB
  unfold maxLen at hP hQ
  clear h hk hw
  clear hf
  clear hq
  go_enter Try.func78, Try.ntmps78
  go_wp2_with fail
  refine (HV.out _ (by (repeat (first | with_reducible (first | assumption | exact Below.refl _ _ | refine bel_alloc ?_ _ | refine bel_drew ?_ | refine bel_drewN ?_ _ | refine bel_set ?_ (by first | omega | (simp; done) | (simp; omega)) _ | refine bel_trans ?_ (by assumption)) | assumption | refine bel_trans ?_ (by assumption))))).mono ?_
  rintro e w1 ⟨rfl, hb1⟩
  have K1 := hid (HKN.out.on hb1)
  clear p0 p1 p2 p3 p4 p5 p6 p7 p8
  obtain ⟨p0, p1, p2, p3, p4, p5, p6, p7, p8⟩ := K1.out.cells9
  go_wp2_with fail
  refine (HD.out _).mono ?_
  rintro e w2 ⟨rfl, hb2⟩
  have K2 := hid (K1.out.on hb2)
  clear p0 p1 p2 p3 p4 p5 p6 p7 p8
  obtain ⟨p0, p1, p2, p3, p4, p5, p6, p7, p8⟩ := K2.out.cells9
  have B2 : Below w.heap.size w w2 := by (repeat (first | with_reducible (first | assumption | exact Below.refl _ _ | refine bel_alloc ?_ _ | refine bel_drew ?_ | refine bel_drewN ?_ _ | refine bel_set ?_ (by first | omega | (simp; done) | (simp; omega)) _ | refine bel_trans ?_ (by assumption)) | assumption | refine bel_trans ?_ (by assumption)))
  clear hb1 hb2
  go_wp2_with fail
  refine (HB.out _).mono ?_
  rintro e wb ⟨rfl, rfl⟩
  go_wp2
  go_ret
  first | exact ⟨rfl, by (repeat (first | with_reducible (first | assumption | exact Below.refl _ _ | refine bel_alloc ?_ _ | refine bel_drew ?_ | refine bel_drewN ?_ _ | refine bel_set ?_ (by first | omega | (simp; done) | (simp; omega)) _ | refine bel_trans ?_ (by assumption)) | assumption | refine bel_trans ?_ (by assumption)))⟩ | exact ⟨ret_bool (by first | exact decide_eq_false (by omega) | exact decide_eq_true (by omega)), by (repeat (first | with_reducible (first | assumption | exact Below.refl _ _ | refine bel_alloc ?_ _ | refine bel_drew ?_ | refine bel_drewN ?_ _ | refine bel_set ?_ (by first | omega | (simp; done) | (simp; omega)) _ | refine bel_trans ?_ (by assumption)) | assumption | refine bel_trans ?_ (by assumption)))⟩

set_option maxHeartbeats 4000000 in
set_option maxRecDepth 100000 in
theorem c_resume_yes (k : Kn) (A : Option Addr) (cap L : Nat) (P Q : ByteArray) (b : Bool) (w : World) (h : PsAt w L A cap k.ps) (hL : L ≤ w.heap.size) (hP : P.size ≤ maxLen) (hQ : Q.size ≤ maxLen) (hw : k.Wf) (hk : k.Ok) (hf : dataFits k.o k.l k.m P = true) (hq : bitsOk Q = true) (h8 : Q.size < 8) (h0 : 0 < P.size) (hn : 0 ≤ k.find P.data.toList) : Calls Try.prog 130 #[.agg #[.int .i64 k.o, .int .i64 k.l, .int .i64 k.m, .slice A k.ps.length cap, .int .i64 k.base, .int .i64 k.last, .string P, .string Q, .bool true]] w fun e w' => ∃ X, e = .returned (.tuple #[.pointer X, .bool true]) ∧ Below w.heap.size w w' := by
  have HV := hid (fun (v : World) (hb : Below w.heap.size w v) => c_KnownValid_yes k A cap L v (h.below hb hL) (Nat.le_trans hL hb.size) hk hw)
  have HKN := hid (Blk.new w 99 #[.int .i64 k.o, .int .i64 k.l, .int .i64 k.m, .slice A k.ps.length cap, .int .i64 k.base, .int .i64 k.last, .string P, .string Q, .bool true])
  obtain ⟨p0, p1, p2, p3, p4, p5, p6, p7, p8⟩ := HKN.out.cells9
  have HD := hid (fun (v : World) => c_DataFits k.o k.l k.m P v hP)
  simp only [hf] at HD
  have HB := hid (fun (v : World) => c_BitsValid Q v hQ)
  simp only [hq] at HB
  have he := not_empty h0
  have hs : P.size ≤ 1048576 := by have := (fits_lits hf).2; omega
  have hl := fits_first h0 hf
  have HOk := hid hk
  have HIs := hid (fun (L fb : Nat) (A : Option Addr) (cap nb cap2 : Nat) (N : Nat → Nat) (Lo : Nat → Option Nat) (bm n : Nat) (v : World) (hF : FQ L fb k A cap nb cap2 k.ps N Lo bm n v) => c_isWord_yes L fb k A cap nb cap2 N Lo bm n P v HOk.out hF h0 hs hl hn)
  have HNF := hid (fun (v : World) (hb : Below w.heap.size w v) => c_newFinder k A cap L v hk (h.below hb hL) (Nat.le_trans hL hb.size))
  have kc := fun (w : World) (s : ByteArray) => run_bytes_of_string (P := Try.prog) w 9 128 5 s Try.underlying9 Try.underlying128 Try.underlying5
  unfold maxLen at hP hQ
  clear h hk hw
  clear hf
  clear hq
  clear hl
  clear hn
  go_enter Try.func130, Try.ntmps130
  go_wp2_with fail
  refine (HV.out _ (by (repeat (first | with_reducible (first | assumption | exact Below.refl _ _ | refine bel_alloc ?_ _ | refine bel_drew ?_ | refine bel_drewN ?_ _ | refine bel_set ?_ (by first | omega | (simp; done) | (simp; omega)) _ | refine bel_trans ?_ (by assumption)) | assumption | refine bel_trans ?_ (by assumption))))).mono ?_
  rintro e w1 ⟨rfl, hb1⟩
  have K1 := hid (HKN.out.on hb1)
  clear p0 p1 p2 p3 p4 p5 p6 p7 p8
  obtain ⟨p0, p1, p2, p3, p4, p5, p6, p7, p8⟩ := K1.out.cells9
  go_wp2_with fail
  refine (HD.out _).mono ?_
  rintro e w2 ⟨rfl, hb2⟩
  have K2 := hid (K1.out.on hb2)
  clear p0 p1 p2 p3 p4 p5 p6 p7 p8
  obtain ⟨p0, p1, p2, p3, p4, p5, p6, p7, p8⟩ := K2.out.cells9
  have B2 : Below w.heap.size w w2 := by (repeat (first | with_reducible (first | assumption | exact Below.refl _ _ | refine bel_alloc ?_ _ | refine bel_drew ?_ | refine bel_drewN ?_ _ | refine bel_set ?_ (by first | omega | (simp; done) | (simp; omega)) _ | refine bel_trans ?_ (by assumption)) | assumption | refine bel_trans ?_ (by assumption)))
  clear hb1 hb2
  go_wp2_with fail
  refine (HB.out _).mono ?_
  rintro e wb ⟨rfl, rfl⟩
  go_wp2_with fail
  refine (HNF.out _ B2).mono ?_
  rintro e w3 ⟨hb3, fb, A3, cap3, nb, cap2, N, Lo, bm, n, rfl, hn3, hF3⟩
  have HF3 := hid hF3
  clear hF3
  have K3 := hid (K2.out.on hb3)
  clear p0 p1 p2 p3 p4 p5 p6 p7 p8
  obtain ⟨p0, p1, p2, p3, p4, p5, p6, p7, p8⟩ := K3.out.cells9
  have hz3 := K3.out.lt
  go_wp2_with fail
  refine (HIs.out _ _ _ _ _ _ _ _ _ _ _ HF3.out).mono ?_
  rintro e w4 ⟨rfl, hb4⟩
  have K4 := hid (K3.out.on hb4)
  clear p0 p1 p2 p3 p4 p5 p6 p7 p8
  obtain ⟨p0, p1, p2, p3, p4, p5, p6, p7, p8⟩ := K4.out.cells9
  have hz4 := K4.out.lt
  go_wp2
  go_ret2
  first | exact ⟨_, rfl, by (repeat (first | with_reducible (first | assumption | exact Below.refl _ _ | refine bel_alloc ?_ _ | refine bel_drew ?_ | refine bel_drewN ?_ _ | refine bel_set ?_ (by first | omega | (simp; done) | (simp; omega)) _ | refine bel_trans ?_ (by assumption)) | assumption | refine bel_trans ?_ (by assumption)))⟩ | exact ⟨⟨_, rfl⟩, by (repeat (first | with_reducible (first | assumption | exact Below.refl _ _ | refine bel_alloc ?_ _ | refine bel_drew ?_ | refine bel_drewN ?_ _ | refine bel_set ?_ (by first | omega | (simp; done) | (simp; omega)) _ | refine bel_trans ?_ (by assumption)) | assumption | refine bel_trans ?_ (by assumption)))⟩

set_option maxHeartbeats 4000000 in
set_option maxRecDepth 100000 in
theorem c_sresume_yes (k : Kn) (A : Option Addr) (cap L : Nat) (P Q : ByteArray) (b : Bool) (w : World) (h : PsAt w L A cap k.ps) (hL : L ≤ w.heap.size) (hP : P.size ≤ maxLen) (hQ : Q.size ≤ maxLen) (hw : k.Wf) (hk : k.Ok) (hf : dataFits k.o k.l k.m P = true) (hq : bitsOk Q = true) (h8 : Q.size < 8) (h0 : 0 < P.size) (hn : 0 ≤ k.find P.data.toList) : Calls Try.prog 78 #[.agg #[.int .i64 k.o, .int .i64 k.l, .int .i64 k.m, .slice A k.ps.length cap, .int .i64 k.base, .int .i64 k.last, .string P, .string Q, .bool true]] w fun e w' => e = .returned (.bool true) ∧ Below w.heap.size w w' := by
  have HV := hid (fun (v : World) (hb : Below w.heap.size w v) => c_sKnownValid_yes k A cap L v (h.below hb hL) (Nat.le_trans hL hb.size) hk hw)
  have HKN := hid (Blk.new w 99 #[.int .i64 k.o, .int .i64 k.l, .int .i64 k.m, .slice A k.ps.length cap, .int .i64 k.base, .int .i64 k.last, .string P, .string Q, .bool true])
  obtain ⟨p0, p1, p2, p3, p4, p5, p6, p7, p8⟩ := HKN.out.cells9
  have HD := hid (fun (v : World) => c_sDataFits k.o k.l k.m P v hP)
  simp only [hf] at HD
  have HB := hid (fun (v : World) => c_sBitsValid Q v hQ)
  simp only [hq] at HB
  have he := not_empty h0
  have hs : P.size ≤ 1048576 := by have := (fits_lits hf).2; omega
  have hl := fits_first h0 hf
  have HF := hid (fun (v : World) (hb : Below w.heap.size w v) => c_l2Find k A cap L P v hk (h.below hb hL) (Nat.le_trans hL hb.size) hs)
  obtain ⟨F, hF⟩ : ∃ F, F = k.find P.data.toList := ⟨_, rfl⟩
  simp only [← hF] at HF hn
  clear hF
  unfold maxLen at hP hQ
  clear h hk hw
  clear hf
  clear hq
  clear hl
  go_enter Try.func78, Try.ntmps78
  go_wp2_with fail
  refine (HV.out _ (by (repeat (first | with_reducible (first | assumption | exact Below.refl _ _ | refine bel_alloc ?_ _ | refine bel_drew ?_ | refine bel_drewN ?_ _ | refine bel_set ?_ (by first | omega | (simp; done) | (simp; omega)) _ | refine bel_trans ?_ (by assumption)) | assumption | refine bel_trans ?_ (by assumption))))).mono ?_
  rintro e w1 ⟨rfl, hb1⟩
  have K1 := hid (HKN.out.on hb1)
  clear p0 p1 p2 p3 p4 p5 p6 p7 p8
  obtain ⟨p0, p1, p2, p3, p4, p5, p6, p7, p8⟩ := K1.out.cells9
  go_wp2_with fail
  refine (HD.out _).mono ?_
  rintro e w2 ⟨rfl, hb2⟩
  have K2 := hid (K1.out.on hb2)
  clear p0 p1 p2 p3 p4 p5 p6 p7 p8
  obtain ⟨p0, p1, p2, p3, p4, p5, p6, p7, p8⟩ := K2.out.cells9
  have B2 : Below w.heap.size w w2 := by (repeat (first | with_reducible (first | assumption | exact Below.refl _ _ | refine bel_alloc ?_ _ | refine bel_drew ?_ | refine bel_drewN ?_ _ | refine bel_set ?_ (by first | omega | (simp; done) | (simp; omega)) _ | refine bel_trans ?_ (by assumption)) | assumption | refine bel_trans ?_ (by assumption)))
  clear hb1 hb2
  go_wp2_with fail
  refine (HB.out _).mono ?_
  rintro e wb ⟨rfl, rfl⟩
  go_wp2_with fail
  refine (HF.out _ (by (repeat (first | with_reducible (first | assumption | exact Below.refl _ _ | refine bel_alloc ?_ _ | refine bel_drew ?_ | refine bel_drewN ?_ _ | refine bel_set ?_ (by first | omega | (simp; done) | (simp; omega)) _ | refine bel_trans ?_ (by assumption)) | assumption | refine bel_trans ?_ (by assumption))))).mono ?_
  rintro e w4 ⟨rfl, hb4⟩
  go_wp2
  go_ret
  first | exact ⟨rfl, by (repeat (first | with_reducible (first | assumption | exact Below.refl _ _ | refine bel_alloc ?_ _ | refine bel_drew ?_ | refine bel_drewN ?_ _ | refine bel_set ?_ (by first | omega | (simp; done) | (simp; omega)) _ | refine bel_trans ?_ (by assumption)) | assumption | refine bel_trans ?_ (by assumption)))⟩ | exact ⟨ret_bool (by first | exact decide_eq_false (by omega) | exact decide_eq_true (by omega)), by (repeat (first | with_reducible (first | assumption | exact Below.refl _ _ | refine bel_alloc ?_ _ | refine bel_drew ?_ | refine bel_drewN ?_ _ | refine bel_set ?_ (by first | omega | (simp; done) | (simp; omega)) _ | refine bel_trans ?_ (by assumption)) | assumption | refine bel_trans ?_ (by assumption)))⟩

set_option maxHeartbeats 4000000 in
set_option maxRecDepth 100000 in
theorem c_resume_no (k : Kn) (A : Option Addr) (cap L : Nat) (P Q : ByteArray) (b : Bool) (w : World) (h : PsAt w L A cap k.ps) (hL : L ≤ w.heap.size) (hP : P.size ≤ maxLen) (hQ : Q.size ≤ maxLen) (hw : k.Wf) (hk : k.Ok) (hf : dataFits k.o k.l k.m P = true) (hq : bitsOk Q = true) (h8 : Q.size < 8) (h0 : 0 < P.size) (hn : k.find P.data.toList < 0) : Calls Try.prog 130 #[.agg #[.int .i64 k.o, .int .i64 k.l, .int .i64 k.m, .slice A k.ps.length cap, .int .i64 k.base, .int .i64 k.last, .string P, .string Q, .bool true]] w fun e w' => ∃ X, e = .returned (.tuple #[.pointer X, .bool false]) ∧ Below w.heap.size w w' := by
  have HV := hid (fun (v : World) (hb : Below w.heap.size w v) => c_KnownValid_yes k A cap L v (h.below hb hL) (Nat.le_trans hL hb.size) hk hw)
  have HKN := hid (Blk.new w 99 #[.int .i64 k.o, .int .i64 k.l, .int .i64 k.m, .slice A k.ps.length cap, .int .i64 k.base, .int .i64 k.last, .string P, .string Q, .bool true])
  obtain ⟨p0, p1, p2, p3, p4, p5, p6, p7, p8⟩ := HKN.out.cells9
  have HD := hid (fun (v : World) => c_DataFits k.o k.l k.m P v hP)
  simp only [hf] at HD
  have HB := hid (fun (v : World) => c_BitsValid Q v hQ)
  simp only [hq] at HB
  have he := not_empty h0
  have hs : P.size ≤ 1048576 := by have := (fits_lits hf).2; omega
  have hl := fits_first h0 hf
  have HOk := hid hk
  have HIs := hid (fun (L fb : Nat) (A : Option Addr) (cap nb cap2 : Nat) (N : Nat → Nat) (Lo : Nat → Option Nat) (bm n : Nat) (v : World) (hF : FQ L fb k A cap nb cap2 k.ps N Lo bm n v) => c_isWord_no L fb k A cap nb cap2 N Lo bm n P v HOk.out hF h0 hs hl hn)
  have HNF := hid (fun (v : World) (hb : Below w.heap.size w v) => c_newFinder k A cap L v hk (h.below hb hL) (Nat.le_trans hL hb.size))
  have kc := fun (w : World) (s : ByteArray) => run_bytes_of_string (P := Try.prog) w 9 128 5 s Try.underlying9 Try.underlying128 Try.underlying5
  unfold maxLen at hP hQ
  clear h hk hw
  clear hf
  clear hq
  clear hl
  clear hn
  go_enter Try.func130, Try.ntmps130
  go_wp2_with fail
  refine (HV.out _ (by (repeat (first | with_reducible (first | assumption | exact Below.refl _ _ | refine bel_alloc ?_ _ | refine bel_drew ?_ | refine bel_drewN ?_ _ | refine bel_set ?_ (by first | omega | (simp; done) | (simp; omega)) _ | refine bel_trans ?_ (by assumption)) | assumption | refine bel_trans ?_ (by assumption))))).mono ?_
  rintro e w1 ⟨rfl, hb1⟩
  have K1 := hid (HKN.out.on hb1)
  clear p0 p1 p2 p3 p4 p5 p6 p7 p8
  obtain ⟨p0, p1, p2, p3, p4, p5, p6, p7, p8⟩ := K1.out.cells9
  go_wp2_with fail
  refine (HD.out _).mono ?_
  rintro e w2 ⟨rfl, hb2⟩
  have K2 := hid (K1.out.on hb2)
  clear p0 p1 p2 p3 p4 p5 p6 p7 p8
  obtain ⟨p0, p1, p2, p3, p4, p5, p6, p7, p8⟩ := K2.out.cells9
  have B2 : Below w.heap.size w w2 := by (repeat (first | with_reducible (first | assumption | exact Below.refl _ _ | refine bel_alloc ?_ _ | refine bel_drew ?_ | refine bel_drewN ?_ _ | refine bel_set ?_ (by first | omega | (simp; done) | (simp; omega)) _ | refine bel_trans ?_ (by assumption)) | assumption | refine bel_trans ?_ (by assumption)))
  clear hb1 hb2
  go_wp2_with fail
  refine (HB.out _).mono ?_
  rintro e wb ⟨rfl, rfl⟩
  go_wp2_with fail
  refine (HNF.out _ B2).mono ?_
  rintro e w3 ⟨hb3, fb, A3, cap3, nb, cap2, N, Lo, bm, n, rfl, hn3, hF3⟩
  have HF3 := hid hF3
  clear hF3
  have K3 := hid (K2.out.on hb3)
  clear p0 p1 p2 p3 p4 p5 p6 p7 p8
  obtain ⟨p0, p1, p2, p3, p4, p5, p6, p7, p8⟩ := K3.out.cells9
  have hz3 := K3.out.lt
  go_wp2_with fail
  refine (HIs.out _ _ _ _ _ _ _ _ _ _ _ HF3.out).mono ?_
  rintro e w4 ⟨rfl, hb4⟩
  have K4 := hid (K3.out.on hb4)
  clear p0 p1 p2 p3 p4 p5 p6 p7 p8
  obtain ⟨p0, p1, p2, p3, p4, p5, p6, p7, p8⟩ := K4.out.cells9
  have hz4 := K4.out.lt
  go_wp2
  go_ret2
  first | exact ⟨_, rfl, by (repeat (first | with_reducible (first | assumption | exact Below.refl _ _ | refine bel_alloc ?_ _ | refine bel_drew ?_ | refine bel_drewN ?_ _ | refine bel_set ?_ (by first | omega | (simp; done) | (simp; omega)) _ | refine bel_trans ?_ (by assumption)) | assumption | refine bel_trans ?_ (by assumption)))⟩ | exact ⟨⟨_, rfl⟩, by (repeat (first | with_reducible (first | assumption | exact Below.refl _ _ | refine bel_alloc ?_ _ | refine bel_drew ?_ | refine bel_drewN ?_ _ | refine bel_set ?_ (by first | omega | (simp; done) | (simp; omega)) _ | refine bel_trans ?_ (by assumption)) | assumption | refine bel_trans ?_ (by assumption)))⟩

set_option maxHeartbeats 4000000 in
set_option maxRecDepth 100000 in
theorem c_sresume_no (k : Kn) (A : Option Addr) (cap L : Nat) (P Q : ByteArray) (b : Bool) (w : World) (h : PsAt w L A cap k.ps) (hL : L ≤ w.heap.size) (hP : P.size ≤ maxLen) (hQ : Q.size ≤ maxLen) (hw : k.Wf) (hk : k.Ok) (hf : dataFits k.o k.l k.m P = true) (hq : bitsOk Q = true) (h8 : Q.size < 8) (h0 : 0 < P.size) (hn : k.find P.data.toList < 0) : Calls Try.prog 78 #[.agg #[.int .i64 k.o, .int .i64 k.l, .int .i64 k.m, .slice A k.ps.length cap, .int .i64 k.base, .int .i64 k.last, .string P, .string Q, .bool true]] w fun e w' => e = .returned (.bool false) ∧ Below w.heap.size w w' := by
  have HV := hid (fun (v : World) (hb : Below w.heap.size w v) => c_sKnownValid_yes k A cap L v (h.below hb hL) (Nat.le_trans hL hb.size) hk hw)
  have HKN := hid (Blk.new w 99 #[.int .i64 k.o, .int .i64 k.l, .int .i64 k.m, .slice A k.ps.length cap, .int .i64 k.base, .int .i64 k.last, .string P, .string Q, .bool true])
  obtain ⟨p0, p1, p2, p3, p4, p5, p6, p7, p8⟩ := HKN.out.cells9
  have HD := hid (fun (v : World) => c_sDataFits k.o k.l k.m P v hP)
  simp only [hf] at HD
  have HB := hid (fun (v : World) => c_sBitsValid Q v hQ)
  simp only [hq] at HB
  have he := not_empty h0
  have hs : P.size ≤ 1048576 := by have := (fits_lits hf).2; omega
  have hl := fits_first h0 hf
  have HF := hid (fun (v : World) (hb : Below w.heap.size w v) => c_l2Find k A cap L P v hk (h.below hb hL) (Nat.le_trans hL hb.size) hs)
  obtain ⟨F, hF⟩ : ∃ F, F = k.find P.data.toList := ⟨_, rfl⟩
  simp only [← hF] at HF hn
  clear hF
  unfold maxLen at hP hQ
  clear h hk hw
  clear hf
  clear hq
  clear hl
  go_enter Try.func78, Try.ntmps78
  go_wp2_with fail
  refine (HV.out _ (by (repeat (first | with_reducible (first | assumption | exact Below.refl _ _ | refine bel_alloc ?_ _ | refine bel_drew ?_ | refine bel_drewN ?_ _ | refine bel_set ?_ (by first | omega | (simp; done) | (simp; omega)) _ | refine bel_trans ?_ (by assumption)) | assumption | refine bel_trans ?_ (by assumption))))).mono ?_
  rintro e w1 ⟨rfl, hb1⟩
  have K1 := hid (HKN.out.on hb1)
  clear p0 p1 p2 p3 p4 p5 p6 p7 p8
  obtain ⟨p0, p1, p2, p3, p4, p5, p6, p7, p8⟩ := K1.out.cells9
  go_wp2_with fail
  refine (HD.out _).mono ?_
  rintro e w2 ⟨rfl, hb2⟩
  have K2 := hid (K1.out.on hb2)
  clear p0 p1 p2 p3 p4 p5 p6 p7 p8
  obtain ⟨p0, p1, p2, p3, p4, p5, p6, p7, p8⟩ := K2.out.cells9
  have B2 : Below w.heap.size w w2 := by (repeat (first | with_reducible (first | assumption | exact Below.refl _ _ | refine bel_alloc ?_ _ | refine bel_drew ?_ | refine bel_drewN ?_ _ | refine bel_set ?_ (by first | omega | (simp; done) | (simp; omega)) _ | refine bel_trans ?_ (by assumption)) | assumption | refine bel_trans ?_ (by assumption)))
  clear hb1 hb2
  go_wp2_with fail
  refine (HB.out _).mono ?_
  rintro e wb ⟨rfl, rfl⟩
  go_wp2_with fail
  refine (HF.out _ (by (repeat (first | with_reducible (first | assumption | exact Below.refl _ _ | refine bel_alloc ?_ _ | refine bel_drew ?_ | refine bel_drewN ?_ _ | refine bel_set ?_ (by first | omega | (simp; done) | (simp; omega)) _ | refine bel_trans ?_ (by assumption)) | assumption | refine bel_trans ?_ (by assumption))))).mono ?_
  rintro e w4 ⟨rfl, hb4⟩
  go_wp2
  go_ret
  first | exact ⟨rfl, by (repeat (first | with_reducible (first | assumption | exact Below.refl _ _ | refine bel_alloc ?_ _ | refine bel_drew ?_ | refine bel_drewN ?_ _ | refine bel_set ?_ (by first | omega | (simp; done) | (simp; omega)) _ | refine bel_trans ?_ (by assumption)) | assumption | refine bel_trans ?_ (by assumption)))⟩ | exact ⟨ret_bool (by first | exact decide_eq_false (by omega) | exact decide_eq_true (by omega)), by (repeat (first | with_reducible (first | assumption | exact Below.refl _ _ | refine bel_alloc ?_ _ | refine bel_drew ?_ | refine bel_drewN ?_ _ | refine bel_set ?_ (by first | omega | (simp; done) | (simp; omega)) _ | refine bel_trans ?_ (by assumption)) | assumption | refine bel_trans ?_ (by assumption)))⟩

set_option maxHeartbeats 4000000 in
theorem c_WriterValid (r : Bool) (k : Kn) (A : Option Addr) (cap : Nat) (P Q : ByteArray) (b : Bool) (w : World) (H : ∀ v, Below w.heap.size w v → Calls Try.prog 130 #[.agg #[.int .i64 k.o, .int .i64 k.l, .int .i64 k.m, .slice A k.ps.length cap, .int .i64 k.base, .int .i64 k.last, .string P, .string Q, .bool b]] v fun e w' => ∃ X, e = .returned (.tuple #[.pointer X, .bool r]) ∧ Below v.heap.size v w') : Calls Try.prog 80 #[.agg #[.int .i64 k.o, .int .i64 k.l, .int .i64 k.m, .slice A k.ps.length cap, .int .i64 k.base, .int .i64 k.last, .string P, .string Q, .bool b]] w fun e w' => e = .returned (.bool r) ∧ Below w.heap.size w w' := by
  have HR := hid H
  obtain ⟨p0, p1, p2, p3, p4, p5, p6, p7, p8⟩ := (Blk.new w 99 #[.int .i64 k.o, .int .i64 k.l, .int .i64 k.m, .slice A k.ps.length cap, .int .i64 k.base, .int .i64 k.last, .string P, .string Q, .bool b]).cells9
  clear H
  go_enter Try.func80, Try.ntmps80
  go_wp2_with fail
  refine (HR.out _ (by (repeat (first | with_reducible (first | assumption | exact Below.refl _ _ | refine bel_alloc ?_ _ | refine bel_drew ?_ | refine bel_drewN ?_ _ | refine bel_set ?_ (by first | omega | (simp; done) | (simp; omega)) _ | refine bel_trans ?_ (by assumption)) | assumption | refine bel_trans ?_ (by assumption))))).mono ?_
  rintro e w1 ⟨X, rfl, hb1⟩
  go_wp2
  go_ret
  exact ⟨rfl, by (repeat (first | with_reducible (first | assumption | exact Below.refl _ _ | refine bel_alloc ?_ _ | refine bel_drew ?_ | refine bel_drewN ?_ _ | refine bel_set ?_ (by first | omega | (simp; done) | (simp; omega)) _ | refine bel_trans ?_ (by assumption)) | assumption | refine bel_trans ?_ (by assumption)))⟩

theorem writer_both (k : Kn) (P Q : ByteArray) (b : Bool) (hP : P.size ≤ maxLen) (hQ : Q.size ≤ maxLen) (hw : k.Wf) : ∃ r : Bool, ∀ (A : Option Addr) (cap L : Nat) (w : World), PsAt w L A cap k.ps → L ≤ w.heap.size → (Calls Try.prog 78 #[.agg #[.int .i64 k.o, .int .i64 k.l, .int .i64 k.m, .slice A k.ps.length cap, .int .i64 k.base, .int .i64 k.last, .string P, .string Q, .bool b]] w fun e w' => e = .returned (.bool r) ∧ Below w.heap.size w w') ∧ (Calls Try.prog 130 #[.agg #[.int .i64 k.o, .int .i64 k.l, .int .i64 k.m, .slice A k.ps.length cap, .int .i64 k.base, .int .i64 k.last, .string P, .string Q, .bool b]] w fun e w' => ∃ X, e = .returned (.tuple #[.pointer X, .bool r]) ∧ Below w.heap.size w w') := by
  by_cases hk : k.Ok
  case neg => exact ⟨_, fun A cap L w h hL => ⟨c_sresume_bad k A cap L P Q b w h hL hP hQ hw hk, c_resume_bad k A cap L P Q b w h hL hP hQ hw hk⟩⟩
  cases hf : dataFits k.o k.l k.m P
  case false => exact ⟨_, fun A cap L w h hL => ⟨c_sresume_fits k A cap L P Q b w h hL hP hQ hw hk hf, c_resume_fits k A cap L P Q b w h hL hP hQ hw hk hf⟩⟩
  cases hq : bitsOk Q
  case false => exact ⟨_, fun A cap L w h hL => ⟨c_sresume_bits k A cap L P Q b w h hL hP hQ hw hk hf hq, c_resume_bits k A cap L P Q b w h hL hP hQ hw hk hf hq⟩⟩
  by_cases h8 : 8 ≤ Q.size
  · exact ⟨_, fun A cap L w h hL => ⟨c_sresume_long k A cap L P Q b w h hL hP hQ hw hk hf hq h8, c_resume_long k A cap L P Q b w h hL hP hQ hw hk hf hq h8⟩⟩
  have h8 : Q.size < 8 := by omega
  by_cases h0 : 0 < P.size
  · cases b
    · exact ⟨_, fun A cap L w h hL => ⟨c_sresume_newp k A cap L P Q false w h hL hP hQ hw hk hf hq h8 h0, c_resume_newp k A cap L P Q false w h hL hP hQ hw hk hf hq h8 h0⟩⟩
    · by_cases hn : 0 ≤ k.find P.data.toList
      · exact ⟨_, fun A cap L w h hL => ⟨c_sresume_yes k A cap L P Q true w h hL hP hQ hw hk hf hq h8 h0 hn, c_resume_yes k A cap L P Q true w h hL hP hQ hw hk hf hq h8 h0 hn⟩⟩
      · have hn : k.find P.data.toList < 0 := by omega
        exact ⟨_, fun A cap L w h hL => ⟨c_sresume_no k A cap L P Q true w h hL hP hQ hw hk hf hq h8 h0 hn, c_resume_no k A cap L P Q true w h hL hP hQ hw hk hf hq h8 h0 hn⟩⟩
  · have e := empty_of (show P.size = 0 by omega)
    subst e
    cases b
    · by_cases h1 : 0 < Q.size
      · exact ⟨_, fun A cap L w h hL => ⟨c_sresume_newq k A cap L ByteArray.empty Q false w h hL hP hQ hw hk hf hq h8 h1, c_resume_newq k A cap L ByteArray.empty Q false w h hL hP hQ hw hk hf hq h8 h1⟩⟩
      · have e := empty_of (show Q.size = 0 by omega)
        subst e
        exact ⟨_, fun A cap L w h hL => ⟨c_sresume_new k A cap L ByteArray.empty ByteArray.empty false w h hL hP hQ hw hk hf, c_resume_new k A cap L ByteArray.empty ByteArray.empty false w h hL hP hQ hw hk hf⟩⟩
    · exact ⟨_, fun A cap L w h hL => ⟨c_sresume_none k A cap L ByteArray.empty Q true w h hL hP hQ hw hk hf hq h8, c_resume_none k A cap L ByteArray.empty Q true w h hL hP hQ hw hk hf hq h8⟩⟩
end Go.Proofs.Ytfklkepodpcdgaa
