/- The reader's op, kind by kind. -/
import Derived.Test.YtaiemogcboidhaaGreatDoorLh
namespace Go.Proofs.YtaiemogcboidhaaGreatDoor
open Go.ChangeShapes Go.WideShapes Go.ChangeAt Go.RowKit Go.Joins
set_option linter.unusedVariables false
set_option linter.unusedSimpArgs false

theorem Blk.put6o {w : World} {g : Nat} {t : TypeId} {a b c d e f : Value} (h : Blk w g t #[a, b, c, d, e, f]) (a' b' c' d' e' f' : Value) : Blk ((((((w.setCell ⟨g, 0, none⟩ a').setCell ⟨g, 1, none⟩ b').setCell ⟨g, 2, none⟩ c').setCell ⟨g, 3, none⟩ d').setCell ⟨g, 4, none⟩ e').setCell ⟨g, 5, none⟩ f') g t #[a', b', c', d', e', f'] :=
  (((((h.set_ 0 a').set_ 1 b').set_ 2 c').set_ 3 d').set_ 4 e').set_ 5 f'
theorem grown_new {a b c : World} {row : Option Nat} {P : Nat} (h : a.grownBy b row) (hg : b.grownBy c (some P)) (hP : a.heap.size ≤ P) : a.grownBy c row :=
  ⟨hg.os.trans h.os, hg.tape.trans h.tape, hg.output.trans h.output, Nat.le_trans h.size hg.size, fun k hk hne =>
    (hg.block k (Nat.lt_of_lt_of_le hk h.size) (fun e => by cases e; omega)).trans (h.block k hk hne)⟩
theorem grown_sets1 (w : World) (P i : Nat) (v : Value) : w.grownBy (w.setCell ⟨P, i, none⟩ v) (some P) := grown_set (grown_refl w (some P)) i v
theorem grown_sets2 (w : World) (P i : Nat) (v : Value) (i2 : Nat) (v2 : Value) : w.grownBy ((w.setCell ⟨P, i, none⟩ v).setCell ⟨P, i2, none⟩ v2) (some P) := grown_set (grown_sets1 w P i v) i2 v2
theorem grown_put6 {w v : World} {row : Option Nat} {N : Nat} (h : w.grownBy v row) (hN : w.heap.size ≤ N) (a b c d e f : Value) : w.grownBy ((((((v.setCell ⟨N, 0, none⟩ a).setCell ⟨N, 1, none⟩ b).setCell ⟨N, 2, none⟩ c).setCell ⟨N, 3, none⟩ d).setCell ⟨N, 4, none⟩ e).setCell ⟨N, 5, none⟩ f) row :=
  grown_new h (grown_set (grown_set (grown_set (grown_set (grown_set (grown_set (grown_refl v (some N)) 0 a) 1 b) 2 c) 3 d) 4 e) 5 f) hN
theorem gx_of_tail1 {Q : ByteArray → Prop} {l : List ByteArray} (h : Q (gx l.tail 0)) : Q (gx l 1) := by rwa [gx_tail] at h
theorem gx_of_tail2 {Q : ByteArray → Prop} {l : List ByteArray} (h : Q (gx l.tail.tail 0)) : Q (gx l 2) := by rwa [gx_tail, gx_tail] at h
theorem gx_of_tail3 {Q : ByteArray → Prop} {l : List ByteArray} (h : Q (gx l.tail.tail.tail 0)) : Q (gx l 3) := by rwa [gx_tail, gx_tail, gx_tail] at h
theorem gx_of_tail4 {Q : ByteArray → Prop} {l : List ByteArray} (h : Q (gx l.tail.tail.tail.tail 0)) : Q (gx l 4) := by rwa [gx_tail, gx_tail, gx_tail, gx_tail] at h

set_option maxHeartbeats 8000000 in
set_option maxRecDepth 100000 in
theorem c_op_0 (w0 w : World) (R : Nat) (l : List ByteArray) (hb : Below w0.heap.size w0 w) (hR : w0.heap.size ≤ R) (hE : ErrAt w0) (hFm : Frm w0) (hl : ∀ x ∈ l, x.size ≤ 1048576) (h : RdAt w R l) :
    Calls Tryz.prog 30 #[.pointer (some ⟨R, 0, none⟩), .int .i64 0] w fun e w' => (∃ (nm : ByteArray) (f t z : Int) (d : ByteArray), e = .returned (.agg #[.int .i64 0, .string nm, .int .i64 f, .int .i64 t, .int .i64 z, .string d]) ∧ (-9223372036854775808 ≤ f ∧ f ≤ 9223372036854775807) ∧ (-9223372036854775808 ≤ t ∧ t ≤ 9223372036854775807) ∧ nm.size ≤ 1048576 ∧ d.size ≤ 4000 ∧ OpRd 0 l nm f t z d) ∧ w.grownBy w' (some R) := by
  have hlt := h.lt
  have hl2 : ∀ x ∈ l.tail, x.size ≤ 1048576 := fun x hx => hl x (List.mem_of_mem_tail hx)
  have hl3 : ∀ x ∈ l.tail.tail, x.size ≤ 1048576 := fun x hx => hl2 x (List.mem_of_mem_tail hx)
  have hl4 : ∀ x ∈ l.tail.tail.tail, x.size ≤ 1048576 := fun x hx => hl3 x (List.mem_of_mem_tail hx)
  have hl5 : ∀ x ∈ l.tail.tail.tail.tail, x.size ≤ 1048576 := fun x hx => hl4 x (List.mem_of_mem_tail hx)
  obtain ⟨ft, hF0⟩ := hFm.on hb
  have hFk : Blk w 0 ft _ := hF0
  have hF1 := hFk.alloc (.cells #[.int .i64 0, .string ⟨#[]⟩, .int .i64 0, .int .i64 0, .int .i64 0, .string ⟨#[]⟩] 24)
  have f0 : (w.alloc (.cells #[.int .i64 0, .string ⟨#[]⟩, .int .i64 0, .int .i64 0, .int .i64 0, .string ⟨#[]⟩] 24)).cell? ⟨0, 0, none⟩ = some (.string ⟨#[112, 117, 116]⟩) := hF1.cell 0
  have f1 : (w.alloc (.cells #[.int .i64 0, .string ⟨#[]⟩, .int .i64 0, .int .i64 0, .int .i64 0, .string ⟨#[]⟩] 24)).cell? ⟨0, 1, none⟩ = some (.bool false) := hF1.cell 1
  have f2 : (w.alloc (.cells #[.int .i64 0, .string ⟨#[]⟩, .int .i64 0, .int .i64 0, .int .i64 0, .string ⟨#[]⟩] 24)).cell? ⟨0, 2, none⟩ = some (.bool true) := hF1.cell 2
  have f3 : (w.alloc (.cells #[.int .i64 0, .string ⟨#[]⟩, .int .i64 0, .int .i64 0, .int .i64 0, .string ⟨#[]⟩] 24)).cell? ⟨0, 3, none⟩ = some (.bool true) := hF1.cell 3
  clear hF0 hFk hF1
  go_enter Tryz.func30, Tryz.ntmps30
  go_wp2_with fail
  obtain ⟨N, hN⟩ : ∃ N, N = w.heap.size := ⟨_, rfl⟩
  obtain ⟨M, hM⟩ : ∃ M, M = w.heap.size + 1 := ⟨_, rfl⟩
  obtain ⟨V0, hV0⟩ : ∃ V0, V0 = (w.alloc (.cells #[.int .i64 0, .string ⟨#[]⟩, .int .i64 0, .int .i64 0, .int .i64 0, .string ⟨#[]⟩] 24)).alloc (.cells #[.string ⟨#[112, 117, 116]⟩, .bool false, .bool true, .bool true] 40) := ⟨_, rfl⟩
  rw [← hV0, ← hM, ← hN]
  have kN0 : Blk V0 N 24 #[.int .i64 0, .string ⟨#[]⟩, .int .i64 0, .int .i64 0, .int .i64 0, .string ⟨#[]⟩] := by rw [hV0, hN]; exact (Blk.new w _ _).alloc _
  have kM0 : Blk V0 M 40 #[.string ⟨#[112, 117, 116]⟩, .bool false, .bool true, .bool true] := by rw [hV0, hM, ← World.size_alloc w (.cells #[.int .i64 0, .string ⟨#[]⟩, .int .i64 0, .int .i64 0, .int .i64 0, .string ⟨#[]⟩] 24)]; exact Blk.new (w.alloc (.cells #[.int .i64 0, .string ⟨#[]⟩, .int .i64 0, .int .i64 0, .int .i64 0, .string ⟨#[]⟩] 24)) _ _
  have hr0 : RdAt V0 R l := by rw [hV0]; exact (h.alloc _).alloc _
  have hB0 : Below w.heap.size w V0 := by rw [hV0]; exact bel_alloc (bel_alloc (Below.refl _ _) _) _
  have hRN : R < N := by omega
  have hRM : R < M := by omega
  have hNM : N < M := by omega
  have hNw : w.heap.size ≤ N := by omega
  have hg0 : w.grownBy V0 (some R) := grown_below _ hB0
  have hb0 : Below w0.heap.size w0 V0 := hb.trans (hB0.mono hb.size)
  clear hV0 hN hM f0 f1 f2 f3 hB0 h hlt hb hFm
  refine (c_text V0 R l hr0).mono ?_
  rintro e V1 ⟨rfl, hr1, hgx⟩
  have kN1 := kN0.grown hgx (by simp; omega)
  have kM1 := kM0.grown hgx (by simp; omega)
  have hg1 := grown_trans hg0 hgx
  have hb1 : Below w0.heap.size w0 V1 := hb0.trans (below_of_grown hgx hb0.size (fun g e => by cases e; exact hR))
  clear hr0 hgx kN0 kM0 hg0 hb0
  obtain ⟨nm, hnm⟩ : ∃ nm, nm = gx l 0 := ⟨_, rfl⟩
  rw [← hnm]
  have hnz : nm.size ≤ 1048576 := by rw [hnm]; exact gx_size hl 0
  have HNM := hid hnm
  clear hnm
  have m1 : (V1.alloc (.cells #[.int .i64 0, .string nm, .int .i64 0, .int .i64 0, .int .i64 0, .string ⟨#[]⟩] 24)).cell? ⟨M, 1, none⟩ = some (.bool false) := (kM1.alloc _).cell 1
  have m2 : (V1.alloc (.cells #[.int .i64 0, .string nm, .int .i64 0, .int .i64 0, .int .i64 0, .string ⟨#[]⟩] 24)).cell? ⟨M, 2, none⟩ = some (.bool true) := (kM1.alloc _).cell 2
  have m3 : (V1.alloc (.cells #[.int .i64 0, .string nm, .int .i64 0, .int .i64 0, .int .i64 0, .string ⟨#[]⟩] 24)).cell? ⟨M, 3, none⟩ = some (.bool true) := (kM1.alloc _).cell 3
  go_wp2_with fail
  obtain ⟨P, hP⟩ : ∃ P, P = V1.heap.size := ⟨_, rfl⟩
  obtain ⟨V2, hV2⟩ : ∃ V2, V2 = V1.alloc (.cells #[.int .i64 0, .string nm, .int .i64 0, .int .i64 0, .int .i64 0, .string ⟨#[]⟩] 24) := ⟨_, rfl⟩
  rw [← hV2, ← hP]
  have hMP : M < P := by rw [hP]; exact kM1.lt
  have kN2 : Blk V2 N 24 #[.int .i64 0, .string ⟨#[]⟩, .int .i64 0, .int .i64 0, .int .i64 0, .string ⟨#[]⟩] := by rw [hV2]; exact kN1.alloc _
  have kM2 : Blk V2 M 40 #[.string ⟨#[112, 117, 116]⟩, .bool false, .bool true, .bool true] := by rw [hV2]; exact kM1.alloc _
  have kP2 : Blk V2 P 24 #[.int .i64 0, .string nm, .int .i64 0, .int .i64 0, .int .i64 0, .string ⟨#[]⟩] := by rw [hV2, hP]; exact Blk.new V1 _ _
  have hr2 : RdAt V2 R l.tail := by rw [hV2]; exact hr1.alloc _
  have hg2 : w.grownBy V2 (some R) := by rw [hV2]; exact grown_trans hg1 (grown_below (some R) (bel_alloc (Below.refl _ _) _))
  have hb2 : Below w0.heap.size w0 V2 := by rw [hV2]; exact bel_alloc hb1 _
  have hRP : R < P := by omega
  have hNP : N < P := by omega
  clear hV2 hP m1 m2 m3 kN1 kM1 hr1 hg1 hb1
  refine (c_number w0 V2 R l.tail hb2 hR hE hl2 hr2).mono ?_
  rintro e V3 ⟨⟨z, rfl, hzb, hzn⟩, hr3, hgx⟩
  have kN3 := kN2.grown hgx (by simp; omega)
  have kM3 := kM2.grown hgx (by simp; omega)
  have kP3 := kP2.grown hgx (by simp; omega)
  have hg3 := grown_trans hg2 hgx
  have hb3 : Below w0.heap.size w0 V3 := hb2.trans (below_of_grown hgx hb2.size (fun g e => by cases e; exact hR))
  clear hr2 hgx kN2 kM2 hg2 hb2 kP2
  have Hz := hid (show NumOf (gx l 1) z from by exact gx_of_tail1 (Q := fun x => NumOf x z) hzn)
  clear hzn
  obtain ⟨p0, p1, p2, p3, p4, p5⟩ := kP3.cells6
  have gp4 := kP3.frozen 4
  have m1 : ((V3).setCell ⟨P, 4, none⟩ (.int .i64 z)).cell? ⟨M, 1, none⟩ = some (.bool false) := ((kM3).set_farI 4 _ (by omega)).cell 1
  have m2 : ((V3).setCell ⟨P, 4, none⟩ (.int .i64 z)).cell? ⟨M, 2, none⟩ = some (.bool true) := ((kM3).set_farI 4 _ (by omega)).cell 2
  have m3 : ((V3).setCell ⟨P, 4, none⟩ (.int .i64 z)).cell? ⟨M, 3, none⟩ = some (.bool true) := ((kM3).set_farI 4 _ (by omega)).cell 3
  go_wp2_with fail
  obtain ⟨V4, hV4⟩ : ∃ V4, V4 = (V3).setCell ⟨P, 4, none⟩ (.int .i64 z) := ⟨_, rfl⟩
  rw [← hV4]
  have kN4 : Blk V4 N 24 #[.int .i64 0, .string ⟨#[]⟩, .int .i64 0, .int .i64 0, .int .i64 0, .string ⟨#[]⟩] := by rw [hV4]; exact (kN3).set_farI 4 _ (by omega)
  have kM4 : Blk V4 M 40 #[.string ⟨#[112, 117, 116]⟩, .bool false, .bool true, .bool true] := by rw [hV4]; exact (kM3).set_farI 4 _ (by omega)
  have kP4 : Blk V4 P 24 #[.int .i64 0, .string nm, .int .i64 0, .int .i64 0, .int .i64 z, .string ⟨#[]⟩] := by rw [hV4]; exact (kP3).set_ 4 _
  have hr4 : RdAt V4 R l.tail.tail := by rw [hV4]; exact hr3.far (grown_sets1 V3 P 4 (.int .i64 z)) hRP
  have hg4 : w.grownBy V4 (some R) := by rw [hV4]; exact grown_new hg3 (grown_sets1 V3 P 4 (.int .i64 z)) (by omega)
  have hb4 : Below w0.heap.size w0 V4 := by rw [hV4]; exact hb3.trans (below_of_grown (grown_sets1 V3 P 4 (.int .i64 z)) hb3.size (fun g e => by cases e; omega))
  clear hV4 m1 m2 m3 p0 p1 p2 p3 p4 p5 kN3 kM3 kP3 hr3 hg3 hb3 gp4
  refine (c_rdata V4 R l.tail.tail hl3 hr4).mono ?_
  rintro e V5 ⟨⟨d, rfl, hd⟩, hr5, hgx⟩
  have kN5 := kN4.grown hgx (by simp; omega)
  have kM5 := kM4.grown hgx (by simp; omega)
  have kP5 := kP4.grown hgx (by simp; omega)
  have hg5 := grown_trans hg4 hgx
  have hb5 : Below w0.heap.size w0 V5 := hb4.trans (below_of_grown hgx hb4.size (fun g e => by cases e; exact hR))
  clear hr4 hgx kN4 kM4 hg4 hb4 kP4
  have hdz := hd.1
  have Hd := hid (show DatOf (gx l 2) d from gx_of_tail2 (Q := fun x => DatOf x d) hd)
  clear hd
  obtain ⟨p0, p1, p2, p3, p4, p5⟩ := kP5.cells6
  have gp5 := kP5.frozen 5
  have m1 : ((V5).setCell ⟨P, 5, none⟩ (.string d)).cell? ⟨M, 1, none⟩ = some (.bool false) := ((kM5).set_farI 5 _ (by omega)).cell 1
  have m2 : ((V5).setCell ⟨P, 5, none⟩ (.string d)).cell? ⟨M, 2, none⟩ = some (.bool true) := ((kM5).set_farI 5 _ (by omega)).cell 2
  have m3 : ((V5).setCell ⟨P, 5, none⟩ (.string d)).cell? ⟨M, 3, none⟩ = some (.bool true) := ((kM5).set_farI 5 _ (by omega)).cell 3
  have KPX : Blk ((V5).setCell ⟨P, 5, none⟩ (.string d)) (P) 24 #[.int .i64 0, .string nm, .int .i64 0, .int .i64 0, .int .i64 z, .string d] := (kP5).set_ 5 _
  have KNX : Blk ((V5).setCell ⟨P, 5, none⟩ (.string d)) N 24 #[.int .i64 0, .string ⟨#[]⟩, .int .i64 0, .int .i64 0, .int .i64 0, .string ⟨#[]⟩] := (kN5).set_farI 5 _ (by omega)
  obtain ⟨p0, p1, p2, p3, p4, p5⟩ := KPX.cells6
  obtain ⟨q0, q1, q2, q3, q4, q5⟩ := KNX.cells6
  have g0 := KNX.frozen 0
  have g1 := KNX.frozen 1
  have g2 := KNX.frozen 2
  have g3 := KNX.frozen 3
  have g4 := KNX.frozen 4
  have g5 := KNX.frozen 5
  obtain ⟨pp0, pp1, pp2, pp3, pp4, pp5⟩ := kP5.cells6
  have K9 := KNX.put6o (.int .i64 0) (.string nm) (.int .i64 0) (.int .i64 0) (.int .i64 z) (.string d)
  obtain ⟨j0, j1, j2, j3, j4, j5⟩ := K9.cells6
  have HGX := hid (show w.grownBy ((V5).setCell ⟨P, 5, none⟩ (.string d)) (some R) from grown_new hg5 (grown_sets1 V5 P 5 (.string d)) (by omega))
  clear K9
  go_wp2
  (try simp only [Exit.inBlock, Exit.then])
  exact bodyPost_ret (v := .agg #[.int .i64 0, .string nm, .int .i64 0, .int .i64 0, .int .i64 z, .string d]) (by simp [results, Tryz.results30, go_sem, j0, j1, j2, j3, j4, j5]) rfl ⟨⟨nm, _, _, _, _, rfl, (by omega), (by omega), hnz, hdz, ⟨HNM.out, ⟨rfl, rfl⟩, Hz.out, Hd.out⟩⟩, grown_put6 HGX.out hNw _ _ _ _ _ _⟩

set_option maxHeartbeats 8000000 in
set_option maxRecDepth 100000 in
theorem c_op_1 (w0 w : World) (R : Nat) (l : List ByteArray) (hb : Below w0.heap.size w0 w) (hR : w0.heap.size ≤ R) (hE : ErrAt w0) (hFm : Frm w0) (hl : ∀ x ∈ l, x.size ≤ 1048576) (h : RdAt w R l) :
    Calls Tryz.prog 30 #[.pointer (some ⟨R, 0, none⟩), .int .i64 1] w fun e w' => (∃ (nm : ByteArray) (f t z : Int) (d : ByteArray), e = .returned (.agg #[.int .i64 1, .string nm, .int .i64 f, .int .i64 t, .int .i64 z, .string d]) ∧ (-9223372036854775808 ≤ f ∧ f ≤ 9223372036854775807) ∧ (-9223372036854775808 ≤ t ∧ t ≤ 9223372036854775807) ∧ nm.size ≤ 1048576 ∧ d.size ≤ 4000 ∧ OpRd 1 l nm f t z d) ∧ w.grownBy w' (some R) := by
  have hlt := h.lt
  have hl2 : ∀ x ∈ l.tail, x.size ≤ 1048576 := fun x hx => hl x (List.mem_of_mem_tail hx)
  have hl3 : ∀ x ∈ l.tail.tail, x.size ≤ 1048576 := fun x hx => hl2 x (List.mem_of_mem_tail hx)
  have hl4 : ∀ x ∈ l.tail.tail.tail, x.size ≤ 1048576 := fun x hx => hl3 x (List.mem_of_mem_tail hx)
  have hl5 : ∀ x ∈ l.tail.tail.tail.tail, x.size ≤ 1048576 := fun x hx => hl4 x (List.mem_of_mem_tail hx)
  obtain ⟨ft, hF0⟩ := hFm.on hb
  have hFk : Blk w 0 ft _ := hF0
  have hF1 := hFk.alloc (.cells #[.int .i64 0, .string ⟨#[]⟩, .int .i64 0, .int .i64 0, .int .i64 0, .string ⟨#[]⟩] 24)
  have f0 : (w.alloc (.cells #[.int .i64 0, .string ⟨#[]⟩, .int .i64 0, .int .i64 0, .int .i64 0, .string ⟨#[]⟩] 24)).cell? ⟨0, 4, none⟩ = some (.string ⟨#[97, 112, 112, 101, 110, 100]⟩) := hF1.cell 4
  have f1 : (w.alloc (.cells #[.int .i64 0, .string ⟨#[]⟩, .int .i64 0, .int .i64 0, .int .i64 0, .string ⟨#[]⟩] 24)).cell? ⟨0, 5, none⟩ = some (.bool false) := hF1.cell 5
  have f2 : (w.alloc (.cells #[.int .i64 0, .string ⟨#[]⟩, .int .i64 0, .int .i64 0, .int .i64 0, .string ⟨#[]⟩] 24)).cell? ⟨0, 6, none⟩ = some (.bool true) := hF1.cell 6
  have f3 : (w.alloc (.cells #[.int .i64 0, .string ⟨#[]⟩, .int .i64 0, .int .i64 0, .int .i64 0, .string ⟨#[]⟩] 24)).cell? ⟨0, 7, none⟩ = some (.bool true) := hF1.cell 7
  clear hF0 hFk hF1
  go_enter Tryz.func30, Tryz.ntmps30
  go_wp2_with fail
  obtain ⟨N, hN⟩ : ∃ N, N = w.heap.size := ⟨_, rfl⟩
  obtain ⟨M, hM⟩ : ∃ M, M = w.heap.size + 1 := ⟨_, rfl⟩
  obtain ⟨V0, hV0⟩ : ∃ V0, V0 = (w.alloc (.cells #[.int .i64 0, .string ⟨#[]⟩, .int .i64 0, .int .i64 0, .int .i64 0, .string ⟨#[]⟩] 24)).alloc (.cells #[.string ⟨#[97, 112, 112, 101, 110, 100]⟩, .bool false, .bool true, .bool true] 40) := ⟨_, rfl⟩
  rw [← hV0, ← hM, ← hN]
  have kN0 : Blk V0 N 24 #[.int .i64 0, .string ⟨#[]⟩, .int .i64 0, .int .i64 0, .int .i64 0, .string ⟨#[]⟩] := by rw [hV0, hN]; exact (Blk.new w _ _).alloc _
  have kM0 : Blk V0 M 40 #[.string ⟨#[97, 112, 112, 101, 110, 100]⟩, .bool false, .bool true, .bool true] := by rw [hV0, hM, ← World.size_alloc w (.cells #[.int .i64 0, .string ⟨#[]⟩, .int .i64 0, .int .i64 0, .int .i64 0, .string ⟨#[]⟩] 24)]; exact Blk.new (w.alloc (.cells #[.int .i64 0, .string ⟨#[]⟩, .int .i64 0, .int .i64 0, .int .i64 0, .string ⟨#[]⟩] 24)) _ _
  have hr0 : RdAt V0 R l := by rw [hV0]; exact (h.alloc _).alloc _
  have hB0 : Below w.heap.size w V0 := by rw [hV0]; exact bel_alloc (bel_alloc (Below.refl _ _) _) _
  have hRN : R < N := by omega
  have hRM : R < M := by omega
  have hNM : N < M := by omega
  have hNw : w.heap.size ≤ N := by omega
  have hg0 : w.grownBy V0 (some R) := grown_below _ hB0
  have hb0 : Below w0.heap.size w0 V0 := hb.trans (hB0.mono hb.size)
  clear hV0 hN hM f0 f1 f2 f3 hB0 h hlt hb hFm
  refine (c_text V0 R l hr0).mono ?_
  rintro e V1 ⟨rfl, hr1, hgx⟩
  have kN1 := kN0.grown hgx (by simp; omega)
  have kM1 := kM0.grown hgx (by simp; omega)
  have hg1 := grown_trans hg0 hgx
  have hb1 : Below w0.heap.size w0 V1 := hb0.trans (below_of_grown hgx hb0.size (fun g e => by cases e; exact hR))
  clear hr0 hgx kN0 kM0 hg0 hb0
  obtain ⟨nm, hnm⟩ : ∃ nm, nm = gx l 0 := ⟨_, rfl⟩
  rw [← hnm]
  have hnz : nm.size ≤ 1048576 := by rw [hnm]; exact gx_size hl 0
  have HNM := hid hnm
  clear hnm
  have m1 : (V1.alloc (.cells #[.int .i64 1, .string nm, .int .i64 0, .int .i64 0, .int .i64 0, .string ⟨#[]⟩] 24)).cell? ⟨M, 1, none⟩ = some (.bool false) := (kM1.alloc _).cell 1
  have m2 : (V1.alloc (.cells #[.int .i64 1, .string nm, .int .i64 0, .int .i64 0, .int .i64 0, .string ⟨#[]⟩] 24)).cell? ⟨M, 2, none⟩ = some (.bool true) := (kM1.alloc _).cell 2
  have m3 : (V1.alloc (.cells #[.int .i64 1, .string nm, .int .i64 0, .int .i64 0, .int .i64 0, .string ⟨#[]⟩] 24)).cell? ⟨M, 3, none⟩ = some (.bool true) := (kM1.alloc _).cell 3
  go_wp2_with fail
  obtain ⟨P, hP⟩ : ∃ P, P = V1.heap.size := ⟨_, rfl⟩
  obtain ⟨V2, hV2⟩ : ∃ V2, V2 = V1.alloc (.cells #[.int .i64 1, .string nm, .int .i64 0, .int .i64 0, .int .i64 0, .string ⟨#[]⟩] 24) := ⟨_, rfl⟩
  rw [← hV2, ← hP]
  have hMP : M < P := by rw [hP]; exact kM1.lt
  have kN2 : Blk V2 N 24 #[.int .i64 0, .string ⟨#[]⟩, .int .i64 0, .int .i64 0, .int .i64 0, .string ⟨#[]⟩] := by rw [hV2]; exact kN1.alloc _
  have kM2 : Blk V2 M 40 #[.string ⟨#[97, 112, 112, 101, 110, 100]⟩, .bool false, .bool true, .bool true] := by rw [hV2]; exact kM1.alloc _
  have kP2 : Blk V2 P 24 #[.int .i64 1, .string nm, .int .i64 0, .int .i64 0, .int .i64 0, .string ⟨#[]⟩] := by rw [hV2, hP]; exact Blk.new V1 _ _
  have hr2 : RdAt V2 R l.tail := by rw [hV2]; exact hr1.alloc _
  have hg2 : w.grownBy V2 (some R) := by rw [hV2]; exact grown_trans hg1 (grown_below (some R) (bel_alloc (Below.refl _ _) _))
  have hb2 : Below w0.heap.size w0 V2 := by rw [hV2]; exact bel_alloc hb1 _
  have hRP : R < P := by omega
  have hNP : N < P := by omega
  clear hV2 hP m1 m2 m3 kN1 kM1 hr1 hg1 hb1
  refine (c_number w0 V2 R l.tail hb2 hR hE hl2 hr2).mono ?_
  rintro e V3 ⟨⟨z, rfl, hzb, hzn⟩, hr3, hgx⟩
  have kN3 := kN2.grown hgx (by simp; omega)
  have kM3 := kM2.grown hgx (by simp; omega)
  have kP3 := kP2.grown hgx (by simp; omega)
  have hg3 := grown_trans hg2 hgx
  have hb3 : Below w0.heap.size w0 V3 := hb2.trans (below_of_grown hgx hb2.size (fun g e => by cases e; exact hR))
  clear hr2 hgx kN2 kM2 hg2 hb2 kP2
  have Hz := hid (show NumOf (gx l 1) z from by exact gx_of_tail1 (Q := fun x => NumOf x z) hzn)
  clear hzn
  obtain ⟨p0, p1, p2, p3, p4, p5⟩ := kP3.cells6
  have gp4 := kP3.frozen 4
  have m1 : ((V3).setCell ⟨P, 4, none⟩ (.int .i64 z)).cell? ⟨M, 1, none⟩ = some (.bool false) := ((kM3).set_farI 4 _ (by omega)).cell 1
  have m2 : ((V3).setCell ⟨P, 4, none⟩ (.int .i64 z)).cell? ⟨M, 2, none⟩ = some (.bool true) := ((kM3).set_farI 4 _ (by omega)).cell 2
  have m3 : ((V3).setCell ⟨P, 4, none⟩ (.int .i64 z)).cell? ⟨M, 3, none⟩ = some (.bool true) := ((kM3).set_farI 4 _ (by omega)).cell 3
  go_wp2_with fail
  obtain ⟨V4, hV4⟩ : ∃ V4, V4 = (V3).setCell ⟨P, 4, none⟩ (.int .i64 z) := ⟨_, rfl⟩
  rw [← hV4]
  have kN4 : Blk V4 N 24 #[.int .i64 0, .string ⟨#[]⟩, .int .i64 0, .int .i64 0, .int .i64 0, .string ⟨#[]⟩] := by rw [hV4]; exact (kN3).set_farI 4 _ (by omega)
  have kM4 : Blk V4 M 40 #[.string ⟨#[97, 112, 112, 101, 110, 100]⟩, .bool false, .bool true, .bool true] := by rw [hV4]; exact (kM3).set_farI 4 _ (by omega)
  have kP4 : Blk V4 P 24 #[.int .i64 1, .string nm, .int .i64 0, .int .i64 0, .int .i64 z, .string ⟨#[]⟩] := by rw [hV4]; exact (kP3).set_ 4 _
  have hr4 : RdAt V4 R l.tail.tail := by rw [hV4]; exact hr3.far (grown_sets1 V3 P 4 (.int .i64 z)) hRP
  have hg4 : w.grownBy V4 (some R) := by rw [hV4]; exact grown_new hg3 (grown_sets1 V3 P 4 (.int .i64 z)) (by omega)
  have hb4 : Below w0.heap.size w0 V4 := by rw [hV4]; exact hb3.trans (below_of_grown (grown_sets1 V3 P 4 (.int .i64 z)) hb3.size (fun g e => by cases e; omega))
  clear hV4 m1 m2 m3 p0 p1 p2 p3 p4 p5 kN3 kM3 kP3 hr3 hg3 hb3 gp4
  refine (c_rdata V4 R l.tail.tail hl3 hr4).mono ?_
  rintro e V5 ⟨⟨d, rfl, hd⟩, hr5, hgx⟩
  have kN5 := kN4.grown hgx (by simp; omega)
  have kM5 := kM4.grown hgx (by simp; omega)
  have kP5 := kP4.grown hgx (by simp; omega)
  have hg5 := grown_trans hg4 hgx
  have hb5 : Below w0.heap.size w0 V5 := hb4.trans (below_of_grown hgx hb4.size (fun g e => by cases e; exact hR))
  clear hr4 hgx kN4 kM4 hg4 hb4 kP4
  have hdz := hd.1
  have Hd := hid (show DatOf (gx l 2) d from gx_of_tail2 (Q := fun x => DatOf x d) hd)
  clear hd
  obtain ⟨p0, p1, p2, p3, p4, p5⟩ := kP5.cells6
  have gp5 := kP5.frozen 5
  have m1 : ((V5).setCell ⟨P, 5, none⟩ (.string d)).cell? ⟨M, 1, none⟩ = some (.bool false) := ((kM5).set_farI 5 _ (by omega)).cell 1
  have m2 : ((V5).setCell ⟨P, 5, none⟩ (.string d)).cell? ⟨M, 2, none⟩ = some (.bool true) := ((kM5).set_farI 5 _ (by omega)).cell 2
  have m3 : ((V5).setCell ⟨P, 5, none⟩ (.string d)).cell? ⟨M, 3, none⟩ = some (.bool true) := ((kM5).set_farI 5 _ (by omega)).cell 3
  have KPX : Blk ((V5).setCell ⟨P, 5, none⟩ (.string d)) (P) 24 #[.int .i64 1, .string nm, .int .i64 0, .int .i64 0, .int .i64 z, .string d] := (kP5).set_ 5 _
  have KNX : Blk ((V5).setCell ⟨P, 5, none⟩ (.string d)) N 24 #[.int .i64 0, .string ⟨#[]⟩, .int .i64 0, .int .i64 0, .int .i64 0, .string ⟨#[]⟩] := (kN5).set_farI 5 _ (by omega)
  obtain ⟨p0, p1, p2, p3, p4, p5⟩ := KPX.cells6
  obtain ⟨q0, q1, q2, q3, q4, q5⟩ := KNX.cells6
  have g0 := KNX.frozen 0
  have g1 := KNX.frozen 1
  have g2 := KNX.frozen 2
  have g3 := KNX.frozen 3
  have g4 := KNX.frozen 4
  have g5 := KNX.frozen 5
  obtain ⟨pp0, pp1, pp2, pp3, pp4, pp5⟩ := kP5.cells6
  have K9 := KNX.put6o (.int .i64 1) (.string nm) (.int .i64 0) (.int .i64 0) (.int .i64 z) (.string d)
  obtain ⟨j0, j1, j2, j3, j4, j5⟩ := K9.cells6
  have HGX := hid (show w.grownBy ((V5).setCell ⟨P, 5, none⟩ (.string d)) (some R) from grown_new hg5 (grown_sets1 V5 P 5 (.string d)) (by omega))
  clear K9
  go_wp2
  (try simp only [Exit.inBlock, Exit.then])
  exact bodyPost_ret (v := .agg #[.int .i64 1, .string nm, .int .i64 0, .int .i64 0, .int .i64 z, .string d]) (by simp [results, Tryz.results30, go_sem, j0, j1, j2, j3, j4, j5]) rfl ⟨⟨nm, _, _, _, _, rfl, (by omega), (by omega), hnz, hdz, ⟨HNM.out, ⟨rfl, rfl⟩, Hz.out, Hd.out⟩⟩, grown_put6 HGX.out hNw _ _ _ _ _ _⟩

set_option maxHeartbeats 8000000 in
set_option maxRecDepth 100000 in
theorem c_op_2 (w0 w : World) (R : Nat) (l : List ByteArray) (hb : Below w0.heap.size w0 w) (hR : w0.heap.size ≤ R) (hE : ErrAt w0) (hFm : Frm w0) (hl : ∀ x ∈ l, x.size ≤ 1048576) (h : RdAt w R l) :
    Calls Tryz.prog 30 #[.pointer (some ⟨R, 0, none⟩), .int .i64 2] w fun e w' => (∃ (nm : ByteArray) (f t z : Int) (d : ByteArray), e = .returned (.agg #[.int .i64 2, .string nm, .int .i64 f, .int .i64 t, .int .i64 z, .string d]) ∧ (-9223372036854775808 ≤ f ∧ f ≤ 9223372036854775807) ∧ (-9223372036854775808 ≤ t ∧ t ≤ 9223372036854775807) ∧ nm.size ≤ 1048576 ∧ d.size ≤ 4000 ∧ OpRd 2 l nm f t z d) ∧ w.grownBy w' (some R) := by
  have hlt := h.lt
  have hl2 : ∀ x ∈ l.tail, x.size ≤ 1048576 := fun x hx => hl x (List.mem_of_mem_tail hx)
  have hl3 : ∀ x ∈ l.tail.tail, x.size ≤ 1048576 := fun x hx => hl2 x (List.mem_of_mem_tail hx)
  have hl4 : ∀ x ∈ l.tail.tail.tail, x.size ≤ 1048576 := fun x hx => hl3 x (List.mem_of_mem_tail hx)
  have hl5 : ∀ x ∈ l.tail.tail.tail.tail, x.size ≤ 1048576 := fun x hx => hl4 x (List.mem_of_mem_tail hx)
  obtain ⟨ft, hF0⟩ := hFm.on hb
  have hFk : Blk w 0 ft _ := hF0
  have hF1 := hFk.alloc (.cells #[.int .i64 0, .string ⟨#[]⟩, .int .i64 0, .int .i64 0, .int .i64 0, .string ⟨#[]⟩] 24)
  have f0 : (w.alloc (.cells #[.int .i64 0, .string ⟨#[]⟩, .int .i64 0, .int .i64 0, .int .i64 0, .string ⟨#[]⟩] 24)).cell? ⟨0, 8, none⟩ = some (.string ⟨#[114, 101, 112, 108, 97, 99, 101]⟩) := hF1.cell 8
  have f1 : (w.alloc (.cells #[.int .i64 0, .string ⟨#[]⟩, .int .i64 0, .int .i64 0, .int .i64 0, .string ⟨#[]⟩] 24)).cell? ⟨0, 9, none⟩ = some (.bool true) := hF1.cell 9
  have f2 : (w.alloc (.cells #[.int .i64 0, .string ⟨#[]⟩, .int .i64 0, .int .i64 0, .int .i64 0, .string ⟨#[]⟩] 24)).cell? ⟨0, 10, none⟩ = some (.bool true) := hF1.cell 10
  have f3 : (w.alloc (.cells #[.int .i64 0, .string ⟨#[]⟩, .int .i64 0, .int .i64 0, .int .i64 0, .string ⟨#[]⟩] 24)).cell? ⟨0, 11, none⟩ = some (.bool true) := hF1.cell 11
  clear hF0 hFk hF1
  go_enter Tryz.func30, Tryz.ntmps30
  go_wp2_with fail
  obtain ⟨N, hN⟩ : ∃ N, N = w.heap.size := ⟨_, rfl⟩
  obtain ⟨M, hM⟩ : ∃ M, M = w.heap.size + 1 := ⟨_, rfl⟩
  obtain ⟨V0, hV0⟩ : ∃ V0, V0 = (w.alloc (.cells #[.int .i64 0, .string ⟨#[]⟩, .int .i64 0, .int .i64 0, .int .i64 0, .string ⟨#[]⟩] 24)).alloc (.cells #[.string ⟨#[114, 101, 112, 108, 97, 99, 101]⟩, .bool true, .bool true, .bool true] 40) := ⟨_, rfl⟩
  rw [← hV0, ← hM, ← hN]
  have kN0 : Blk V0 N 24 #[.int .i64 0, .string ⟨#[]⟩, .int .i64 0, .int .i64 0, .int .i64 0, .string ⟨#[]⟩] := by rw [hV0, hN]; exact (Blk.new w _ _).alloc _
  have kM0 : Blk V0 M 40 #[.string ⟨#[114, 101, 112, 108, 97, 99, 101]⟩, .bool true, .bool true, .bool true] := by rw [hV0, hM, ← World.size_alloc w (.cells #[.int .i64 0, .string ⟨#[]⟩, .int .i64 0, .int .i64 0, .int .i64 0, .string ⟨#[]⟩] 24)]; exact Blk.new (w.alloc (.cells #[.int .i64 0, .string ⟨#[]⟩, .int .i64 0, .int .i64 0, .int .i64 0, .string ⟨#[]⟩] 24)) _ _
  have hr0 : RdAt V0 R l := by rw [hV0]; exact (h.alloc _).alloc _
  have hB0 : Below w.heap.size w V0 := by rw [hV0]; exact bel_alloc (bel_alloc (Below.refl _ _) _) _
  have hRN : R < N := by omega
  have hRM : R < M := by omega
  have hNM : N < M := by omega
  have hNw : w.heap.size ≤ N := by omega
  have hg0 : w.grownBy V0 (some R) := grown_below _ hB0
  have hb0 : Below w0.heap.size w0 V0 := hb.trans (hB0.mono hb.size)
  clear hV0 hN hM f0 f1 f2 f3 hB0 h hlt hb hFm
  refine (c_text V0 R l hr0).mono ?_
  rintro e V1 ⟨rfl, hr1, hgx⟩
  have kN1 := kN0.grown hgx (by simp; omega)
  have kM1 := kM0.grown hgx (by simp; omega)
  have hg1 := grown_trans hg0 hgx
  have hb1 : Below w0.heap.size w0 V1 := hb0.trans (below_of_grown hgx hb0.size (fun g e => by cases e; exact hR))
  clear hr0 hgx kN0 kM0 hg0 hb0
  obtain ⟨nm, hnm⟩ : ∃ nm, nm = gx l 0 := ⟨_, rfl⟩
  rw [← hnm]
  have hnz : nm.size ≤ 1048576 := by rw [hnm]; exact gx_size hl 0
  have HNM := hid hnm
  clear hnm
  have m1 : (V1.alloc (.cells #[.int .i64 2, .string nm, .int .i64 0, .int .i64 0, .int .i64 0, .string ⟨#[]⟩] 24)).cell? ⟨M, 1, none⟩ = some (.bool true) := (kM1.alloc _).cell 1
  have m2 : (V1.alloc (.cells #[.int .i64 2, .string nm, .int .i64 0, .int .i64 0, .int .i64 0, .string ⟨#[]⟩] 24)).cell? ⟨M, 2, none⟩ = some (.bool true) := (kM1.alloc _).cell 2
  have m3 : (V1.alloc (.cells #[.int .i64 2, .string nm, .int .i64 0, .int .i64 0, .int .i64 0, .string ⟨#[]⟩] 24)).cell? ⟨M, 3, none⟩ = some (.bool true) := (kM1.alloc _).cell 3
  go_wp2_with fail
  obtain ⟨P, hP⟩ : ∃ P, P = V1.heap.size := ⟨_, rfl⟩
  obtain ⟨V2, hV2⟩ : ∃ V2, V2 = V1.alloc (.cells #[.int .i64 2, .string nm, .int .i64 0, .int .i64 0, .int .i64 0, .string ⟨#[]⟩] 24) := ⟨_, rfl⟩
  rw [← hV2, ← hP]
  have hMP : M < P := by rw [hP]; exact kM1.lt
  have kN2 : Blk V2 N 24 #[.int .i64 0, .string ⟨#[]⟩, .int .i64 0, .int .i64 0, .int .i64 0, .string ⟨#[]⟩] := by rw [hV2]; exact kN1.alloc _
  have kM2 : Blk V2 M 40 #[.string ⟨#[114, 101, 112, 108, 97, 99, 101]⟩, .bool true, .bool true, .bool true] := by rw [hV2]; exact kM1.alloc _
  have kP2 : Blk V2 P 24 #[.int .i64 2, .string nm, .int .i64 0, .int .i64 0, .int .i64 0, .string ⟨#[]⟩] := by rw [hV2, hP]; exact Blk.new V1 _ _
  have hr2 : RdAt V2 R l.tail := by rw [hV2]; exact hr1.alloc _
  have hg2 : w.grownBy V2 (some R) := by rw [hV2]; exact grown_trans hg1 (grown_below (some R) (bel_alloc (Below.refl _ _) _))
  have hb2 : Below w0.heap.size w0 V2 := by rw [hV2]; exact bel_alloc hb1 _
  have hRP : R < P := by omega
  have hNP : N < P := by omega
  clear hV2 hP m1 m2 m3 kN1 kM1 hr1 hg1 hb1
  refine (c_number w0 V2 R l.tail hb2 hR hE hl2 hr2).mono ?_
  rintro e V3 ⟨⟨f, rfl, hfb, hfn⟩, hr3, hgx⟩
  have kN3 := kN2.grown hgx (by simp; omega)
  have kM3 := kM2.grown hgx (by simp; omega)
  have kP3 := kP2.grown hgx (by simp; omega)
  have hg3 := grown_trans hg2 hgx
  have hb3 : Below w0.heap.size w0 V3 := hb2.trans (below_of_grown hgx hb2.size (fun g e => by cases e; exact hR))
  clear hr2 hgx kN2 kM2 hg2 hb2 kP2
  have Hf := hid (show NumOf (gx l 1) f from by exact gx_of_tail1 (Q := fun x => NumOf x f) hfn)
  clear hfn
  go_wp2_with fail
  refine (c_number w0 V3 R l.tail.tail hb3 hR hE hl3 hr3).mono ?_
  rintro e V4 ⟨⟨t, rfl, htb, htn⟩, hr4, hgx⟩
  have kN4 := kN3.grown hgx (by simp; omega)
  have kM4 := kM3.grown hgx (by simp; omega)
  have kP4 := kP3.grown hgx (by simp; omega)
  have hg4 := grown_trans hg3 hgx
  have hb4 : Below w0.heap.size w0 V4 := hb3.trans (below_of_grown hgx hb3.size (fun g e => by cases e; exact hR))
  clear hr3 hgx kN3 kM3 hg3 hb3 kP3
  have Ht := hid (show NumOf (gx l 2) t from by exact gx_of_tail2 (Q := fun x => NumOf x t) htn)
  clear htn
  obtain ⟨p0, p1, p2, p3, p4, p5⟩ := kP4.cells6
  have gp2 := kP4.frozen 2
  have gp3 := kP4.frozen 3
  have m1 : (((V4).setCell ⟨P, 2, none⟩ (.int .i64 f)).setCell ⟨P, 3, none⟩ (.int .i64 t)).cell? ⟨M, 1, none⟩ = some (.bool true) := (((kM4).set_farI 2 _ (by omega)).set_farI 3 _ (by omega)).cell 1
  have m2 : (((V4).setCell ⟨P, 2, none⟩ (.int .i64 f)).setCell ⟨P, 3, none⟩ (.int .i64 t)).cell? ⟨M, 2, none⟩ = some (.bool true) := (((kM4).set_farI 2 _ (by omega)).set_farI 3 _ (by omega)).cell 2
  have m3 : (((V4).setCell ⟨P, 2, none⟩ (.int .i64 f)).setCell ⟨P, 3, none⟩ (.int .i64 t)).cell? ⟨M, 3, none⟩ = some (.bool true) := (((kM4).set_farI 2 _ (by omega)).set_farI 3 _ (by omega)).cell 3
  go_wp2_with fail
  obtain ⟨V5, hV5⟩ : ∃ V5, V5 = ((V4).setCell ⟨P, 2, none⟩ (.int .i64 f)).setCell ⟨P, 3, none⟩ (.int .i64 t) := ⟨_, rfl⟩
  rw [← hV5]
  have kN5 : Blk V5 N 24 #[.int .i64 0, .string ⟨#[]⟩, .int .i64 0, .int .i64 0, .int .i64 0, .string ⟨#[]⟩] := by rw [hV5]; exact ((kN4).set_farI 2 _ (by omega)).set_farI 3 _ (by omega)
  have kM5 : Blk V5 M 40 #[.string ⟨#[114, 101, 112, 108, 97, 99, 101]⟩, .bool true, .bool true, .bool true] := by rw [hV5]; exact ((kM4).set_farI 2 _ (by omega)).set_farI 3 _ (by omega)
  have kP5 : Blk V5 P 24 #[.int .i64 2, .string nm, .int .i64 f, .int .i64 t, .int .i64 0, .string ⟨#[]⟩] := by rw [hV5]; exact ((kP4).set_ 2 _).set_ 3 _
  have hr5 : RdAt V5 R l.tail.tail.tail := by rw [hV5]; exact hr4.far (grown_sets2 V4 P 2 (.int .i64 f) 3 (.int .i64 t)) hRP
  have hg5 : w.grownBy V5 (some R) := by rw [hV5]; exact grown_new hg4 (grown_sets2 V4 P 2 (.int .i64 f) 3 (.int .i64 t)) (by omega)
  have hb5 : Below w0.heap.size w0 V5 := by rw [hV5]; exact hb4.trans (below_of_grown (grown_sets2 V4 P 2 (.int .i64 f) 3 (.int .i64 t)) hb4.size (fun g e => by cases e; omega))
  clear hV5 m1 m2 m3 p0 p1 p2 p3 p4 p5 kN4 kM4 kP4 hr4 hg4 hb4 gp2 gp3
  refine (c_number w0 V5 R l.tail.tail.tail hb5 hR hE hl4 hr5).mono ?_
  rintro e V6 ⟨⟨z, rfl, hzb, hzn⟩, hr6, hgx⟩
  have kN6 := kN5.grown hgx (by simp; omega)
  have kM6 := kM5.grown hgx (by simp; omega)
  have kP6 := kP5.grown hgx (by simp; omega)
  have hg6 := grown_trans hg5 hgx
  have hb6 : Below w0.heap.size w0 V6 := hb5.trans (below_of_grown hgx hb5.size (fun g e => by cases e; exact hR))
  clear hr5 hgx kN5 kM5 hg5 hb5 kP5
  have Hz := hid (show NumOf (gx l 3) z from by exact gx_of_tail3 (Q := fun x => NumOf x z) hzn)
  clear hzn
  obtain ⟨p0, p1, p2, p3, p4, p5⟩ := kP6.cells6
  have gp4 := kP6.frozen 4
  have m1 : ((V6).setCell ⟨P, 4, none⟩ (.int .i64 z)).cell? ⟨M, 1, none⟩ = some (.bool true) := ((kM6).set_farI 4 _ (by omega)).cell 1
  have m2 : ((V6).setCell ⟨P, 4, none⟩ (.int .i64 z)).cell? ⟨M, 2, none⟩ = some (.bool true) := ((kM6).set_farI 4 _ (by omega)).cell 2
  have m3 : ((V6).setCell ⟨P, 4, none⟩ (.int .i64 z)).cell? ⟨M, 3, none⟩ = some (.bool true) := ((kM6).set_farI 4 _ (by omega)).cell 3
  go_wp2_with fail
  obtain ⟨V7, hV7⟩ : ∃ V7, V7 = (V6).setCell ⟨P, 4, none⟩ (.int .i64 z) := ⟨_, rfl⟩
  rw [← hV7]
  have kN7 : Blk V7 N 24 #[.int .i64 0, .string ⟨#[]⟩, .int .i64 0, .int .i64 0, .int .i64 0, .string ⟨#[]⟩] := by rw [hV7]; exact (kN6).set_farI 4 _ (by omega)
  have kM7 : Blk V7 M 40 #[.string ⟨#[114, 101, 112, 108, 97, 99, 101]⟩, .bool true, .bool true, .bool true] := by rw [hV7]; exact (kM6).set_farI 4 _ (by omega)
  have kP7 : Blk V7 P 24 #[.int .i64 2, .string nm, .int .i64 f, .int .i64 t, .int .i64 z, .string ⟨#[]⟩] := by rw [hV7]; exact (kP6).set_ 4 _
  have hr7 : RdAt V7 R l.tail.tail.tail.tail := by rw [hV7]; exact hr6.far (grown_sets1 V6 P 4 (.int .i64 z)) hRP
  have hg7 : w.grownBy V7 (some R) := by rw [hV7]; exact grown_new hg6 (grown_sets1 V6 P 4 (.int .i64 z)) (by omega)
  have hb7 : Below w0.heap.size w0 V7 := by rw [hV7]; exact hb6.trans (below_of_grown (grown_sets1 V6 P 4 (.int .i64 z)) hb6.size (fun g e => by cases e; omega))
  clear hV7 m1 m2 m3 p0 p1 p2 p3 p4 p5 kN6 kM6 kP6 hr6 hg6 hb6 gp4
  refine (c_rdata V7 R l.tail.tail.tail.tail hl5 hr7).mono ?_
  rintro e V8 ⟨⟨d, rfl, hd⟩, hr8, hgx⟩
  have kN8 := kN7.grown hgx (by simp; omega)
  have kM8 := kM7.grown hgx (by simp; omega)
  have kP8 := kP7.grown hgx (by simp; omega)
  have hg8 := grown_trans hg7 hgx
  have hb8 : Below w0.heap.size w0 V8 := hb7.trans (below_of_grown hgx hb7.size (fun g e => by cases e; exact hR))
  clear hr7 hgx kN7 kM7 hg7 hb7 kP7
  have hdz := hd.1
  have Hd := hid (show DatOf (gx l 4) d from gx_of_tail4 (Q := fun x => DatOf x d) hd)
  clear hd
  obtain ⟨p0, p1, p2, p3, p4, p5⟩ := kP8.cells6
  have gp5 := kP8.frozen 5
  have m1 : ((V8).setCell ⟨P, 5, none⟩ (.string d)).cell? ⟨M, 1, none⟩ = some (.bool true) := ((kM8).set_farI 5 _ (by omega)).cell 1
  have m2 : ((V8).setCell ⟨P, 5, none⟩ (.string d)).cell? ⟨M, 2, none⟩ = some (.bool true) := ((kM8).set_farI 5 _ (by omega)).cell 2
  have m3 : ((V8).setCell ⟨P, 5, none⟩ (.string d)).cell? ⟨M, 3, none⟩ = some (.bool true) := ((kM8).set_farI 5 _ (by omega)).cell 3
  have KPX : Blk ((V8).setCell ⟨P, 5, none⟩ (.string d)) (P) 24 #[.int .i64 2, .string nm, .int .i64 f, .int .i64 t, .int .i64 z, .string d] := (kP8).set_ 5 _
  have KNX : Blk ((V8).setCell ⟨P, 5, none⟩ (.string d)) N 24 #[.int .i64 0, .string ⟨#[]⟩, .int .i64 0, .int .i64 0, .int .i64 0, .string ⟨#[]⟩] := (kN8).set_farI 5 _ (by omega)
  obtain ⟨p0, p1, p2, p3, p4, p5⟩ := KPX.cells6
  obtain ⟨q0, q1, q2, q3, q4, q5⟩ := KNX.cells6
  have g0 := KNX.frozen 0
  have g1 := KNX.frozen 1
  have g2 := KNX.frozen 2
  have g3 := KNX.frozen 3
  have g4 := KNX.frozen 4
  have g5 := KNX.frozen 5
  obtain ⟨pp0, pp1, pp2, pp3, pp4, pp5⟩ := kP8.cells6
  have K9 := KNX.put6o (.int .i64 2) (.string nm) (.int .i64 f) (.int .i64 t) (.int .i64 z) (.string d)
  obtain ⟨j0, j1, j2, j3, j4, j5⟩ := K9.cells6
  have HGX := hid (show w.grownBy ((V8).setCell ⟨P, 5, none⟩ (.string d)) (some R) from grown_new hg8 (grown_sets1 V8 P 5 (.string d)) (by omega))
  clear K9
  go_wp2
  (try simp only [Exit.inBlock, Exit.then])
  exact bodyPost_ret (v := .agg #[.int .i64 2, .string nm, .int .i64 f, .int .i64 t, .int .i64 z, .string d]) (by simp [results, Tryz.results30, go_sem, j0, j1, j2, j3, j4, j5]) rfl ⟨⟨nm, _, _, _, _, rfl, hfb, htb, hnz, hdz, ⟨HNM.out, ⟨Hf.out, Ht.out⟩, Hz.out, Hd.out⟩⟩, grown_put6 HGX.out hNw _ _ _ _ _ _⟩

set_option maxHeartbeats 8000000 in
set_option maxRecDepth 100000 in
theorem c_op_3 (w0 w : World) (R : Nat) (l : List ByteArray) (hb : Below w0.heap.size w0 w) (hR : w0.heap.size ≤ R) (hE : ErrAt w0) (hFm : Frm w0) (hl : ∀ x ∈ l, x.size ≤ 1048576) (h : RdAt w R l) :
    Calls Tryz.prog 30 #[.pointer (some ⟨R, 0, none⟩), .int .i64 3] w fun e w' => (∃ (nm : ByteArray) (f t z : Int) (d : ByteArray), e = .returned (.agg #[.int .i64 3, .string nm, .int .i64 f, .int .i64 t, .int .i64 z, .string d]) ∧ (-9223372036854775808 ≤ f ∧ f ≤ 9223372036854775807) ∧ (-9223372036854775808 ≤ t ∧ t ≤ 9223372036854775807) ∧ nm.size ≤ 1048576 ∧ d.size ≤ 4000 ∧ OpRd 3 l nm f t z d) ∧ w.grownBy w' (some R) := by
  have hlt := h.lt
  have hl2 : ∀ x ∈ l.tail, x.size ≤ 1048576 := fun x hx => hl x (List.mem_of_mem_tail hx)
  have hl3 : ∀ x ∈ l.tail.tail, x.size ≤ 1048576 := fun x hx => hl2 x (List.mem_of_mem_tail hx)
  have hl4 : ∀ x ∈ l.tail.tail.tail, x.size ≤ 1048576 := fun x hx => hl3 x (List.mem_of_mem_tail hx)
  have hl5 : ∀ x ∈ l.tail.tail.tail.tail, x.size ≤ 1048576 := fun x hx => hl4 x (List.mem_of_mem_tail hx)
  obtain ⟨ft, hF0⟩ := hFm.on hb
  have hFk : Blk w 0 ft _ := hF0
  have hF1 := hFk.alloc (.cells #[.int .i64 0, .string ⟨#[]⟩, .int .i64 0, .int .i64 0, .int .i64 0, .string ⟨#[]⟩] 24)
  have f0 : (w.alloc (.cells #[.int .i64 0, .string ⟨#[]⟩, .int .i64 0, .int .i64 0, .int .i64 0, .string ⟨#[]⟩] 24)).cell? ⟨0, 12, none⟩ = some (.string ⟨#[109, 101, 114, 103, 101]⟩) := hF1.cell 12
  have f1 : (w.alloc (.cells #[.int .i64 0, .string ⟨#[]⟩, .int .i64 0, .int .i64 0, .int .i64 0, .string ⟨#[]⟩] 24)).cell? ⟨0, 13, none⟩ = some (.bool false) := hF1.cell 13
  have f2 : (w.alloc (.cells #[.int .i64 0, .string ⟨#[]⟩, .int .i64 0, .int .i64 0, .int .i64 0, .string ⟨#[]⟩] 24)).cell? ⟨0, 14, none⟩ = some (.bool true) := hF1.cell 14
  have f3 : (w.alloc (.cells #[.int .i64 0, .string ⟨#[]⟩, .int .i64 0, .int .i64 0, .int .i64 0, .string ⟨#[]⟩] 24)).cell? ⟨0, 15, none⟩ = some (.bool false) := hF1.cell 15
  clear hF0 hFk hF1
  go_enter Tryz.func30, Tryz.ntmps30
  go_wp2_with fail
  obtain ⟨N, hN⟩ : ∃ N, N = w.heap.size := ⟨_, rfl⟩
  obtain ⟨M, hM⟩ : ∃ M, M = w.heap.size + 1 := ⟨_, rfl⟩
  obtain ⟨V0, hV0⟩ : ∃ V0, V0 = (w.alloc (.cells #[.int .i64 0, .string ⟨#[]⟩, .int .i64 0, .int .i64 0, .int .i64 0, .string ⟨#[]⟩] 24)).alloc (.cells #[.string ⟨#[109, 101, 114, 103, 101]⟩, .bool false, .bool true, .bool false] 40) := ⟨_, rfl⟩
  rw [← hV0, ← hM, ← hN]
  have kN0 : Blk V0 N 24 #[.int .i64 0, .string ⟨#[]⟩, .int .i64 0, .int .i64 0, .int .i64 0, .string ⟨#[]⟩] := by rw [hV0, hN]; exact (Blk.new w _ _).alloc _
  have kM0 : Blk V0 M 40 #[.string ⟨#[109, 101, 114, 103, 101]⟩, .bool false, .bool true, .bool false] := by rw [hV0, hM, ← World.size_alloc w (.cells #[.int .i64 0, .string ⟨#[]⟩, .int .i64 0, .int .i64 0, .int .i64 0, .string ⟨#[]⟩] 24)]; exact Blk.new (w.alloc (.cells #[.int .i64 0, .string ⟨#[]⟩, .int .i64 0, .int .i64 0, .int .i64 0, .string ⟨#[]⟩] 24)) _ _
  have hr0 : RdAt V0 R l := by rw [hV0]; exact (h.alloc _).alloc _
  have hB0 : Below w.heap.size w V0 := by rw [hV0]; exact bel_alloc (bel_alloc (Below.refl _ _) _) _
  have hRN : R < N := by omega
  have hRM : R < M := by omega
  have hNM : N < M := by omega
  have hNw : w.heap.size ≤ N := by omega
  have hg0 : w.grownBy V0 (some R) := grown_below _ hB0
  have hb0 : Below w0.heap.size w0 V0 := hb.trans (hB0.mono hb.size)
  clear hV0 hN hM f0 f1 f2 f3 hB0 h hlt hb hFm
  refine (c_text V0 R l hr0).mono ?_
  rintro e V1 ⟨rfl, hr1, hgx⟩
  have kN1 := kN0.grown hgx (by simp; omega)
  have kM1 := kM0.grown hgx (by simp; omega)
  have hg1 := grown_trans hg0 hgx
  have hb1 : Below w0.heap.size w0 V1 := hb0.trans (below_of_grown hgx hb0.size (fun g e => by cases e; exact hR))
  clear hr0 hgx kN0 kM0 hg0 hb0
  obtain ⟨nm, hnm⟩ : ∃ nm, nm = gx l 0 := ⟨_, rfl⟩
  rw [← hnm]
  have hnz : nm.size ≤ 1048576 := by rw [hnm]; exact gx_size hl 0
  have HNM := hid hnm
  clear hnm
  have m1 : (V1.alloc (.cells #[.int .i64 3, .string nm, .int .i64 0, .int .i64 0, .int .i64 0, .string ⟨#[]⟩] 24)).cell? ⟨M, 1, none⟩ = some (.bool false) := (kM1.alloc _).cell 1
  have m2 : (V1.alloc (.cells #[.int .i64 3, .string nm, .int .i64 0, .int .i64 0, .int .i64 0, .string ⟨#[]⟩] 24)).cell? ⟨M, 2, none⟩ = some (.bool true) := (kM1.alloc _).cell 2
  have m3 : (V1.alloc (.cells #[.int .i64 3, .string nm, .int .i64 0, .int .i64 0, .int .i64 0, .string ⟨#[]⟩] 24)).cell? ⟨M, 3, none⟩ = some (.bool false) := (kM1.alloc _).cell 3
  go_wp2_with fail
  obtain ⟨P, hP⟩ : ∃ P, P = V1.heap.size := ⟨_, rfl⟩
  obtain ⟨V2, hV2⟩ : ∃ V2, V2 = V1.alloc (.cells #[.int .i64 3, .string nm, .int .i64 0, .int .i64 0, .int .i64 0, .string ⟨#[]⟩] 24) := ⟨_, rfl⟩
  rw [← hV2, ← hP]
  have hMP : M < P := by rw [hP]; exact kM1.lt
  have kN2 : Blk V2 N 24 #[.int .i64 0, .string ⟨#[]⟩, .int .i64 0, .int .i64 0, .int .i64 0, .string ⟨#[]⟩] := by rw [hV2]; exact kN1.alloc _
  have kM2 : Blk V2 M 40 #[.string ⟨#[109, 101, 114, 103, 101]⟩, .bool false, .bool true, .bool false] := by rw [hV2]; exact kM1.alloc _
  have kP2 : Blk V2 P 24 #[.int .i64 3, .string nm, .int .i64 0, .int .i64 0, .int .i64 0, .string ⟨#[]⟩] := by rw [hV2, hP]; exact Blk.new V1 _ _
  have hr2 : RdAt V2 R l.tail := by rw [hV2]; exact hr1.alloc _
  have hg2 : w.grownBy V2 (some R) := by rw [hV2]; exact grown_trans hg1 (grown_below (some R) (bel_alloc (Below.refl _ _) _))
  have hb2 : Below w0.heap.size w0 V2 := by rw [hV2]; exact bel_alloc hb1 _
  have hRP : R < P := by omega
  have hNP : N < P := by omega
  clear hV2 hP m1 m2 m3 kN1 kM1 hr1 hg1 hb1
  refine (c_number w0 V2 R l.tail hb2 hR hE hl2 hr2).mono ?_
  rintro e V3 ⟨⟨z, rfl, hzb, hzn⟩, hr3, hgx⟩
  have kN3 := kN2.grown hgx (by simp; omega)
  have kM3 := kM2.grown hgx (by simp; omega)
  have kP3 := kP2.grown hgx (by simp; omega)
  have hg3 := grown_trans hg2 hgx
  have hb3 : Below w0.heap.size w0 V3 := hb2.trans (below_of_grown hgx hb2.size (fun g e => by cases e; exact hR))
  clear hr2 hgx kN2 kM2 hg2 hb2 kP2
  have Hz := hid (show NumOf (gx l 1) z from by exact gx_of_tail1 (Q := fun x => NumOf x z) hzn)
  clear hzn
  obtain ⟨p0, p1, p2, p3, p4, p5⟩ := kP3.cells6
  have gp4 := kP3.frozen 4
  have m1 : ((V3).setCell ⟨P, 4, none⟩ (.int .i64 z)).cell? ⟨M, 1, none⟩ = some (.bool false) := ((kM3).set_farI 4 _ (by omega)).cell 1
  have m2 : ((V3).setCell ⟨P, 4, none⟩ (.int .i64 z)).cell? ⟨M, 2, none⟩ = some (.bool true) := ((kM3).set_farI 4 _ (by omega)).cell 2
  have m3 : ((V3).setCell ⟨P, 4, none⟩ (.int .i64 z)).cell? ⟨M, 3, none⟩ = some (.bool false) := ((kM3).set_farI 4 _ (by omega)).cell 3
  have KPX : Blk ((V3).setCell ⟨P, 4, none⟩ (.int .i64 z)) (P) 24 #[.int .i64 3, .string nm, .int .i64 0, .int .i64 0, .int .i64 z, .string ⟨#[]⟩] := (kP3).set_ 4 _
  have KNX : Blk ((V3).setCell ⟨P, 4, none⟩ (.int .i64 z)) N 24 #[.int .i64 0, .string ⟨#[]⟩, .int .i64 0, .int .i64 0, .int .i64 0, .string ⟨#[]⟩] := (kN3).set_farI 4 _ (by omega)
  obtain ⟨p0, p1, p2, p3, p4, p5⟩ := KPX.cells6
  obtain ⟨q0, q1, q2, q3, q4, q5⟩ := KNX.cells6
  have g0 := KNX.frozen 0
  have g1 := KNX.frozen 1
  have g2 := KNX.frozen 2
  have g3 := KNX.frozen 3
  have g4 := KNX.frozen 4
  have g5 := KNX.frozen 5
  obtain ⟨pp0, pp1, pp2, pp3, pp4, pp5⟩ := kP3.cells6
  have K9 := KNX.put6o (.int .i64 3) (.string nm) (.int .i64 0) (.int .i64 0) (.int .i64 z) (.string ⟨#[]⟩)
  obtain ⟨j0, j1, j2, j3, j4, j5⟩ := K9.cells6
  have HGX := hid (show w.grownBy ((V3).setCell ⟨P, 4, none⟩ (.int .i64 z)) (some R) from grown_new hg3 (grown_sets1 V3 P 4 (.int .i64 z)) (by omega))
  clear K9
  go_wp2
  (try simp only [Exit.inBlock, Exit.then])
  exact bodyPost_ret (v := .agg #[.int .i64 3, .string nm, .int .i64 0, .int .i64 0, .int .i64 z, .string ⟨#[]⟩]) (by simp [results, Tryz.results30, go_sem, j0, j1, j2, j3, j4, j5]) rfl ⟨⟨nm, _, _, _, _, rfl, (by omega), (by omega), hnz, Nat.zero_le _, ⟨HNM.out, ⟨rfl, rfl⟩, Hz.out, rfl⟩⟩, grown_put6 HGX.out hNw _ _ _ _ _ _⟩

set_option maxHeartbeats 8000000 in
set_option maxRecDepth 100000 in
theorem c_op_4 (w0 w : World) (R : Nat) (l : List ByteArray) (hb : Below w0.heap.size w0 w) (hR : w0.heap.size ≤ R) (hE : ErrAt w0) (hFm : Frm w0) (hl : ∀ x ∈ l, x.size ≤ 1048576) (h : RdAt w R l) :
    Calls Tryz.prog 30 #[.pointer (some ⟨R, 0, none⟩), .int .i64 4] w fun e w' => (∃ (nm : ByteArray) (f t z : Int) (d : ByteArray), e = .returned (.agg #[.int .i64 4, .string nm, .int .i64 f, .int .i64 t, .int .i64 z, .string d]) ∧ (-9223372036854775808 ≤ f ∧ f ≤ 9223372036854775807) ∧ (-9223372036854775808 ≤ t ∧ t ≤ 9223372036854775807) ∧ nm.size ≤ 1048576 ∧ d.size ≤ 4000 ∧ OpRd 4 l nm f t z d) ∧ w.grownBy w' (some R) := by
  have hlt := h.lt
  have hl2 : ∀ x ∈ l.tail, x.size ≤ 1048576 := fun x hx => hl x (List.mem_of_mem_tail hx)
  have hl3 : ∀ x ∈ l.tail.tail, x.size ≤ 1048576 := fun x hx => hl2 x (List.mem_of_mem_tail hx)
  have hl4 : ∀ x ∈ l.tail.tail.tail, x.size ≤ 1048576 := fun x hx => hl3 x (List.mem_of_mem_tail hx)
  have hl5 : ∀ x ∈ l.tail.tail.tail.tail, x.size ≤ 1048576 := fun x hx => hl4 x (List.mem_of_mem_tail hx)
  obtain ⟨ft, hF0⟩ := hFm.on hb
  have hFk : Blk w 0 ft _ := hF0
  have hF1 := hFk.alloc (.cells #[.int .i64 0, .string ⟨#[]⟩, .int .i64 0, .int .i64 0, .int .i64 0, .string ⟨#[]⟩] 24)
  have f0 : (w.alloc (.cells #[.int .i64 0, .string ⟨#[]⟩, .int .i64 0, .int .i64 0, .int .i64 0, .string ⟨#[]⟩] 24)).cell? ⟨0, 16, none⟩ = some (.string ⟨#[100, 101, 108, 101, 116, 101]⟩) := hF1.cell 16
  have f1 : (w.alloc (.cells #[.int .i64 0, .string ⟨#[]⟩, .int .i64 0, .int .i64 0, .int .i64 0, .string ⟨#[]⟩] 24)).cell? ⟨0, 17, none⟩ = some (.bool false) := hF1.cell 17
  have f2 : (w.alloc (.cells #[.int .i64 0, .string ⟨#[]⟩, .int .i64 0, .int .i64 0, .int .i64 0, .string ⟨#[]⟩] 24)).cell? ⟨0, 18, none⟩ = some (.bool false) := hF1.cell 18
  have f3 : (w.alloc (.cells #[.int .i64 0, .string ⟨#[]⟩, .int .i64 0, .int .i64 0, .int .i64 0, .string ⟨#[]⟩] 24)).cell? ⟨0, 19, none⟩ = some (.bool false) := hF1.cell 19
  clear hF0 hFk hF1
  go_enter Tryz.func30, Tryz.ntmps30
  go_wp2_with fail
  obtain ⟨N, hN⟩ : ∃ N, N = w.heap.size := ⟨_, rfl⟩
  obtain ⟨M, hM⟩ : ∃ M, M = w.heap.size + 1 := ⟨_, rfl⟩
  obtain ⟨V0, hV0⟩ : ∃ V0, V0 = (w.alloc (.cells #[.int .i64 0, .string ⟨#[]⟩, .int .i64 0, .int .i64 0, .int .i64 0, .string ⟨#[]⟩] 24)).alloc (.cells #[.string ⟨#[100, 101, 108, 101, 116, 101]⟩, .bool false, .bool false, .bool false] 40) := ⟨_, rfl⟩
  rw [← hV0, ← hM, ← hN]
  have kN0 : Blk V0 N 24 #[.int .i64 0, .string ⟨#[]⟩, .int .i64 0, .int .i64 0, .int .i64 0, .string ⟨#[]⟩] := by rw [hV0, hN]; exact (Blk.new w _ _).alloc _
  have kM0 : Blk V0 M 40 #[.string ⟨#[100, 101, 108, 101, 116, 101]⟩, .bool false, .bool false, .bool false] := by rw [hV0, hM, ← World.size_alloc w (.cells #[.int .i64 0, .string ⟨#[]⟩, .int .i64 0, .int .i64 0, .int .i64 0, .string ⟨#[]⟩] 24)]; exact Blk.new (w.alloc (.cells #[.int .i64 0, .string ⟨#[]⟩, .int .i64 0, .int .i64 0, .int .i64 0, .string ⟨#[]⟩] 24)) _ _
  have hr0 : RdAt V0 R l := by rw [hV0]; exact (h.alloc _).alloc _
  have hB0 : Below w.heap.size w V0 := by rw [hV0]; exact bel_alloc (bel_alloc (Below.refl _ _) _) _
  have hRN : R < N := by omega
  have hRM : R < M := by omega
  have hNM : N < M := by omega
  have hNw : w.heap.size ≤ N := by omega
  have hg0 : w.grownBy V0 (some R) := grown_below _ hB0
  have hb0 : Below w0.heap.size w0 V0 := hb.trans (hB0.mono hb.size)
  clear hV0 hN hM f0 f1 f2 f3 hB0 h hlt hb hFm
  refine (c_text V0 R l hr0).mono ?_
  rintro e V1 ⟨rfl, hr1, hgx⟩
  have kN1 := kN0.grown hgx (by simp; omega)
  have kM1 := kM0.grown hgx (by simp; omega)
  have hg1 := grown_trans hg0 hgx
  have hb1 : Below w0.heap.size w0 V1 := hb0.trans (below_of_grown hgx hb0.size (fun g e => by cases e; exact hR))
  clear hr0 hgx kN0 kM0 hg0 hb0
  obtain ⟨nm, hnm⟩ : ∃ nm, nm = gx l 0 := ⟨_, rfl⟩
  rw [← hnm]
  have hnz : nm.size ≤ 1048576 := by rw [hnm]; exact gx_size hl 0
  have HNM := hid hnm
  clear hnm
  have m1 : (V1.alloc (.cells #[.int .i64 4, .string nm, .int .i64 0, .int .i64 0, .int .i64 0, .string ⟨#[]⟩] 24)).cell? ⟨M, 1, none⟩ = some (.bool false) := (kM1.alloc _).cell 1
  have m2 : (V1.alloc (.cells #[.int .i64 4, .string nm, .int .i64 0, .int .i64 0, .int .i64 0, .string ⟨#[]⟩] 24)).cell? ⟨M, 2, none⟩ = some (.bool false) := (kM1.alloc _).cell 2
  have m3 : (V1.alloc (.cells #[.int .i64 4, .string nm, .int .i64 0, .int .i64 0, .int .i64 0, .string ⟨#[]⟩] 24)).cell? ⟨M, 3, none⟩ = some (.bool false) := (kM1.alloc _).cell 3
  have KPX : Blk (V1.alloc (.cells #[.int .i64 4, .string nm, .int .i64 0, .int .i64 0, .int .i64 0, .string ⟨#[]⟩] 24)) (V1.heap.size) 24 #[.int .i64 4, .string nm, .int .i64 0, .int .i64 0, .int .i64 0, .string ⟨#[]⟩] := Blk.new V1 _ _
  have KNX : Blk (V1.alloc (.cells #[.int .i64 4, .string nm, .int .i64 0, .int .i64 0, .int .i64 0, .string ⟨#[]⟩] 24)) N 24 #[.int .i64 0, .string ⟨#[]⟩, .int .i64 0, .int .i64 0, .int .i64 0, .string ⟨#[]⟩] := kN1.alloc _
  obtain ⟨p0, p1, p2, p3, p4, p5⟩ := KPX.cells6
  obtain ⟨q0, q1, q2, q3, q4, q5⟩ := KNX.cells6
  have g0 := KNX.frozen 0
  have g1 := KNX.frozen 1
  have g2 := KNX.frozen 2
  have g3 := KNX.frozen 3
  have g4 := KNX.frozen 4
  have g5 := KNX.frozen 5
  clear kN1 kM1 hr1
  have K9 := KNX.put6o (.int .i64 4) (.string nm) (.int .i64 0) (.int .i64 0) (.int .i64 0) (.string ⟨#[]⟩)
  obtain ⟨j0, j1, j2, j3, j4, j5⟩ := K9.cells6
  have HGX := hid (show w.grownBy (V1.alloc (.cells #[.int .i64 4, .string nm, .int .i64 0, .int .i64 0, .int .i64 0, .string ⟨#[]⟩] 24)) (some R) from grown_trans hg1 (grown_below (some R) (bel_alloc (Below.refl _ _) _)))
  clear K9
  go_wp2
  (try simp only [Exit.inBlock, Exit.then])
  exact bodyPost_ret (v := .agg #[.int .i64 4, .string nm, .int .i64 0, .int .i64 0, .int .i64 0, .string ⟨#[]⟩]) (by simp [results, Tryz.results30, go_sem, j0, j1, j2, j3, j4, j5]) rfl ⟨⟨nm, _, _, _, _, rfl, (by omega), (by omega), hnz, Nat.zero_le _, ⟨HNM.out, ⟨rfl, rfl⟩, rfl, rfl⟩⟩, grown_put6 HGX.out hNw _ _ _ _ _ _⟩
end Go.Proofs.YtaiemogcboidhaaGreatDoor
