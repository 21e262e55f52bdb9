/- The laws' own helpers on readers and writers; the contracts of NewReader and NewWriter in both programs. No condition but that the numbers are int's. -/
import Derived.Test.YtfklkepodpcdgaaBh
import Derived.Test.YtfklkepodpcdgaaBf
import Derived.Test.YtfklkepodpcdgaaBe
namespace Go.Proofs.Ytfklkepodpcdgaa
open Go.ChangeShapes Go.WideShapes Go.ChangeAt Go.RowKit Go.Joins
set_option linter.unusedVariables false

theorem Blk.cells9 {w : World} {g : Nat} {t : TypeId} {a b c d e f x y z : Value} (h : Blk w g t #[a, b, c, d, e, f, x, y, z]) : w.cell? ⟨g, 0, none⟩ = some a ∧ w.cell? ⟨g, 1, none⟩ = some b ∧ w.cell? ⟨g, 2, none⟩ = some c ∧ w.cell? ⟨g, 3, none⟩ = some d ∧ w.cell? ⟨g, 4, none⟩ = some e ∧ w.cell? ⟨g, 5, none⟩ = some f ∧ w.cell? ⟨g, 6, none⟩ = some x ∧ w.cell? ⟨g, 7, none⟩ = some y ∧ w.cell? ⟨g, 8, none⟩ = some z := ⟨h.cell 0, h.cell 1, h.cell 2, h.cell 3, h.cell 4, h.cell 5, h.cell 6, h.cell 7, h.cell 8⟩

theorem Blk.cells10 {w : World} {g : Nat} {t : TypeId} {a b c d e f x y z u : Value} (h : Blk w g t #[a, b, c, d, e, f, x, y, z, u]) : w.cell? ⟨g, 0, none⟩ = some a ∧ w.cell? ⟨g, 1, none⟩ = some b ∧ w.cell? ⟨g, 2, none⟩ = some c ∧ w.cell? ⟨g, 3, none⟩ = some d ∧ w.cell? ⟨g, 4, none⟩ = some e ∧ w.cell? ⟨g, 5, none⟩ = some f ∧ w.cell? ⟨g, 6, none⟩ = some x ∧ w.cell? ⟨g, 7, none⟩ = some y ∧ w.cell? ⟨g, 8, none⟩ = some z ∧ w.cell? ⟨g, 9, none⟩ = some u := ⟨h.cell 0, h.cell 1, h.cell 2, h.cell 3, h.cell 4, h.cell 5, h.cell 6, h.cell 7, h.cell 8, h.cell 9⟩

theorem c_eqReader (k : Kn) {B : ByteArray} {s c e : Int} (A A2 : Option Addr) (cap cap2 L L2 : Nat) (w : World) (h : PsAt w L A cap k.ps) (h2 : PsAt w L2 A2 cap2 k.ps) (hL : L ≤ w.heap.size) (hL2 : L2 ≤ w.heap.size) (hn : k.ps.length ≤ 1048576) : Calls Try.prog 66 #[.agg #[.int .i64 k.o, .int .i64 k.l, .int .i64 k.m, .slice A k.ps.length cap, .int .i64 k.base, .int .i64 k.last, .string B, .int .i64 s, .int .i64 c, .int .i64 e], .agg #[.int .i64 k.o, .int .i64 k.l, .int .i64 k.m, .slice A2 k.ps.length cap2, .int .i64 k.base, .int .i64 k.last, .string B, .int .i64 s, .int .i64 c, .int .i64 e]] w fun e w' => e = .returned (.bool true) ∧ Below w.heap.size w w' := by
  have HE := hid (fun (v : World) (hb : Below w.heap.size w v) => c_eqKnown k A A2 cap cap2 L L2 v (h.below hb hL) (h2.below hb hL2) (Nat.le_trans hL hb.size) (Nat.le_trans hL2 hb.size) hn)
  have H1 := hid ((Blk.new w 81 #[.int .i64 k.o, .int .i64 k.l, .int .i64 k.m, .slice A k.ps.length cap, .int .i64 k.base, .int .i64 k.last, .string B, .int .i64 s, .int .i64 c, .int .i64 e]).alloc (.cells #[.int .i64 k.o, .int .i64 k.l, .int .i64 k.m, .slice A2 k.ps.length cap2, .int .i64 k.base, .int .i64 k.last, .string B, .int .i64 s, .int .i64 c, .int .i64 e] 81))
  have H2 := hid (Blk.top w (.cells #[.int .i64 k.o, .int .i64 k.l, .int .i64 k.m, .slice A k.ps.length cap, .int .i64 k.base, .int .i64 k.last, .string B, .int .i64 s, .int .i64 c, .int .i64 e] 81) 81 #[.int .i64 k.o, .int .i64 k.l, .int .i64 k.m, .slice A2 k.ps.length cap2, .int .i64 k.base, .int .i64 k.last, .string B, .int .i64 s, .int .i64 c, .int .i64 e])
  have hB0 : Below w.heap.size w ((w.alloc (.cells #[.int .i64 k.o, .int .i64 k.l, .int .i64 k.m, .slice A k.ps.length cap, .int .i64 k.base, .int .i64 k.last, .string B, .int .i64 s, .int .i64 c, .int .i64 e] 81)).alloc (.cells #[.int .i64 k.o, .int .i64 k.l, .int .i64 k.m, .slice A2 k.ps.length cap2, .int .i64 k.base, .int .i64 k.last, .string B, .int .i64 s, .int .i64 c, .int .i64 e] 81)) := by (repeat (first | with_reducible (first | assumption | exact Below.refl _ _ | refine bel_alloc ?_ _ | refine bel_drew ?_ | refine bel_drewN ?_ _ | refine bel_set ?_ (by first | omega | (simp; done) | (simp; omega)) _ | refine bel_trans ?_ (by assumption)) | assumption | refine bel_trans ?_ (by assumption)))
  clear h h2
  obtain ⟨p0, p1, p2, p3, p4, p5, p6, p7, p8, p9⟩ := H1.out.cells10
  obtain ⟨u0, u1, u2, u3, u4, u5, u6, u7, u8, u9⟩ := H2.out.cells10
  go_enter Try.func66, Try.ntmps66
  go_wp2_with fail
  refine (HE.out _ hB0).mono ?_
  rintro e w1 ⟨rfl, hb1⟩
  have hB1 := bel_trans hB0 hb1
  have K1 := hid (H1.out.on hb1)
  have K2 := hid (H2.out.on hb1)
  clear p0 p1 p2 p3 p4 p5 p6 p7 p8 p9 u0 u1 u2 u3 u4 u5 u6 u7 u8 u9
  obtain ⟨p0, p1, p2, p3, p4, p5, p6, p7, p8, p9⟩ := K1.out.cells10
  obtain ⟨u0, u1, u2, u3, u4, u5, u6, u7, u8, u9⟩ := K2.out.cells10
  go_wp2
  go_ret
  exact ⟨rfl, by (repeat (first | with_reducible (first | assumption | exact Below.refl _ _ | refine bel_alloc ?_ _ | refine bel_drew ?_ | refine bel_drewN ?_ _ | refine bel_set ?_ (by first | omega | (simp; done) | (simp; omega)) _ | refine bel_trans ?_ (by assumption)) | assumption | refine bel_trans ?_ (by assumption)))⟩

theorem c_markReader_any (k : Kn) {B : ByteArray} {s c e : Int} (B0 cap : Nat) (A : Option Addr) (w : World) (h : w.ownsRow B0 169 2 (.slice A k.ps.length cap) k.ps.length (prs k.ps)) (hB : B0 ≤ w.heap.size) (hn : k.ps.length ≤ 1048576) : Calls Try.prog 71 #[.agg #[.int .i64 k.o, .int .i64 k.l, .int .i64 k.m, .slice A k.ps.length cap, .int .i64 k.base, .int .i64 k.last, .string B, .int .i64 s, .int .i64 c, .int .i64 e], .int .i64 1] w fun e w' => e = .returned (.int .i64 (1 + 2 * k.ps.length)) ∧ w'.ownsRow B0 169 2 (.slice A k.ps.length cap) k.ps.length (prs (mk k.ps.length 1)) ∧ w.grownBy w' (Value.slice A k.ps.length cap).ownBlock := by
  have HM := hid (c_markKnown_any k B0 cap A _ (h.alloc (.cells #[.int .i64 k.o, .int .i64 k.l, .int .i64 k.m, .slice A k.ps.length cap, .int .i64 k.base, .int .i64 k.last, .string B, .int .i64 s, .int .i64 c, .int .i64 e] 81)) (by simp; omega) hn)
  obtain ⟨p0, p1, p2, p3, p4, p5, p6, p7, p8, p9⟩ := (Blk.new w 81 #[.int .i64 k.o, .int .i64 k.l, .int .i64 k.m, .slice A k.ps.length cap, .int .i64 k.base, .int .i64 k.last, .string B, .int .i64 s, .int .i64 c, .int .i64 e]).cells10
  have hg0 := World.grownBy_alloc w (.cells #[.int .i64 k.o, .int .i64 k.l, .int .i64 k.m, .slice A k.ps.length cap, .int .i64 k.base, .int .i64 k.last, .string B, .int .i64 s, .int .i64 c, .int .i64 e] 81) (Value.slice A k.ps.length cap).ownBlock
  clear h
  go_enter Try.func71, Try.ntmps71
  go_wp2_with fail
  refine HM.out.mono ?_
  rintro e w1 ⟨rfl, hown, hg⟩
  have hg2 := grown_trans hg0 hg
  clear hg hg0
  go_wp2
  go_ret
  exact ⟨rfl, hown, hg2⟩

theorem c_heldReader {B : ByteArray} {s c e : Int} (o l m bb t : Int) (A : Option Addr) (cap n L : Nat) (w : World) (h : PsAt w L A cap (mk n 1)) (hL : L ≤ w.heap.size) (hn : n ≤ 1048576) : Calls Try.prog 72 #[.agg #[.int .i64 o, .int .i64 l, .int .i64 m, .slice A n cap, .int .i64 bb, .int .i64 t, .string B, .int .i64 s, .int .i64 c, .int .i64 e], .int .i64 1] w fun e w' => e = .returned (.int .i64 (1 + 2 * n)) ∧ Below w.heap.size w w' := by
  have HH := hid (c_heldKnown o l m bb t A cap n L _ (h.alloc hL (.cells #[.int .i64 o, .int .i64 l, .int .i64 m, .slice A n cap, .int .i64 bb, .int .i64 t, .string B, .int .i64 s, .int .i64 c, .int .i64 e] 81)) (by simp; omega) hn)
  obtain ⟨p0, p1, p2, p3, p4, p5, p6, p7, p8, p9⟩ := (Blk.new w 81 #[.int .i64 o, .int .i64 l, .int .i64 m, .slice A n cap, .int .i64 bb, .int .i64 t, .string B, .int .i64 s, .int .i64 c, .int .i64 e]).cells10
  clear h
  go_enter Try.func72, Try.ntmps72
  go_wp2_with fail
  refine HH.out.mono ?_
  rintro e w1 ⟨rfl, hb1⟩
  go_wp2
  go_ret
  exact ⟨rfl, by (repeat (first | with_reducible (first | assumption | exact Below.refl _ _ | refine bel_alloc ?_ _ | refine bel_drew ?_ | refine bel_drewN ?_ _ | refine bel_set ?_ (by first | omega | (simp; done) | (simp; omega)) _ | refine bel_trans ?_ (by assumption)) | assumption | refine bel_trans ?_ (by assumption)))⟩

theorem c_eqWriter (k : Kn) {B B2 : ByteArray} {b : Bool} (A A2 : Option Addr) (cap cap2 L L2 : Nat) (w : World) (h : PsAt w L A cap k.ps) (h2 : PsAt w L2 A2 cap2 k.ps) (hL : L ≤ w.heap.size) (hL2 : L2 ≤ w.heap.size) (hn : k.ps.length ≤ 1048576) : Calls Try.prog 81 #[.agg #[.int .i64 k.o, .int .i64 k.l, .int .i64 k.m, .slice A k.ps.length cap, .int .i64 k.base, .int .i64 k.last, .string B, .string B2, .bool b], .agg #[.int .i64 k.o, .int .i64 k.l, .int .i64 k.m, .slice A2 k.ps.length cap2, .int .i64 k.base, .int .i64 k.last, .string B, .string B2, .bool b]] w fun e w' => e = .returned (.bool true) ∧ Below w.heap.size w w' := by
  have HE := hid (fun (v : World) (hb : Below w.heap.size w v) => c_eqKnown k A A2 cap cap2 L L2 v (h.below hb hL) (h2.below hb hL2) (Nat.le_trans hL hb.size) (Nat.le_trans hL2 hb.size) hn)
  have H1 := hid ((Blk.new w 99 #[.int .i64 k.o, .int .i64 k.l, .int .i64 k.m, .slice A k.ps.length cap, .int .i64 k.base, .int .i64 k.last, .string B, .string B2, .bool b]).alloc (.cells #[.int .i64 k.o, .int .i64 k.l, .int .i64 k.m, .slice A2 k.ps.length cap2, .int .i64 k.base, .int .i64 k.last, .string B, .string B2, .bool b] 99))
  have H2 := hid (Blk.top w (.cells #[.int .i64 k.o, .int .i64 k.l, .int .i64 k.m, .slice A k.ps.length cap, .int .i64 k.base, .int .i64 k.last, .string B, .string B2, .bool b] 99) 99 #[.int .i64 k.o, .int .i64 k.l, .int .i64 k.m, .slice A2 k.ps.length cap2, .int .i64 k.base, .int .i64 k.last, .string B, .string B2, .bool b])
  have hB0 : Below w.heap.size w ((w.alloc (.cells #[.int .i64 k.o, .int .i64 k.l, .int .i64 k.m, .slice A k.ps.length cap, .int .i64 k.base, .int .i64 k.last, .string B, .string B2, .bool b] 99)).alloc (.cells #[.int .i64 k.o, .int .i64 k.l, .int .i64 k.m, .slice A2 k.ps.length cap2, .int .i64 k.base, .int .i64 k.last, .string B, .string B2, .bool b] 99)) := by (repeat (first | with_reducible (first | assumption | exact Below.refl _ _ | refine bel_alloc ?_ _ | refine bel_drew ?_ | refine bel_drewN ?_ _ | refine bel_set ?_ (by first | omega | (simp; done) | (simp; omega)) _ | refine bel_trans ?_ (by assumption)) | assumption | refine bel_trans ?_ (by assumption)))
  clear h h2
  obtain ⟨p0, p1, p2, p3, p4, p5, p6, p7, p8⟩ := H1.out.cells9
  obtain ⟨u0, u1, u2, u3, u4, u5, u6, u7, u8⟩ := H2.out.cells9
  go_enter Try.func81, Try.ntmps81
  go_wp2_with fail
  refine (HE.out _ hB0).mono ?_
  rintro e w1 ⟨rfl, hb1⟩
  have hB1 := bel_trans hB0 hb1
  have K1 := hid (H1.out.on hb1)
  have K2 := hid (H2.out.on hb1)
  clear p0 p1 p2 p3 p4 p5 p6 p7 p8 u0 u1 u2 u3 u4 u5 u6 u7 u8
  obtain ⟨p0, p1, p2, p3, p4, p5, p6, p7, p8⟩ := K1.out.cells9
  obtain ⟨u0, u1, u2, u3, u4, u5, u6, u7, u8⟩ := K2.out.cells9
  go_wp2
  go_ret
  exact ⟨rfl, by (repeat (first | with_reducible (first | assumption | exact Below.refl _ _ | refine bel_alloc ?_ _ | refine bel_drew ?_ | refine bel_drewN ?_ _ | refine bel_set ?_ (by first | omega | (simp; done) | (simp; omega)) _ | refine bel_trans ?_ (by assumption)) | assumption | refine bel_trans ?_ (by assumption)))⟩
end Go.Proofs.Ytfklkepodpcdgaa
