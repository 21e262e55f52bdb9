/- The walk of the exact law on FormatReader: each law's text answers true. No condition. -/
import Derived.Test.YtfjealhigckegaaDoorFg
import Derived.Test.YtfjealhigckegaaDoorOr
import Derived.Test.YtfjealhigckegaaDoorBe
namespace Go.Proofs.YtfjealhigckegaaDoor
open Go.ChangeShapes Go.WideShapes Go.ChangeAt Go.RowKit Go.Joins
set_option linter.unusedVariables false

theorem s20_bel {w v v' : World} {a0 a1 a2 a3 a4 a5 a6 a7 a8 a9 a10 a11 a12 a13 a14 a15 a16 a17 a18 a19 : Addr} {x0 x1 x2 x3 x4 x5 x6 x7 x8 x9 x10 x11 x12 x13 x14 x15 x16 x17 x18 x19 : Value} (hb : Below v.heap.size v v') (h : v.cell? a0 = some x0 ∧ v.cell? a1 = some x1 ∧ v.cell? a2 = some x2 ∧ v.cell? a3 = some x3 ∧ v.cell? a4 = some x4 ∧ v.cell? a5 = some x5 ∧ v.cell? a6 = some x6 ∧ v.cell? a7 = some x7 ∧ v.cell? a8 = some x8 ∧ v.cell? a9 = some x9 ∧ v.cell? a10 = some x10 ∧ v.cell? a11 = some x11 ∧ v.cell? a12 = some x12 ∧ v.cell? a13 = some x13 ∧ v.cell? a14 = some x14 ∧ v.cell? a15 = some x15 ∧ v.cell? a16 = some x16 ∧ v.cell? a17 = some x17 ∧ v.cell? a18 = some x18 ∧ v.cell? a19 = some x19 ∧ Below w.heap.size w v) : v'.cell? a0 = some x0 ∧ v'.cell? a1 = some x1 ∧ v'.cell? a2 = some x2 ∧ v'.cell? a3 = some x3 ∧ v'.cell? a4 = some x4 ∧ v'.cell? a5 = some x5 ∧ v'.cell? a6 = some x6 ∧ v'.cell? a7 = some x7 ∧ v'.cell? a8 = some x8 ∧ v'.cell? a9 = some x9 ∧ v'.cell? a10 = some x10 ∧ v'.cell? a11 = some x11 ∧ v'.cell? a12 = some x12 ∧ v'.cell? a13 = some x13 ∧ v'.cell? a14 = some x14 ∧ v'.cell? a15 = some x15 ∧ v'.cell? a16 = some x16 ∧ v'.cell? a17 = some x17 ∧ v'.cell? a18 = some x18 ∧ v'.cell? a19 = some x19 ∧ Below w.heap.size w v' := ⟨cell_to h.1 hb, cell_to h.2.1 hb, cell_to h.2.2.1 hb, cell_to h.2.2.2.1 hb, cell_to h.2.2.2.2.1 hb, cell_to h.2.2.2.2.2.1 hb, cell_to h.2.2.2.2.2.2.1 hb, cell_to h.2.2.2.2.2.2.2.1 hb, cell_to h.2.2.2.2.2.2.2.2.1 hb, cell_to h.2.2.2.2.2.2.2.2.2.1 hb, cell_to h.2.2.2.2.2.2.2.2.2.2.1 hb, cell_to h.2.2.2.2.2.2.2.2.2.2.2.1 hb, cell_to h.2.2.2.2.2.2.2.2.2.2.2.2.1 hb, cell_to h.2.2.2.2.2.2.2.2.2.2.2.2.2.1 hb, cell_to h.2.2.2.2.2.2.2.2.2.2.2.2.2.2.1 hb, cell_to h.2.2.2.2.2.2.2.2.2.2.2.2.2.2.2.1 hb, cell_to h.2.2.2.2.2.2.2.2.2.2.2.2.2.2.2.2.1 hb, cell_to h.2.2.2.2.2.2.2.2.2.2.2.2.2.2.2.2.2.1 hb, cell_to h.2.2.2.2.2.2.2.2.2.2.2.2.2.2.2.2.2.2.1 hb, cell_to h.2.2.2.2.2.2.2.2.2.2.2.2.2.2.2.2.2.2.2.1 hb, bel_trans h.2.2.2.2.2.2.2.2.2.2.2.2.2.2.2.2.2.2.2.2 hb⟩
theorem s20_drew {w v : World} {a0 a1 a2 a3 a4 a5 a6 a7 a8 a9 a10 a11 a12 a13 a14 a15 a16 a17 a18 a19 : Addr} {x0 x1 x2 x3 x4 x5 x6 x7 x8 x9 x10 x11 x12 x13 x14 x15 x16 x17 x18 x19 : Value} (h : v.cell? a0 = some x0 ∧ v.cell? a1 = some x1 ∧ v.cell? a2 = some x2 ∧ v.cell? a3 = some x3 ∧ v.cell? a4 = some x4 ∧ v.cell? a5 = some x5 ∧ v.cell? a6 = some x6 ∧ v.cell? a7 = some x7 ∧ v.cell? a8 = some x8 ∧ v.cell? a9 = some x9 ∧ v.cell? a10 = some x10 ∧ v.cell? a11 = some x11 ∧ v.cell? a12 = some x12 ∧ v.cell? a13 = some x13 ∧ v.cell? a14 = some x14 ∧ v.cell? a15 = some x15 ∧ v.cell? a16 = some x16 ∧ v.cell? a17 = some x17 ∧ v.cell? a18 = some x18 ∧ v.cell? a19 = some x19 ∧ Below w.heap.size w v) : v.drew.cell? a0 = some x0 ∧ v.drew.cell? a1 = some x1 ∧ v.drew.cell? a2 = some x2 ∧ v.drew.cell? a3 = some x3 ∧ v.drew.cell? a4 = some x4 ∧ v.drew.cell? a5 = some x5 ∧ v.drew.cell? a6 = some x6 ∧ v.drew.cell? a7 = some x7 ∧ v.drew.cell? a8 = some x8 ∧ v.drew.cell? a9 = some x9 ∧ v.drew.cell? a10 = some x10 ∧ v.drew.cell? a11 = some x11 ∧ v.drew.cell? a12 = some x12 ∧ v.drew.cell? a13 = some x13 ∧ v.drew.cell? a14 = some x14 ∧ v.drew.cell? a15 = some x15 ∧ v.drew.cell? a16 = some x16 ∧ v.drew.cell? a17 = some x17 ∧ v.drew.cell? a18 = some x18 ∧ v.drew.cell? a19 = some x19 ∧ Below w.heap.size w v.drew := ⟨h.1, h.2.1, h.2.2.1, h.2.2.2.1, h.2.2.2.2.1, h.2.2.2.2.2.1, h.2.2.2.2.2.2.1, h.2.2.2.2.2.2.2.1, h.2.2.2.2.2.2.2.2.1, h.2.2.2.2.2.2.2.2.2.1, h.2.2.2.2.2.2.2.2.2.2.1, h.2.2.2.2.2.2.2.2.2.2.2.1, h.2.2.2.2.2.2.2.2.2.2.2.2.1, h.2.2.2.2.2.2.2.2.2.2.2.2.2.1, h.2.2.2.2.2.2.2.2.2.2.2.2.2.2.1, h.2.2.2.2.2.2.2.2.2.2.2.2.2.2.2.1, h.2.2.2.2.2.2.2.2.2.2.2.2.2.2.2.2.1, h.2.2.2.2.2.2.2.2.2.2.2.2.2.2.2.2.2.1, h.2.2.2.2.2.2.2.2.2.2.2.2.2.2.2.2.2.2.1, h.2.2.2.2.2.2.2.2.2.2.2.2.2.2.2.2.2.2.2.1, bel_drew h.2.2.2.2.2.2.2.2.2.2.2.2.2.2.2.2.2.2.2.2⟩
theorem s20_alloc {w v : World} {a0 a1 a2 a3 a4 a5 a6 a7 a8 a9 a10 a11 a12 a13 a14 a15 a16 a17 a18 a19 : Addr} {x0 x1 x2 x3 x4 x5 x6 x7 x8 x9 x10 x11 x12 x13 x14 x15 x16 x17 x18 x19 : Value} (h : v.cell? a0 = some x0 ∧ v.cell? a1 = some x1 ∧ v.cell? a2 = some x2 ∧ v.cell? a3 = some x3 ∧ v.cell? a4 = some x4 ∧ v.cell? a5 = some x5 ∧ v.cell? a6 = some x6 ∧ v.cell? a7 = some x7 ∧ v.cell? a8 = some x8 ∧ v.cell? a9 = some x9 ∧ v.cell? a10 = some x10 ∧ v.cell? a11 = some x11 ∧ v.cell? a12 = some x12 ∧ v.cell? a13 = some x13 ∧ v.cell? a14 = some x14 ∧ v.cell? a15 = some x15 ∧ v.cell? a16 = some x16 ∧ v.cell? a17 = some x17 ∧ v.cell? a18 = some x18 ∧ v.cell? a19 = some x19 ∧ Below w.heap.size w v) (o : Obj) : (v.alloc o).cell? a0 = some x0 ∧ (v.alloc o).cell? a1 = some x1 ∧ (v.alloc o).cell? a2 = some x2 ∧ (v.alloc o).cell? a3 = some x3 ∧ (v.alloc o).cell? a4 = some x4 ∧ (v.alloc o).cell? a5 = some x5 ∧ (v.alloc o).cell? a6 = some x6 ∧ (v.alloc o).cell? a7 = some x7 ∧ (v.alloc o).cell? a8 = some x8 ∧ (v.alloc o).cell? a9 = some x9 ∧ (v.alloc o).cell? a10 = some x10 ∧ (v.alloc o).cell? a11 = some x11 ∧ (v.alloc o).cell? a12 = some x12 ∧ (v.alloc o).cell? a13 = some x13 ∧ (v.alloc o).cell? a14 = some x14 ∧ (v.alloc o).cell? a15 = some x15 ∧ (v.alloc o).cell? a16 = some x16 ∧ (v.alloc o).cell? a17 = some x17 ∧ (v.alloc o).cell? a18 = some x18 ∧ (v.alloc o).cell? a19 = some x19 ∧ Below w.heap.size w (v.alloc o) := ⟨cell_al h.1 o, cell_al h.2.1 o, cell_al h.2.2.1 o, cell_al h.2.2.2.1 o, cell_al h.2.2.2.2.1 o, cell_al h.2.2.2.2.2.1 o, cell_al h.2.2.2.2.2.2.1 o, cell_al h.2.2.2.2.2.2.2.1 o, cell_al h.2.2.2.2.2.2.2.2.1 o, cell_al h.2.2.2.2.2.2.2.2.2.1 o, cell_al h.2.2.2.2.2.2.2.2.2.2.1 o, cell_al h.2.2.2.2.2.2.2.2.2.2.2.1 o, cell_al h.2.2.2.2.2.2.2.2.2.2.2.2.1 o, cell_al h.2.2.2.2.2.2.2.2.2.2.2.2.2.1 o, cell_al h.2.2.2.2.2.2.2.2.2.2.2.2.2.2.1 o, cell_al h.2.2.2.2.2.2.2.2.2.2.2.2.2.2.2.1 o, cell_al h.2.2.2.2.2.2.2.2.2.2.2.2.2.2.2.2.1 o, cell_al h.2.2.2.2.2.2.2.2.2.2.2.2.2.2.2.2.2.1 o, cell_al h.2.2.2.2.2.2.2.2.2.2.2.2.2.2.2.2.2.2.1 o, cell_al h.2.2.2.2.2.2.2.2.2.2.2.2.2.2.2.2.2.2.2.1 o, bel_alloc h.2.2.2.2.2.2.2.2.2.2.2.2.2.2.2.2.2.2.2.2 o⟩
theorem held20 {v0 v : World} {a0 a1 a2 a3 a4 a5 a6 a7 a8 a9 b0 b1 b2 b3 b4 b5 b6 b7 b8 b9 : Addr} {x0 x1 x2 x3 x4 x5 x6 x7 x8 x9 y0 y1 y2 y3 y4 y5 y6 y7 y8 y9 : Value} (h : v.cell? a0 = some x0 ∧ v.cell? a1 = some x1 ∧ v.cell? a2 = some x2 ∧ v.cell? a3 = some x3 ∧ v.cell? a4 = some x4 ∧ v.cell? a5 = some x5 ∧ v.cell? a6 = some x6 ∧ v.cell? a7 = some x7 ∧ v.cell? a8 = some x8 ∧ v.cell? a9 = some x9) (k : v.cell? b0 = some y0 ∧ v.cell? b1 = some y1 ∧ v.cell? b2 = some y2 ∧ v.cell? b3 = some y3 ∧ v.cell? b4 = some y4 ∧ v.cell? b5 = some y5 ∧ v.cell? b6 = some y6 ∧ v.cell? b7 = some y7 ∧ v.cell? b8 = some y8 ∧ v.cell? b9 = some y9) (hb : Below v0.heap.size v0 v) : v.cell? a0 = some x0 ∧ v.cell? a1 = some x1 ∧ v.cell? a2 = some x2 ∧ v.cell? a3 = some x3 ∧ v.cell? a4 = some x4 ∧ v.cell? a5 = some x5 ∧ v.cell? a6 = some x6 ∧ v.cell? a7 = some x7 ∧ v.cell? a8 = some x8 ∧ v.cell? a9 = some x9 ∧ v.cell? b0 = some y0 ∧ v.cell? b1 = some y1 ∧ v.cell? b2 = some y2 ∧ v.cell? b3 = some y3 ∧ v.cell? b4 = some y4 ∧ v.cell? b5 = some y5 ∧ v.cell? b6 = some y6 ∧ v.cell? b7 = some y7 ∧ v.cell? b8 = some y8 ∧ v.cell? b9 = some y9 ∧ Below v0.heap.size v0 v := by
  obtain ⟨h0, h1, h2, h3, h4, h5, h6, h7, h8, h9⟩ := h
  obtain ⟨k0, k1, k2, k3, k4, k5, k6, k7, k8, k9⟩ := k
  exact ⟨h0, h1, h2, h3, h4, h5, h6, h7, h8, h9, k0, k1, k2, k3, k4, k5, k6, k7, k8, k9, hb⟩

theorem c_szReader_big (k : Kn) (B : ByteArray) (s c en : Int) (A : Option Addr) (cap : Nat) (w : World) (hn : 1048576 < k.ps.length) (hc : k.ps.length ≤ maxLen) : Calls Tryd.prog 10 #[.agg #[.int .i64 k.o, .int .i64 k.l, .int .i64 k.m, .slice A k.ps.length cap, .int .i64 k.base, .int .i64 k.last, .string B, .int .i64 s, .int .i64 c, .int .i64 en], .int .i64 1048576] w fun e w' => e = .returned (.int .i64 (-1)) ∧ Below w.heap.size w w' := by
  have HZ := hid (fun (v : World) => c_szKnown_big k A cap v hn hc)
  obtain ⟨p0, p1, p2, p3, p4, p5, p6, p7, p8, p9⟩ := (Blk.new w 37 #[.int .i64 k.o, .int .i64 k.l, .int .i64 k.m, .slice A k.ps.length cap, .int .i64 k.base, .int .i64 k.last, .string B, .int .i64 s, .int .i64 c, .int .i64 en]).cells10
  clear hn hc
  go_enter Tryd.func10, Tryd.ntmps10
  go_wp2_with fail
  refine (HZ.out _).mono ?_
  rintro e w1 ⟨rfl, hb1⟩
  go_wp2
  go_ret
  exact ⟨rfl, by (repeat (first | with_reducible (first | assumption | exact Below.refl _ _ | refine bel_alloc ?_ _ | refine bel_drew ?_ | refine bel_drewN ?_ _ | refine bel_set ?_ (by first | omega | (simp; done) | (simp; omega)) _ | refine bel_trans ?_ (by assumption)) | assumption | refine bel_trans ?_ (by assumption)))⟩

set_option maxHeartbeats 4000000 in
theorem walk_FnExactFormatReader (k : Kn) (A : Option Addr) (cap : Nat) (B : ByteArray) (s c en : Int) (w : World) (hp : PsAt w w.heap.size A cap k.ps) (hin : k.In) (hB : B.size ≤ maxLen) (hs : -9223372036854775808 ≤ s ∧ s ≤ 9223372036854775807) (hc : -9223372036854775808 ≤ c ∧ c ≤ 9223372036854775807) (hen : -9223372036854775808 ≤ en ∧ en ≤ 9223372036854775807) (hTab : TabN w) :
    Calls Tryd.prog 4 #[.agg #[.int .i64 k.o, .int .i64 k.l, .int .i64 k.m, .slice A k.ps.length cap, .int .i64 k.base, .int .i64 k.last, .string B, .int .i64 s, .int .i64 c, .int .i64 en]] w fun e w' => e = .returned (.bool true) ∧ Below w.heap.size w w' := by
  by_cases hn : k.ps.length ≤ 1048576
  · have hw := hin.wf hn
    obtain ⟨R, HS, HI⟩ : ∃ (R : ByteArray), (∀ (A : Option Addr) (cap L : Nat) (w : World), PsAt w L A cap k.ps → L ≤ w.heap.size → Calls Tryd.prog 11 #[.agg #[.int .i64 k.o, .int .i64 k.l, .int .i64 k.m, .slice A k.ps.length cap, .int .i64 k.base, .int .i64 k.last, .string B, .int .i64 s, .int .i64 c, .int .i64 en]] w fun e w' => e = .returned (.string R) ∧ Below w.heap.size w w') ∧ (∀ (A : Option Addr) (cap L : Nat) (v : World), PsAt v L A cap k.ps → L ≤ v.heap.size → Below w.heap.size w v → Calls Tryd.prog 13 #[.agg #[.int .i64 k.o, .int .i64 k.l, .int .i64 k.m, .slice A k.ps.length cap, .int .i64 k.base, .int .i64 k.last, .string B, .int .i64 s, .int .i64 c, .int .i64 en]] v fun e w' => e = .returned (.string R) ∧ Below v.heap.size v w') := by
      by_cases hk : k.Ok ∧ rdOk k B s c en = true
      · exact ⟨rdT k B s c en, fun A cap L w h hL => c_sFormatReader_yes k A cap L B s c en w h hL hB hw hen hk.1 hk.2, fun A cap L v h hL hb => c_FormatReader_yes k A cap L B s c en v h hL hB hw hen hk.1 hk.2 (hTab.on hb)⟩
      · exact ⟨ByteArray.empty, fun A cap L w h hL => c_sFormatReader_no k A cap L B s c en w h hL hB hw hen hk, fun A cap L v h hL hb => c_FormatReader_no k A cap L B s c en v h hL hB hw hen hk⟩
    have HP := hid hp
    have HS := hid HS
    have HI := hid HI
    have HZ := hid (fun (v : World) => c_szReader k B s c en A cap v hn hB)
    clear hp hin hw hs hc hen hB hTab
    have kN0 := hid (Blk.new w 37 #[.int .i64 k.o, .int .i64 k.l, .int .i64 k.m, .slice A k.ps.length cap, .int .i64 k.base, .int .i64 k.last, .string B, .int .i64 s, .int .i64 c, .int .i64 en])
    go_enter Tryd.func4, Tryd.ntmps4
    obtain ⟨p0, p1, p2, p3, p4, p5, p6, p7, p8, p9⟩ := kN0.out.cells10
    go_wp2_with fail
    refine (HZ.out _).mono ?_
    rintro e w1 ⟨z, rfl, hb1⟩
    have kN1 := hid (kN0.out.on hb1)
    have hB1 : Below w.heap.size w w1 := by (repeat (first | with_reducible (first | assumption | exact Below.refl _ _ | refine bel_alloc ?_ _ | refine bel_drew ?_ | refine bel_drewN ?_ _ | refine bel_set ?_ (by first | omega | (simp; done) | (simp; omega)) _ | refine bel_trans ?_ (by assumption)) | assumption | refine bel_trans ?_ (by assumption)))
    clear hb1 p0 p1 p2 p3 p4 p5 p6 p7 p8 p9
    by_cases hz : z < 0
    · go_wp2
      go_ret
      exact ⟨rfl, by (repeat (first | with_reducible (first | assumption | exact Below.refl _ _ | refine bel_alloc ?_ _ | refine bel_drew ?_ | refine bel_drewN ?_ _ | refine bel_set ?_ (by first | omega | (simp; done) | (simp; omega)) _ | refine bel_trans ?_ (by assumption)) | assumption | refine bel_trans ?_ (by assumption)))⟩
    obtain ⟨p0, p1, p2, p3, p4, p5, p6, p7, p8, p9⟩ := kN1.out.cells10
    go_wp2_with fail
    refine (c_toReader k B s c en A cap w.heap.size _ (HP.out.below hB1 (Nat.le_refl _)) (by have := hB1.size; omega) hn).mono ?_
    rintro e w2 ⟨g2, rfl, hown2, hb2⟩
    go_wp2_with fail
    refine (HS.out _ _ _ _ (own_at hown2) (Nat.le_refl _)).mono ?_
    rintro e w3 ⟨rfl, hb3⟩
    have kN3 := hid ((kN1.out.on hb2).on hb3)
    have hB3 : Below w.heap.size w w3 := by (repeat (first | with_reducible (first | assumption | exact Below.refl _ _ | refine bel_alloc ?_ _ | refine bel_drew ?_ | refine bel_drewN ?_ _ | refine bel_set ?_ (by first | omega | (simp; done) | (simp; omega)) _ | refine bel_trans ?_ (by assumption)) | assumption | refine bel_trans ?_ (by assumption)))
    clear hb2 hb3 hown2 p0 p1 p2 p3 p4 p5 p6 p7 p8 p9
    obtain ⟨p0, p1, p2, p3, p4, p5, p6, p7, p8, p9⟩ := kN3.out.cells10
    go_wp2_with fail
    refine (c_toReader k B s c en A cap w.heap.size _ (HP.out.below hB3 (Nat.le_refl _)) (by have := hB3.size; omega) hn).mono ?_
    rintro e w4 ⟨g4, rfl, hown4, hb4⟩
    have kN4 := hid (kN3.out.on hb4)
    have hB4 : Below w.heap.size w w4 := by (repeat (first | with_reducible (first | assumption | exact Below.refl _ _ | refine bel_alloc ?_ _ | refine bel_drew ?_ | refine bel_drewN ?_ _ | refine bel_set ?_ (by first | omega | (simp; done) | (simp; omega)) _ | refine bel_trans ?_ (by assumption)) | assumption | refine bel_trans ?_ (by assumption)))
    have kX4 := hid (Blk.new w4 41 #[.int .i64 k.o, .int .i64 k.l, .int .i64 k.m, .slice (some ⟨g4, 0, none⟩) k.ps.length k.ps.length, .int .i64 k.base, .int .i64 k.last, .string B, .int .i64 s, .int .i64 c, .int .i64 en])
    clear hb4 p0 p1 p2 p3 p4 p5 p6 p7 p8 p9
    obtain ⟨p0, p1, p2, p3, p4, p5, p6, p7, p8, p9⟩ := kX4.out.cells10
    go_wp2_with fail
    refine (HI.out _ _ _ _ ((own_at hown4).alloc (Nat.le_refl _) _) (by simp) (bel_alloc hB4 _)).mono ?_
    rintro e w5 ⟨rfl, hb5⟩
    have kN5 := hid ((kN4.out.alloc (.cells #[.int .i64 k.o, .int .i64 k.l, .int .i64 k.m, .slice (some ⟨g4, 0, none⟩) k.ps.length k.ps.length, .int .i64 k.base, .int .i64 k.last, .string B, .int .i64 s, .int .i64 c, .int .i64 en] 41)).on hb5)
    have kX5 := hid (kX4.out.on hb5)
    have hB5 : Below w4.heap.size w4 w5 := by (repeat (first | with_reducible (first | assumption | exact Below.refl _ _ | refine bel_alloc ?_ _ | refine bel_drew ?_ | refine bel_drewN ?_ _ | refine bel_set ?_ (by first | omega | (simp; done) | (simp; omega)) _ | refine bel_trans ?_ (by assumption)) | assumption | refine bel_trans ?_ (by assumption)))
    clear hb5 p0 p1 p2 p3 p4 p5 p6 p7 p8 p9
    go_wp2_with fail
    have hS := held20 kN5.out.cells10 kX5.out.cells10 hB5
    refine wp_region_noPanic ?_
    refine wp_region_held_drew (S := (fun v => v.cell? ⟨w.heap.size, 0, none⟩ = some (.int .i64 k.o) ∧ v.cell? ⟨w.heap.size, 1, none⟩ = some (.int .i64 k.l) ∧ v.cell? ⟨w.heap.size, 2, none⟩ = some (.int .i64 k.m) ∧ v.cell? ⟨w.heap.size, 3, none⟩ = some (.slice A k.ps.length cap) ∧ v.cell? ⟨w.heap.size, 4, none⟩ = some (.int .i64 k.base) ∧ v.cell? ⟨w.heap.size, 5, none⟩ = some (.int .i64 k.last) ∧ v.cell? ⟨w.heap.size, 6, none⟩ = some (.string B) ∧ v.cell? ⟨w.heap.size, 7, none⟩ = some (.int .i64 s) ∧ v.cell? ⟨w.heap.size, 8, none⟩ = some (.int .i64 c) ∧ v.cell? ⟨w.heap.size, 9, none⟩ = some (.int .i64 en) ∧ v.cell? ⟨w4.heap.size, 0, none⟩ = some (.int .i64 k.o) ∧ v.cell? ⟨w4.heap.size, 1, none⟩ = some (.int .i64 k.l) ∧ v.cell? ⟨w4.heap.size, 2, none⟩ = some (.int .i64 k.m) ∧ v.cell? ⟨w4.heap.size, 3, none⟩ = some (.slice (some ⟨g4, 0, none⟩) k.ps.length k.ps.length) ∧ v.cell? ⟨w4.heap.size, 4, none⟩ = some (.int .i64 k.base) ∧ v.cell? ⟨w4.heap.size, 5, none⟩ = some (.int .i64 k.last) ∧ v.cell? ⟨w4.heap.size, 6, none⟩ = some (.string B) ∧ v.cell? ⟨w4.heap.size, 7, none⟩ = some (.int .i64 s) ∧ v.cell? ⟨w4.heap.size, 8, none⟩ = some (.int .i64 c) ∧ v.cell? ⟨w4.heap.size, 9, none⟩ = some (.int .i64 en) ∧ Below w4.heap.size w4 v)) (by kernel_rfl) (s20_drew hS) (fun hHeld => ?_)
    refine tk 0 ?_
    refine tk 1 ?_
    refine wpAnyH_ready (rs := [2]) (by kernel_rfl) (by simp) ?_
    refine AllReadyH.cons (o := ?or1_2) ?ir1_2 (fun K hK => ?sr1_2) AllReadyH.nil
    case ir1_2 => (simp only [List.getElem?_toArray, List.getElem?_cons_succ, List.getElem?_cons_zero]; rfl)
    (first | (go_simp; (first | (go_at_call 12; refine (c_toReader k B s c en A cap w.heap.size _ (HP.out.below (bel_trans hB4 hHeld.2.2.2.2.2.2.2.2.2.2.2.2.2.2.2.2.2.2.2.2) (Nat.le_refl _)) (bel_trans hB4 hHeld.2.2.2.2.2.2.2.2.2.2.2.2.2.2.2.2.2.2.2.2).size hn).mono ?_; rintro e w6 ⟨g6, rfl, hown6, hb6⟩) | (go_at_call 14; refine (c_eqReader k _ _ _ _ w4.heap.size _ _ ((own_at hown4).below hHeld.2.2.2.2.2.2.2.2.2.2.2.2.2.2.2.2.2.2.2.2 (Nat.le_refl _)) (own_at hown6) (hHeld.2.2.2.2.2.2.2.2.2.2.2.2.2.2.2.2.2.2.2.2).size (Nat.le_refl _) hn).mono ?_; rintro e w7 ⟨rfl, hb7⟩) | skip)))
    refine hK.out _ _ ?kr1_2 (fun hHeld => ?_)
    case kr1_2 => (try dsimp only); (first | with_reducible assumption | exact s20_bel (by assumption) (by assumption) | assumption | exact s20_alloc (by assumption) _)
    clear hK K
    try simp only [Act.put, List.setIfInBounds_toArray, List.set_cons_zero, List.set_cons_succ]
    refine wpAnyH_ready (rs := [3]) (by kernel_rfl) (by simp) ?_
    refine AllReadyH.cons (o := ?or1_3) ?ir1_3 (fun K hK => ?sr1_3) AllReadyH.nil
    case ir1_3 => (simp only [List.getElem?_toArray, List.getElem?_cons_succ, List.getElem?_cons_zero]; rfl)
    (first | (go_simp; (first | (go_at_call 12; refine (c_toReader k B s c en A cap w.heap.size _ (HP.out.below (bel_trans hB4 hHeld.2.2.2.2.2.2.2.2.2.2.2.2.2.2.2.2.2.2.2.2) (Nat.le_refl _)) (bel_trans hB4 hHeld.2.2.2.2.2.2.2.2.2.2.2.2.2.2.2.2.2.2.2.2).size hn).mono ?_; rintro e w6 ⟨g6, rfl, hown6, hb6⟩) | (go_at_call 14; refine (c_eqReader k _ _ _ _ w4.heap.size _ _ ((own_at hown4).below hHeld.2.2.2.2.2.2.2.2.2.2.2.2.2.2.2.2.2.2.2.2 (Nat.le_refl _)) (own_at hown6) (hHeld.2.2.2.2.2.2.2.2.2.2.2.2.2.2.2.2.2.2.2.2).size (Nat.le_refl _) hn).mono ?_; rintro e w7 ⟨rfl, hb7⟩) | skip)))
    refine hK.out _ _ ?kr1_3 (fun hHeld => ?_)
    case kr1_3 => (try dsimp only); (first | with_reducible assumption | exact s20_bel (by assumption) (by assumption) | assumption | exact s20_alloc (by assumption) _)
    clear hK K
    try simp only [Act.put, List.setIfInBounds_toArray, List.set_cons_zero, List.set_cons_succ]
    refine tk 4 ?_
    refine wpAnyH_done (by kernel_rfl) ?_ _
    refine NoPanic.normal ?_
    go_wp2
    go_ret
    exact ⟨rfl, by (repeat (first | with_reducible (first | assumption | exact Below.refl _ _ | refine bel_alloc ?_ _ | refine bel_drew ?_ | refine bel_drewN ?_ _ | refine bel_set ?_ (by first | omega | (simp; done) | (simp; omega)) _ | refine bel_trans ?_ (by assumption)) | assumption | refine bel_trans ?_ (by assumption)))⟩
  · have hb := hp.1
    have hcm := hp.2.1
    have HZ := hid (fun (v : World) => c_szReader_big k B s c en A cap v (by omega) (by omega))
    have kN0 := hid (Blk.new w 37 #[.int .i64 k.o, .int .i64 k.l, .int .i64 k.m, .slice A k.ps.length cap, .int .i64 k.base, .int .i64 k.last, .string B, .int .i64 s, .int .i64 c, .int .i64 en])
    clear hp hin hb hcm hs hc hen hB hTab
    go_enter Tryd.func4, Tryd.ntmps4
    obtain ⟨p0, p1, p2, p3, p4, p5, p6, p7, p8, p9⟩ := kN0.out.cells10
    go_wp2_with fail
    refine (HZ.out _).mono ?_
    rintro e w1 ⟨rfl, hb1⟩
    go_wp2
    go_ret
    exact ⟨rfl, by (repeat (first | with_reducible (first | assumption | exact Below.refl _ _ | refine bel_alloc ?_ _ | refine bel_drew ?_ | refine bel_drewN ?_ _ | refine bel_set ?_ (by first | omega | (simp; done) | (simp; omega)) _ | refine bel_trans ?_ (by assumption)) | assumption | refine bel_trans ?_ (by assumption)))⟩
end Go.Proofs.YtfjealhigckegaaDoor
