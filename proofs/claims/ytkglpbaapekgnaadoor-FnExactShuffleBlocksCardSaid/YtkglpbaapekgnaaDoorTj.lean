/- readBoth in the program. The layout of the header and the errors are as the program's text lays them. -/
import Derived.Test.YtkglpbaapekgnaaDoorTi
namespace Go.Proofs.YtkglpbaapekgnaaDoor
open Go.ChangeShapes Go.WideShapes Go.ChangeAt Go.RowKit Go.Joins
set_option linter.unusedVariables false
set_option linter.unusedSimpArgs false

theorem own_far4 {w : World} {B : Nat} {e : TypeId} {k n G : Nat} {v : Value} {cs : List Value} (h : w.ownsRow B e k v n cs) (hG : G < B) (x0 x1 x2 x3 : Value) : ((((w.setCell ⟨G, 0, none⟩ x0).setCell ⟨G, 1, none⟩ x1).setCell ⟨G, 2, none⟩ x2).setCell ⟨G, 3, none⟩ x3).ownsRow B e k v n cs := by
  have hne : v.ownBlock ≠ some G := fun hh => by have := (h.lt G hh).1; omega
  exact ownsRow_setCell_other (ownsRow_setCell_other (ownsRow_setCell_other (ownsRow_setCell_other h (a := ⟨G, 0, none⟩) hne _) (a := ⟨G, 1, none⟩) hne _) (a := ⟨G, 2, none⟩) hne _) (a := ⟨G, 3, none⟩) hne _
theorem blk_far4 {w : World} {g R : Nat} {t : TypeId} {cs : Array Value} (h : Blk w g t cs) (hn : g ≠ R) (x0 x1 x2 x3 : Value) : Blk ((((w.setCell ⟨R, 0, none⟩ x0).setCell ⟨R, 1, none⟩ x1).setCell ⟨R, 2, none⟩ x2).setCell ⟨R, 3, none⟩ x3) g t cs := by
  have hh : ∀ {v : World} (i : Nat) (a : Value), Blk v g t cs → Blk (v.setCell ⟨R, i, none⟩ a) g t cs := fun i a h => h.grown (grown_set (grown_refl _ (some R)) i a) (by simp; omega)
  exact hh 3 _ (hh 2 _ (hh 1 _ (hh 0 _ h)))
theorem bel_set4 {G : Nat} {w0 w : World} (h : Below w0.heap.size w0 w) (hG : w0.heap.size ≤ G) (x0 x1 x2 x3 : Value) : Below w0.heap.size w0 ((((w.setCell ⟨G, 0, none⟩ x0).setCell ⟨G, 1, none⟩ x1).setCell ⟨G, 2, none⟩ x2).setCell ⟨G, 3, none⟩ x3) :=
  bel_set (bel_set (bel_set (bel_set h hG _) hG _) hG _) hG _

set_option maxHeartbeats 4000000 in
set_option maxRecDepth 100000 in
theorem c_readBoth_yes {S1 S2 : ByteArray} {L1 L2 : List UInt8} {x y : List Bl} {d1 d2 : Nat} {w : World} {a0 a1 a2 : Addr} (hS1 : S1.size ≤ 1000000000000) (hL1 : L1 = S1.data.toList) (hst1 : Stop L1 x d1) (hS2 : S2.size ≤ 1000000000000) (hL2 : L2 = S2.data.toList) (hst2 : Stop L2 y d2) (hG : Glob w a0 a1 a2) (h1 : d1 = 0) (h2 : d2 = 0) : Calls Tryd.prog 58 #[.string S1, .string S2] w fun e w' => ∃ A1 q1 B1 r1 A2 q2 B2 r2, e = .returned (.tuple #[.agg #[.slice A1 x.length q1, .slice B1 (pls x).length r1, .int .i64 ((txt x).length : Nat), .int .i64 (zs x : Nat)], .agg #[.slice A2 y.length q2, .slice B2 (pls y).length r2, .int .i64 ((txt y).length : Nat), .int .i64 (zs y : Nat)], .nilIface]) ∧ w'.ownsRow w.heap.size 27 4 (.slice A1 x.length q1) x.length (bvs x) ∧ w'.ownsRow w.heap.size 27 4 (.slice A2 y.length q2) y.length (bvs y) ∧ Below w.heap.size w w' := by
  subst h1
  subst h2
  have HA := hid (fun (v : World) (hG : Glob v a0 a1 a2) => c_rc_yes (w := v) hS1 hL1 hst1 hG)
  have HB := hid (fun (v : World) (hG : Glob v a0 a1 a2) => c_rc_yes (w := v) hS2 hL2 hst2 hG)
  clear hst1 hst2
  obtain ⟨V, hV⟩ : ∃ V, V = (w.alloc (.cells #[.slice none 0 0, .slice none 0 0, .int .i64 0, .int .i64 0] 60)).alloc (.cells #[.slice none 0 0, .slice none 0 0, .int .i64 0, .int .i64 0] 60) := ⟨_, rfl⟩
  have hbV : Below w.heap.size w V := by rw [hV]; exact bel_alloc (bel_alloc (Below.refl _ w) _) _
  have hzV : V.heap.size = w.heap.size + 1 + 1 := by rw [hV, World.size_alloc, World.size_alloc]
  have R0 : Blk V w.heap.size 60 #[.slice none 0 0, .slice none 0 0, .int .i64 0, .int .i64 0] := by rw [hV]; exact (Blk.new w _ _).alloc _
  have R1 : Blk V (w.heap.size + 1) 60 #[.slice none 0 0, .slice none 0 0, .int .i64 0, .int .i64 0] := by
    rw [hV]
    have := Blk.new (w.alloc (.cells #[.slice none 0 0, .slice none 0 0, .int .i64 0, .int .i64 0] 60)) 60 #[.slice none 0 0, .slice none 0 0, .int .i64 0, .int .i64 0]
    rw [World.size_alloc] at this
    exact this
  have HR0 := hid R0
  have HR1 := hid R1
  have HZV := hid hzV
  have HG := hid (hG.on hbV)
  clear R0 R1 hzV hG
  go_enter Tryd.func58, Tryd.ntmps58
  go_wp2_with fail
  rw [← hV]
  clear hV
  refine (HA.out _ HG.out).mono ?_
  rintro e w1 ⟨A1, q1, B1, r1, rfl, h1, -, hb1⟩
  have z1 := hb1.size
  have hc1 := h1
  clear h1
  have hRB := Blk.new w1 60 #[.slice none 0 0, .slice none 0 0, .int .i64 0, .int .i64 0]
  obtain ⟨s0, s1, s2, s3⟩ := hRB.cells4y
  have g0 := hRB.frozen 0
  have g1 := hRB.frozen 1
  have g2 := hRB.frozen 2
  have g3 := hRB.frozen 3
  clear hRB
  go_wp2_with fail
  clear s0 s1 s2 s3 g0 g1 g2 g3
  obtain ⟨V1, hV1⟩ : ∃ V1, V1 = w1.alloc (.cells #[.slice A1 x.length q1, .slice B1 (pls x).length r1, .int .i64 ((txt x).length : Nat), .int .i64 (zs x : Nat)] 60) := ⟨_, rfl⟩
  have hbV1 : Below w1.heap.size w1 V1 := by rw [hV1]; exact bel_alloc (Below.refl _ w1) _
  have C0 : Blk V1 w1.heap.size 60 #[.slice A1 x.length q1, .slice B1 (pls x).length r1, .int .i64 ((txt x).length : Nat), .int .i64 (zs x : Nat)] := by rw [hV1]; exact Blk.new w1 _ _
  have zV1 : V1.heap.size = w1.heap.size + 1 := by rw [hV1, World.size_alloc]
  rw [← hV1]
  clear hV1
  have hbW := hb1.trans (hbV1.mono z1)
  refine (HB.out _ (HG.out.on hbW)).mono ?_
  rintro e w2 ⟨A2, q2, B2, r2, rfl, h2, -, hb2⟩
  have z2 := hb2.size
  have hc2 := h2
  clear h2
  have hRB := Blk.new w2 60 #[.slice none 0 0, .slice none 0 0, .int .i64 0, .int .i64 0]
  obtain ⟨s0, s1, s2, s3⟩ := hRB.cells4y
  have g0 := hRB.frozen 0
  have g1 := hRB.frozen 1
  have g2 := hRB.frozen 2
  have g3 := hRB.frozen 3
  clear hRB
  have X0 := hid (HR0.out.below (hbW.trans (hb2.mono (by omega))) (by have := HZV.out; omega))
  have X1 := hid (HR1.out.below (hbW.trans (hb2.mono (by omega))) (by have := HZV.out; omega))
  have X2 := hid (C0.below hb2 (by omega))
  have hB := hbV.trans ((hbW.trans (hb2.mono (by omega))).mono hbV.size)
  have hc12 := own_on hc1 (hbV1.trans (hb2.mono (by omega)))
  clear hc1 C0 HA HB HG
  have hzV2 := HZV.out
  have hne1 : w.heap.size + 1 + 1 ≤ w1.heap.size := by omega
  have hne2 : w1.heap.size + 1 ≤ w2.heap.size := by omega
  have hne3 : w.heap.size + 1 + 1 ≤ V1.heap.size := by omega
  clear hbW hb2 hb1 hbV1 hbV z1 z2 zV1 HZV
  go_wp2_with fail
  clear s0 s1 s2 s3 g0 g1 g2 g3
  obtain ⟨V2, hV2⟩ : ∃ V2, V2 = w2.alloc (.cells #[.slice A2 y.length q2, .slice B2 (pls y).length r2, .int .i64 ((txt y).length : Nat), .int .i64 (zs y : Nat)] 60) := ⟨_, rfl⟩
  have hbV2 : Below w2.heap.size w2 V2 := by rw [hV2]; exact bel_alloc (Below.refl _ w2) _
  have X3 : Blk V2 w2.heap.size 60 #[.slice A2 y.length q2, .slice B2 (pls y).length r2, .int .i64 ((txt y).length : Nat), .int .i64 (zs y : Nat)] := by rw [hV2]; exact Blk.new w2 _ _
  have zV2 : w2.heap.size ≤ V2.heap.size := hbV2.size
  rw [← hV2]
  clear hV2
  have HB2 := hid (hB.trans (hbV2.mono (by omega)))
  have hc1 := hid (own_mono (B' := w.heap.size + 1 + 1) (own_on hc12 hbV2) (by omega))
  have hc3 := hid (own_mono (B' := w.heap.size + 1 + 1) (own_on hc2 hbV2) (by omega))
  have Y0 := X0.out.below hbV2 (by omega)
  have Y1 := X1.out.below hbV2 (by omega)
  have Y2 := X2.out.below hbV2 (by omega)
  clear X0 X1 X2 hB hbV2 hc12 hc2 zV2
  have HY0 := hid Y0
  have HY1 := hid Y1
  have hn0 : ¬ (w.heap.size = w.heap.size + 1) := by omega
  have hn1 : ¬ (w.heap.size = w1.heap.size) := by omega
  have hn2 : ¬ (w.heap.size = w2.heap.size) := by omega
  have hn3 : ¬ (w.heap.size + 1 = w1.heap.size) := by omega
  have hn4 : ¬ (w.heap.size + 1 = w2.heap.size) := by omega
  have hn5 : ¬ (w2.heap.size = w.heap.size) := by omega
  have hn6 : ¬ (w2.heap.size = w.heap.size + 1) := by omega
  obtain ⟨m0, hm0⟩ : ∃ m, m = w.heap.size := ⟨_, rfl⟩
  obtain ⟨s0, s1, s2, s3⟩ := Y0.cells4y
  obtain ⟨t0, t1, t2, t3⟩ := Y1.cells4y
  obtain ⟨u0, u1, u2, u3⟩ := Y2.cells4y
  obtain ⟨v0, v1, v2, v3⟩ := X3.cells4y
  have f0 := Y0.frozen 0
  have f1 := Y0.frozen 1
  have f2 := Y0.frozen 2
  have f3 := Y0.frozen 3
  have g0 := Y1.frozen 0
  have g1 := Y1.frozen 1
  have g2 := Y1.frozen 2
  have g3 := Y1.frozen 3
  clear Y0 Y1 Y2 X3
  go_region
  go_wp2_with fail
  obtain ⟨Wz, hWz⟩ : ∃ Wz, Wz = ((((((((V2.setCell ⟨w.heap.size, 0, none⟩ (.slice A1 x.length q1)).setCell ⟨w.heap.size, 1, none⟩ (.slice B1 (pls x).length r1)).setCell ⟨w.heap.size, 2, none⟩ (.int .i64 ((txt x).length : Nat))).setCell ⟨w.heap.size, 3, none⟩ (.int .i64 (zs x : Nat))).setCell ⟨w.heap.size + 1, 0, none⟩ (.slice A2 y.length q2)).setCell ⟨w.heap.size + 1, 1, none⟩ (.slice B2 (pls y).length r2)).setCell ⟨w.heap.size + 1, 2, none⟩ (.int .i64 ((txt y).length : Nat))).setCell ⟨w.heap.size + 1, 3, none⟩ (.int .i64 (zs y : Nat))).drew := ⟨_, rfl⟩
  rw [← hWz]
  have K0 : Blk Wz w.heap.size 60 #[.slice A1 x.length q1, .slice B1 (pls x).length r1, .int .i64 ((txt x).length : Nat), .int .i64 (zs x : Nat)] := by rw [hWz]; exact (blk_far4 (HY0.out.put4y _ _ _ _) (by omega) _ _ _ _).drew
  have K1 : Blk Wz (w.heap.size + 1) 60 #[.slice A2 y.length q2, .slice B2 (pls y).length r2, .int .i64 ((txt y).length : Nat), .int .i64 (zs y : Nat)] := by rw [hWz]; exact ((blk_far4 HY1.out (by omega) _ _ _ _).put4y _ _ _ _).drew
  have KB : Below w.heap.size w Wz := by rw [hWz]; exact bel_drew (bel_set4 (bel_set4 HB2.out (Nat.le_refl _) _ _ _ _) (by omega) _ _ _ _)
  have G1 : Wz.ownsRow w.heap.size 27 4 (.slice A1 x.length q1) x.length (bvs x) := by rw [hWz]; exact own_on (own_mono (own_far4 (own_far4 hc1.out (by omega) _ _ _ _) (by omega) _ _ _ _) (by omega)) (bel_drew (Below.refl _ _))
  have G2 : Wz.ownsRow w.heap.size 27 4 (.slice A2 y.length q2) y.length (bvs y) := by rw [hWz]; exact own_on (own_mono (own_far4 (own_far4 hc3.out (by omega) _ _ _ _) (by omega) _ _ _ _) (by omega)) (bel_drew (Below.refl _ _))
  clear hWz s0 s1 s2 s3 t0 t1 t2 t3 u0 u1 u2 u3 v0 v1 v2 v3 f0 f1 f2 f3 g0 g1 g2 g3
  obtain ⟨z0, z1, z2, z3⟩ := K0.cells4y
  obtain ⟨y0, y1, y2, y3⟩ := K1.cells4y
  exact bodyPost_ret (v := .tuple #[.agg #[.slice A1 x.length q1, .slice B1 (pls x).length r1, .int .i64 ((txt x).length : Nat), .int .i64 (zs x : Nat)], .agg #[.slice A2 y.length q2, .slice B2 (pls y).length r2, .int .i64 ((txt y).length : Nat), .int .i64 (zs y : Nat)], .nilIface]) (by simp [results, Tryd.results58, go_sem, z0, z1, z2, z3, y0, y1, y2, y3]) rfl ⟨_, _, _, _, _, _, _, _, rfl, G1, G2, KB⟩

set_option maxHeartbeats 4000000 in
set_option maxRecDepth 100000 in
theorem c_readBoth_no2 {S1 S2 : ByteArray} {L1 L2 : List UInt8} {x y : List Bl} {d1 d2 : Nat} {w : World} {a0 a1 a2 : Addr} (hS1 : S1.size ≤ 1000000000000) (hL1 : L1 = S1.data.toList) (hst1 : Stop L1 x d1) (hS2 : S2.size ≤ 1000000000000) (hL2 : L2 = S2.data.toList) (hst2 : Stop L2 y d2) (hG : Glob w a0 a1 a2) (h1 : d1 = 0) (h2 : ¬ d2 = 0) : Calls Tryd.prog 58 #[.string S1, .string S2] w fun e w' => ∃ A1 n1 q1 B1 m1 r1 t1 z1 A2 n2 q2 B2 m2 r2 t2 z2 xe, e = .returned (.tuple #[.agg #[.slice A1 n1 q1, .slice B1 m1 r1, .int .i64 t1, .int .i64 z1], .agg #[.slice A2 n2 q2, .slice B2 m2 r2, .int .i64 t2, .int .i64 z2], .iface 108 (.pointer (some xe))]) ∧ Below w.heap.size w w' := by
  subst h1
  have HA := hid (fun (v : World) (hG : Glob v a0 a1 a2) => c_rc_yes (w := v) hS1 hL1 hst1 hG)
  have HB := hid (fun (v : World) (hG : Glob v a0 a1 a2) => c_rc_no (w := v) hS2 hL2 hst2 h2 hG)
  clear hst1 hst2
  obtain ⟨V, hV⟩ : ∃ V, V = (w.alloc (.cells #[.slice none 0 0, .slice none 0 0, .int .i64 0, .int .i64 0] 60)).alloc (.cells #[.slice none 0 0, .slice none 0 0, .int .i64 0, .int .i64 0] 60) := ⟨_, rfl⟩
  have hbV : Below w.heap.size w V := by rw [hV]; exact bel_alloc (bel_alloc (Below.refl _ w) _) _
  have hzV : V.heap.size = w.heap.size + 1 + 1 := by rw [hV, World.size_alloc, World.size_alloc]
  have R0 : Blk V w.heap.size 60 #[.slice none 0 0, .slice none 0 0, .int .i64 0, .int .i64 0] := by rw [hV]; exact (Blk.new w _ _).alloc _
  have R1 : Blk V (w.heap.size + 1) 60 #[.slice none 0 0, .slice none 0 0, .int .i64 0, .int .i64 0] := by
    rw [hV]
    have := Blk.new (w.alloc (.cells #[.slice none 0 0, .slice none 0 0, .int .i64 0, .int .i64 0] 60)) 60 #[.slice none 0 0, .slice none 0 0, .int .i64 0, .int .i64 0]
    rw [World.size_alloc] at this
    exact this
  have HR0 := hid R0
  have HR1 := hid R1
  have HZV := hid hzV
  have HG := hid (hG.on hbV)
  clear R0 R1 hzV hG
  go_enter Tryd.func58, Tryd.ntmps58
  go_wp2_with fail
  rw [← hV]
  clear hV
  refine (HA.out _ HG.out).mono ?_
  rintro e w1 ⟨A1, q1, B1, r1, rfl, h1, -, hb1⟩
  have z1 := hb1.size
  have hc1 := h1
  clear h1
  have hRB := Blk.new w1 60 #[.slice none 0 0, .slice none 0 0, .int .i64 0, .int .i64 0]
  obtain ⟨s0, s1, s2, s3⟩ := hRB.cells4y
  have g0 := hRB.frozen 0
  have g1 := hRB.frozen 1
  have g2 := hRB.frozen 2
  have g3 := hRB.frozen 3
  clear hRB
  go_wp2_with fail
  clear s0 s1 s2 s3 g0 g1 g2 g3
  obtain ⟨V1, hV1⟩ : ∃ V1, V1 = w1.alloc (.cells #[.slice A1 x.length q1, .slice B1 (pls x).length r1, .int .i64 ((txt x).length : Nat), .int .i64 (zs x : Nat)] 60) := ⟨_, rfl⟩
  have hbV1 : Below w1.heap.size w1 V1 := by rw [hV1]; exact bel_alloc (Below.refl _ w1) _
  have C0 : Blk V1 w1.heap.size 60 #[.slice A1 x.length q1, .slice B1 (pls x).length r1, .int .i64 ((txt x).length : Nat), .int .i64 (zs x : Nat)] := by rw [hV1]; exact Blk.new w1 _ _
  have zV1 : V1.heap.size = w1.heap.size + 1 := by rw [hV1, World.size_alloc]
  rw [← hV1]
  clear hV1
  have hbW := hb1.trans (hbV1.mono z1)
  refine (HB.out _ (HG.out.on hbW)).mono ?_
  rintro e w2 ⟨xe, rfl, hb2⟩
  have z2 := hb2.size
  have hRB := Blk.new w2 60 #[.slice none 0 0, .slice none 0 0, .int .i64 0, .int .i64 0]
  obtain ⟨s0, s1, s2, s3⟩ := hRB.cells4y
  have g0 := hRB.frozen 0
  have g1 := hRB.frozen 1
  have g2 := hRB.frozen 2
  have g3 := hRB.frozen 3
  clear hRB
  have X0 := hid (HR0.out.below (hbW.trans (hb2.mono (by omega))) (by have := HZV.out; omega))
  have X1 := hid (HR1.out.below (hbW.trans (hb2.mono (by omega))) (by have := HZV.out; omega))
  have X2 := hid (C0.below hb2 (by omega))
  have hB := hbV.trans ((hbW.trans (hb2.mono (by omega))).mono hbV.size)
  clear hc1 C0 HA HB HG
  have hzV2 := HZV.out
  have hne1 : w.heap.size + 1 + 1 ≤ w1.heap.size := by omega
  have hne2 : w1.heap.size + 1 ≤ w2.heap.size := by omega
  have hne3 : w.heap.size + 1 + 1 ≤ V1.heap.size := by omega
  clear hbW hb2 hb1 hbV1 hbV z1 z2 zV1 HZV
  go_wp2_with fail
  clear s0 s1 s2 s3 g0 g1 g2 g3
  obtain ⟨V2, hV2⟩ : ∃ V2, V2 = w2.alloc (.cells #[.slice none 0 0, .slice none 0 0, .int .i64 0, .int .i64 0] 60) := ⟨_, rfl⟩
  have hbV2 : Below w2.heap.size w2 V2 := by rw [hV2]; exact bel_alloc (Below.refl _ w2) _
  have X3 : Blk V2 w2.heap.size 60 #[.slice none 0 0, .slice none 0 0, .int .i64 0, .int .i64 0] := by rw [hV2]; exact Blk.new w2 _ _
  have zV2 : w2.heap.size ≤ V2.heap.size := hbV2.size
  rw [← hV2]
  clear hV2
  have HB2 := hid (hB.trans (hbV2.mono (by omega)))
  have Y0 := X0.out.below hbV2 (by omega)
  have Y1 := X1.out.below hbV2 (by omega)
  have Y2 := X2.out.below hbV2 (by omega)
  clear X0 X1 X2 hB hbV2 zV2
  have HY0 := hid Y0
  have HY1 := hid Y1
  have hn0 : ¬ (w.heap.size = w.heap.size + 1) := by omega
  have hn1 : ¬ (w.heap.size = w1.heap.size) := by omega
  have hn2 : ¬ (w.heap.size = w2.heap.size) := by omega
  have hn3 : ¬ (w.heap.size + 1 = w1.heap.size) := by omega
  have hn4 : ¬ (w.heap.size + 1 = w2.heap.size) := by omega
  have hn5 : ¬ (w2.heap.size = w.heap.size) := by omega
  have hn6 : ¬ (w2.heap.size = w.heap.size + 1) := by omega
  obtain ⟨m0, hm0⟩ : ∃ m, m = w.heap.size := ⟨_, rfl⟩
  obtain ⟨s0, s1, s2, s3⟩ := Y0.cells4y
  obtain ⟨t0, t1, t2, t3⟩ := Y1.cells4y
  obtain ⟨u0, u1, u2, u3⟩ := Y2.cells4y
  obtain ⟨v0, v1, v2, v3⟩ := X3.cells4y
  have f0 := Y0.frozen 0
  have f1 := Y0.frozen 1
  have f2 := Y0.frozen 2
  have f3 := Y0.frozen 3
  have g0 := Y1.frozen 0
  have g1 := Y1.frozen 1
  have g2 := Y1.frozen 2
  have g3 := Y1.frozen 3
  clear Y0 Y1 Y2 X3
  go_region
  go_wp2_with fail
  obtain ⟨Wz, hWz⟩ : ∃ Wz, Wz = ((((((((V2.setCell ⟨w.heap.size, 0, none⟩ (.slice A1 x.length q1)).setCell ⟨w.heap.size, 1, none⟩ (.slice B1 (pls x).length r1)).setCell ⟨w.heap.size, 2, none⟩ (.int .i64 ((txt x).length : Nat))).setCell ⟨w.heap.size, 3, none⟩ (.int .i64 (zs x : Nat))).setCell ⟨w.heap.size + 1, 0, none⟩ (.slice none 0 0)).setCell ⟨w.heap.size + 1, 1, none⟩ (.slice none 0 0)).setCell ⟨w.heap.size + 1, 2, none⟩ (.int .i64 0)).setCell ⟨w.heap.size + 1, 3, none⟩ (.int .i64 0)).drew := ⟨_, rfl⟩
  rw [← hWz]
  have K0 : Blk Wz w.heap.size 60 #[.slice A1 x.length q1, .slice B1 (pls x).length r1, .int .i64 ((txt x).length : Nat), .int .i64 (zs x : Nat)] := by rw [hWz]; exact (blk_far4 (HY0.out.put4y _ _ _ _) (by omega) _ _ _ _).drew
  have K1 : Blk Wz (w.heap.size + 1) 60 #[.slice none 0 0, .slice none 0 0, .int .i64 0, .int .i64 0] := by rw [hWz]; exact ((blk_far4 HY1.out (by omega) _ _ _ _).put4y _ _ _ _).drew
  have KB : Below w.heap.size w Wz := by rw [hWz]; exact bel_drew (bel_set4 (bel_set4 HB2.out (Nat.le_refl _) _ _ _ _) (by omega) _ _ _ _)
  clear hWz s0 s1 s2 s3 t0 t1 t2 t3 u0 u1 u2 u3 v0 v1 v2 v3 f0 f1 f2 f3 g0 g1 g2 g3
  obtain ⟨z0, z1, z2, z3⟩ := K0.cells4y
  obtain ⟨y0, y1, y2, y3⟩ := K1.cells4y
  exact bodyPost_ret (v := .tuple #[.agg #[.slice A1 x.length q1, .slice B1 (pls x).length r1, .int .i64 ((txt x).length : Nat), .int .i64 (zs x : Nat)], .agg #[.slice none 0 0, .slice none 0 0, .int .i64 0, .int .i64 0], .iface 108 (.pointer (some xe))]) (by simp [results, Tryd.results58, go_sem, z0, z1, z2, z3, y0, y1, y2, y3]) rfl ⟨_, _, _, _, _, _, _, _, _, _, _, _, _, _, _, _, _, rfl, KB⟩

set_option maxHeartbeats 4000000 in
set_option maxRecDepth 100000 in
theorem c_readBoth_no1 {S1 S2 : ByteArray} {L1 L2 : List UInt8} {x y : List Bl} {d1 d2 : Nat} {w : World} {a0 a1 a2 : Addr} (hS1 : S1.size ≤ 1000000000000) (hL1 : L1 = S1.data.toList) (hst1 : Stop L1 x d1) (hS2 : S2.size ≤ 1000000000000) (hL2 : L2 = S2.data.toList) (hst2 : Stop L2 y d2) (hG : Glob w a0 a1 a2) (h1 : ¬ d1 = 0) : Calls Tryd.prog 58 #[.string S1, .string S2] w fun e w' => ∃ A1 n1 q1 B1 m1 r1 t1 z1 A2 n2 q2 B2 m2 r2 t2 z2 xe, e = .returned (.tuple #[.agg #[.slice A1 n1 q1, .slice B1 m1 r1, .int .i64 t1, .int .i64 z1], .agg #[.slice A2 n2 q2, .slice B2 m2 r2, .int .i64 t2, .int .i64 z2], .iface 108 (.pointer (some xe))]) ∧ Below w.heap.size w w' := by
  have HA := hid (fun (v : World) (hG : Glob v a0 a1 a2) => c_rc_no (w := v) hS1 hL1 hst1 h1 hG)
  clear hst1 hst2
  obtain ⟨V, hV⟩ : ∃ V, V = (w.alloc (.cells #[.slice none 0 0, .slice none 0 0, .int .i64 0, .int .i64 0] 60)).alloc (.cells #[.slice none 0 0, .slice none 0 0, .int .i64 0, .int .i64 0] 60) := ⟨_, rfl⟩
  have hbV : Below w.heap.size w V := by rw [hV]; exact bel_alloc (bel_alloc (Below.refl _ w) _) _
  have hzV : V.heap.size = w.heap.size + 1 + 1 := by rw [hV, World.size_alloc, World.size_alloc]
  have R0 : Blk V w.heap.size 60 #[.slice none 0 0, .slice none 0 0, .int .i64 0, .int .i64 0] := by rw [hV]; exact (Blk.new w _ _).alloc _
  have R1 : Blk V (w.heap.size + 1) 60 #[.slice none 0 0, .slice none 0 0, .int .i64 0, .int .i64 0] := by
    rw [hV]
    have := Blk.new (w.alloc (.cells #[.slice none 0 0, .slice none 0 0, .int .i64 0, .int .i64 0] 60)) 60 #[.slice none 0 0, .slice none 0 0, .int .i64 0, .int .i64 0]
    rw [World.size_alloc] at this
    exact this
  have HR0 := hid R0
  have HR1 := hid R1
  have HZV := hid hzV
  have HG := hid (hG.on hbV)
  clear R0 R1 hzV hG
  go_enter Tryd.func58, Tryd.ntmps58
  go_wp2_with fail
  rw [← hV]
  clear hV
  refine (HA.out _ HG.out).mono ?_
  rintro e w1 ⟨xe, rfl, hb1⟩
  have z1 := hb1.size
  have hRB := Blk.new w1 60 #[.slice none 0 0, .slice none 0 0, .int .i64 0, .int .i64 0]
  obtain ⟨s0, s1, s2, s3⟩ := hRB.cells4y
  have g0 := hRB.frozen 0
  have g1 := hRB.frozen 1
  have g2 := hRB.frozen 2
  have g3 := hRB.frozen 3
  clear hRB
  have hzV2 := HZV.out
  have X0 := HR0.out.below hb1 (by omega)
  have X1 := HR1.out.below hb1 (by omega)
  have hB := hbV.trans (hb1.mono (by omega))
  have Y0 := X0.alloc (.cells #[.slice none 0 0, .slice none 0 0, .int .i64 0, .int .i64 0] 60)
  have Y1 := X1.alloc (.cells #[.slice none 0 0, .slice none 0 0, .int .i64 0, .int .i64 0] 60)
  have HY0 := hid Y0
  have HY1 := hid Y1
  have HB2 := hid (bel_alloc hB (.cells #[.slice none 0 0, .slice none 0 0, .int .i64 0, .int .i64 0] 60))
  obtain ⟨p0, p1, p2, p3⟩ := Y0.cells4y
  obtain ⟨t0, t1, t2, t3⟩ := Y1.cells4y
  have f0 := Y0.frozen 0
  have f1 := Y0.frozen 1
  have f2 := Y0.frozen 2
  have f3 := Y0.frozen 3
  have k0 := Y1.frozen 0
  have k1 := Y1.frozen 1
  have k2 := Y1.frozen 2
  have k3 := Y1.frozen 3
  have hn0 : ¬ (w.heap.size = w.heap.size + 1) := by omega
  have hn1 : ¬ (w.heap.size = w1.heap.size) := by omega
  have hn3 : ¬ (w.heap.size + 1 = w1.heap.size) := by omega
  clear Y0 Y1 X0 X1 hB hb1 HA HG hbV
  go_wp2_with fail
  obtain ⟨Wz, hWz⟩ : ∃ Wz, Wz = ((((((((w1.alloc (.cells #[.slice none 0 0, .slice none 0 0, .int .i64 0, .int .i64 0] 60)).setCell ⟨w.heap.size, 0, none⟩ (.slice none 0 0)).setCell ⟨w.heap.size, 1, none⟩ (.slice none 0 0)).setCell ⟨w.heap.size, 2, none⟩ (.int .i64 0)).setCell ⟨w.heap.size, 3, none⟩ (.int .i64 0)).setCell ⟨w.heap.size + 1, 0, none⟩ (.slice none 0 0)).setCell ⟨w.heap.size + 1, 1, none⟩ (.slice none 0 0)).setCell ⟨w.heap.size + 1, 2, none⟩ (.int .i64 0)).setCell ⟨w.heap.size + 1, 3, none⟩ (.int .i64 0) := ⟨_, rfl⟩
  rw [← hWz]
  have K0 : Blk Wz w.heap.size 60 #[.slice none 0 0, .slice none 0 0, .int .i64 0, .int .i64 0] := by rw [hWz]; exact blk_far4 (HY0.out.put4y _ _ _ _) (by omega) _ _ _ _
  have K1 : Blk Wz (w.heap.size + 1) 60 #[.slice none 0 0, .slice none 0 0, .int .i64 0, .int .i64 0] := by rw [hWz]; exact (blk_far4 HY1.out (by omega) _ _ _ _).put4y _ _ _ _
  have KB : Below w.heap.size w Wz := by rw [hWz]; exact bel_set4 (bel_set4 HB2.out (Nat.le_refl _) _ _ _ _) (by omega) _ _ _ _
  clear hWz p0 p1 p2 p3 t0 t1 t2 t3 f0 f1 f2 f3 k0 k1 k2 k3
  obtain ⟨z0, z1, z2, z3⟩ := K0.cells4y
  obtain ⟨y0, y1, y2, y3⟩ := K1.cells4y
  exact bodyPost_ret (v := .tuple #[.agg #[.slice none 0 0, .slice none 0 0, .int .i64 0, .int .i64 0], .agg #[.slice none 0 0, .slice none 0 0, .int .i64 0, .int .i64 0], .iface 108 (.pointer (some xe))]) (by simp [results, Tryd.results58, go_sem, z0, z1, z2, z3, y0, y1, y2, y3]) rfl ⟨_, _, _, _, _, _, _, _, _, _, _, _, _, _, _, _, _, rfl, KB⟩

theorem c_readBoth_no {S1 S2 : ByteArray} {L1 L2 : List UInt8} {x y : List Bl} {d1 d2 : Nat} {w : World} {a0 a1 a2 : Addr} (hS1 : S1.size ≤ 1000000000000) (hL1 : L1 = S1.data.toList) (hst1 : Stop L1 x d1) (hS2 : S2.size ≤ 1000000000000) (hL2 : L2 = S2.data.toList) (hst2 : Stop L2 y d2) (hG : Glob w a0 a1 a2) (h : ¬ (d1 = 0 ∧ d2 = 0)) : Calls Tryd.prog 58 #[.string S1, .string S2] w fun e w' => ∃ A1 n1 q1 B1 m1 r1 t1 z1 A2 n2 q2 B2 m2 r2 t2 z2 xe, e = .returned (.tuple #[.agg #[.slice A1 n1 q1, .slice B1 m1 r1, .int .i64 t1, .int .i64 z1], .agg #[.slice A2 n2 q2, .slice B2 m2 r2, .int .i64 t2, .int .i64 z2], .iface 108 (.pointer (some xe))]) ∧ Below w.heap.size w w' := by
  by_cases h1 : d1 = 0
  · exact c_readBoth_no2 hS1 hL1 hst1 hS2 hL2 hst2 hG h1 (fun h2 => h ⟨h1, h2⟩)
  · exact c_readBoth_no1 hS1 hL1 hst1 hS2 hL2 hst2 hG h1
end Go.Proofs.YtkglpbaapekgnaaDoor
