/- errors.Is where two errors differ; checkOf and CheckContainer in the program, and its law's walk. The layout of the header and the errors are as the program's text lays them, three different ones. -/
import Derived.Test.YtepbjmpbcobfpabDoorJk
import Derived.Test.YtepbjmpbcobfpabDoorJl
import Derived.Test.YtepbjmpbcobfpabDoorRa
import Derived.Stop.LaidErr
namespace Go.Proofs.YtepbjmpbcobfpabDoor
open Go.ChangeShapes Go.WideShapes Go.ChangeAt Go.RowKit Go.Joins Go.Extern.Stop Go.Stop Go.Extern
set_option linter.unusedVariables false
set_option linter.unusedSimpArgs false

/-- an error's own memory -/
def ErrMem (w : World) (a : Addr) : Prop := ∃ c t, w.heap[a.block]? = some (.cells c t (0, 0))
theorem ErrMem.on {w w' : World} {a : Addr} (h : ErrMem w a) (hb : Below w.heap.size w w') : ErrMem w' a := by
  obtain ⟨c, t, h⟩ := h
  exact ⟨c, t, (hb.block a.block (Array.getElem?_eq_some_iff.1 h).1).trans h⟩
/-- the three errors are there and differ -/
structure Glob3 (w : World) (a0 a1 a2 : Addr) : Prop where
  g : Glob w a0 a1 a2
  m0 : ErrMem w a0
  m1 : ErrMem w a1
  m2 : ErrMem w a2
  n01 : a0 ≠ a1
  n02 : a0 ≠ a2
  n12 : a1 ≠ a2
theorem Glob3.on {w w' : World} {a0 a1 a2 : Addr} (h : Glob3 w a0 a1 a2) (hb : Below w.heap.size w w') : Glob3 w' a0 a1 a2 :=
  ⟨h.g.on hb, h.m0.on hb, h.m1.on hb, h.m2.on hb, h.n01, h.n02, h.n12⟩
theorem A.noIs (v : Value) (xT : TypeId) (w : World) : (Instr.typeAssert (.iface 79 v) xT 71 true).run Tryd.prog w = .ok (.tuple #[.nilIface, .bool false]) w := run_typeAssert_lacksB Tryd.underlying71 (by kernel_rfl) (by kernel_rfl) v xT w
theorem A.noUn (v : Value) (xT : TypeId) (w : World) : (Instr.typeAssert (.iface 79 v) xT 74 true).run Tryd.prog w = .ok (.tuple #[.nilIface, .bool false]) w := run_typeAssert_lacksB Tryd.underlying74 (by kernel_rfl) (by kernel_rfl) v xT w
theorem A.noUns (v : Value) (xT : TypeId) (w : World) : (Instr.typeAssert (.iface 79 v) xT 76 true).run Tryd.prog w = .ok (.tuple #[.nilIface, .bool false]) w := run_typeAssert_lacksB Tryd.underlying76 (by kernel_rfl) (by kernel_rfl) v xT w

set_option maxRecDepth 100000 in
theorem c_isOther (a b : Addr) (w : World) (hne : a ≠ b) (ha : ErrMem w a) (hb : ErrMem w b) : Calls Tryd.prog 14 #[errV a, errV b] w fun e w' => e = .returned (.bool false) ∧ w' = w := by
  unfold errV
  obtain ⟨ca, ta, ha⟩ := ha
  obtain ⟨cb, tb, hb⟩ := hb
  have hTo := @run_callFunc_extern Tryd.prog 26 _ Extern.ReflectliteType.typeOf Tryd.func26 (by kernel_rfl) (by kernel_rfl) (by kernel_rfl) (by kernel_rfl)
  have hCo := @run_callFunc_extern Tryd.prog 53 _ (Go.Extern.ReflectliteType.method fun t => do Go.Extern.Rtype.noPackHeld "Comparable" t; pure (.bool (← typeInfo t).comparable)) Tryd.func53 (by kernel_rfl) (by kernel_rfl) (by kernel_rfl) (by kernel_rfl)
  have tT := A.isT
  have tC := A.isC
  have tM := A.isM
  have nE := A.noIs
  have uE := A.noUn
  have vE := A.noUns
  obtain ⟨i, hi, hcmp⟩ := Option.map_eq_some_iff.1 A.isComp
  obtain ⟨j, hj, hjs⟩ := Option.map_eq_some_iff.1 A.isSize
  have heq := run_eql_iface_ptr_other (P := Tryd.prog) w Tryd.underlying35 Tryd.underlying79 hi hcmp hj (by rw [hjs]; decide) hne ha hb
  go_enter Tryd.func14, Tryd.ntmps14
  go_wp2
  refine wp_loop_rounds 1 ?_
  rw [rounds_succ]
  go_wp2
  go_ret
  exact ⟨rfl, rfl⟩

set_option maxHeartbeats 4000000 in
set_option maxRecDepth 100000 in
theorem c_checkOf (c : Nat) (a0 a1 a2 : Addr) (w : World) (hc : c ≤ 3) (hG : Glob3 w a0 a1 a2) : Calls Tryd.prog 16 #[ecV a0 a1 a2 c] w fun e w' => e = .returned (.int .i64 (c : Nat)) ∧ Below w.heap.size w w' := by
  have HA := hid (fun a b hne ha hb => c_isOther a b w hne ha hb)
  have HB := hid (fun a => c_isSame a w)
  have g1 := hG.g.number
  have g2 := hG.g.long
  rcases (show c = 0 ∨ c = 1 ∨ c = 2 ∨ c = 3 by omega) with rfl | rfl | rfl | rfl
  · rw [show ecV a0 a1 a2 0 = .nilIface from rfl]
    clear hG g1 g2
    go_enter Tryd.func16, Tryd.ntmps16
    go_wp2_with fail
    go_ret
    exact ⟨rfl, Below.refl _ _⟩
  · rw [show ecV a0 a1 a2 1 = errV a0 from rfl]
    have H1 := hid (HA.out a0 a1 hG.n01 hG.m0 hG.m1)
    have H2 := hid (HA.out a0 a2 hG.n02 hG.m0 hG.m2)
    unfold errV at *
    clear hG HA HB
    go_enter Tryd.func16, Tryd.ntmps16
    go_wp2_with fail
    refine (H1.out).mono ?_
    rintro e w9 ⟨rfl, rfl⟩
    go_wp2_with fail
    refine (H2.out).mono ?_
    rintro e w9 ⟨rfl, rfl⟩
    go_wp2_with fail
    go_ret
    exact ⟨rfl, Below.refl _ _⟩
  · rw [show ecV a0 a1 a2 2 = errV a1 from rfl]
    have H1 := hid (HB.out a1)
    unfold errV at *
    clear hG HA HB
    go_enter Tryd.func16, Tryd.ntmps16
    go_wp2_with fail
    refine (H1.out).mono ?_
    rintro e w9 ⟨rfl, rfl⟩
    go_wp2_with fail
    go_ret
    exact ⟨rfl, Below.refl _ _⟩
  · rw [show ecV a0 a1 a2 3 = errV a2 from rfl]
    have H1 := hid (HA.out a2 a1 hG.n12.symm hG.m2 hG.m1)
    have H2 := hid (HB.out a2)
    unfold errV at *
    clear hG HA HB
    go_enter Tryd.func16, Tryd.ntmps16
    go_wp2_with fail
    refine (H1.out).mono ?_
    rintro e w9 ⟨rfl, rfl⟩
    go_wp2_with fail
    refine (H2.out).mono ?_
    rintro e w9 ⟨rfl, rfl⟩
    go_wp2_with fail
    go_ret
    exact ⟨rfl, Below.refl _ _⟩

set_option maxHeartbeats 4000000 in
set_option maxRecDepth 100000 in
theorem c_CheckContainer (S : ByteArray) (L : List UInt8) (bs : List Bl) (c : Nat) (w : World) (a0 a1 a2 : Addr) (hS : S.size ≤ 1000000000000) (hL : L = S.data.toList) (hst : Stop L bs c) (hG : Glob3 w a0 a1 a2) : Calls Tryd.prog 9 #[.string S] w fun e w' => e = .returned (.tuple #[.int .i64 (c : Nat), .int .i64 ((txt bs).length : Nat)]) ∧ Below w.heap.size w w' := by
  have hbW : Below w.heap.size w (w.alloc (.cells #[.slice none 0 0, .slice none 0 0, .int .i64 0, .int .i64 0] 44)) := bel_alloc (Below.refl _ w) _
  have HR := hid (c_readAll S L bs c w.heap.size w (w.alloc (.cells #[.slice none 0 0, .slice none 0 0, .int .i64 0, .int .i64 0] 44)) a0 a1 a2 hS hL hst hG.g hbW (Nat.le_refl _) (Blk.new w _ _))
  have HC := hid (fun (v : World) (hb : Below w.heap.size w v) => c_checkOf c a0 a1 a2 v hst.code (hG.on hb))
  clear hst hG hbW
  go_enter Tryd.func9, Tryd.ntmps9
  go_wp2_with fail
  refine (HR.out).mono ?_
  rintro e w1 ⟨u1, u2, rfl, hC, -, -, hb1⟩
  have hc2 := hC.cell 2
  have hS1 : w1.cell? ⟨w.heap.size, 2, none⟩ = some (.int .i64 ((txt bs).length : Nat)) ∧ Below w1.heap.size w1 w1 := ⟨hc2, Below.refl _ _⟩
  obtain ⟨E, hE⟩ : ∃ E, E = ecV a0 a1 a2 c := ⟨_, rfl⟩
  rw [← hE] at HC ⊢
  clear hC hc2 hE
  go_wp2_with fail
  refine qB (S := (fun v => v.cell? ⟨w.heap.size, 2, none⟩ = some (.int .i64 ((txt bs).length : Nat)) ∧ Below w1.heap.size w1 v)) (by kernel_rfl) (by kernel_rfl) (s1_drew hS1) ?_
  refine qK ?_
  refine qC (fun wq hSq => HC.out wq (hb1.trans (hSq.2.mono hb1.size))) (fun wq wr hbr hSq => s1_bel hbr hSq) ?_
  refine qK ?_
  refine qK ?_
  refine qK ?_
  refine qK ?_
  refine qK ?_
  refine qN ?_
  intro wq hSq
  (try dsimp only at hSq)
  have hbq := hb1.trans (hSq.2.mono hb1.size)
  go_wp2_with fail
  go_ret2
  exact ⟨rfl, hbq⟩

theorem walk_FnExactCheckContainer (S : ByteArray) (w : World) (h_S : S.size ≤ maxLen) {a0 a1 a2 : Addr} (hG : Glob3 w a0 a1 a2) :
    Calls Tryd.prog 4 #[.string S] w fun e w' => e = .returned (.bool true) ∧ Below w.heap.size w w' := by
  by_cases big : 1048576 < S.size
  · unfold maxLen at *
    go_enter Tryd.func4, Tryd.ntmps4
    go_wp2_with fail
    go_ret
    exact ⟨rfl, by (repeat (first | with_reducible (first | assumption | exact Below.refl _ _ | refine bel_alloc ?_ _ | refine bel_drew ?_ | refine bel_drewN ?_ _ | refine bel_set ?_ (by first | omega | (simp; done) | (simp; omega)) _ | refine bel_trans ?_ (by assumption)) | assumption | refine bel_trans ?_ (by assumption)))⟩
  obtain ⟨bs, c, hst⟩ := stop_ex S.data.toList
  have HS := hid (fun v => c_sCheckContainer S _ bs c v (by omega) rfl hst)
  have HI := hid (fun v (hG : Glob3 v a0 a1 a2) => c_CheckContainer S _ bs c v a0 a1 a2 (by omega) rfl hst hG)
  have HG := hid hG
  clear hst hG
  go_enter Tryd.func4, Tryd.ntmps4
  go_wp2_with fail
  refine (HS.out _).mono ?_
  rintro e w1 ⟨rfl, hb1⟩
  go_wp2_with fail
  refine (HI.out _ (HG.out.on hb1)).mono ?_
  rintro e w2 ⟨rfl, hb2⟩
  go_wp2_with fail
  go_ret
  exact ⟨by simp_all, by (repeat (first | with_reducible (first | assumption | exact Below.refl _ _ | refine bel_alloc ?_ _ | refine bel_drew ?_ | refine bel_drewN ?_ _ | refine bel_set ?_ (by first | omega | (simp; done) | (simp; omega)) _ | refine bel_trans ?_ (by assumption)) | assumption | refine bel_trans ?_ (by assumption)))⟩

/-- three sentinels at the head of what is listed: different pointers, each in memory of its own -/
theorem laid3 {P : Program} {n0 n1 n2 nm : String} {t0 t1 t2 : List UInt8} {r : List (String × DataW Unit)} {W : World} {g0 g1 g2 : Nat} {ti tp te ts : TypeId} {ms : Array (String × TypeId)} {f : Field}
    (h : laidMet P ((n0, .iface nm (.ptr (.agg [.lit (.string t0)]))) :: (n1, .iface nm (.ptr (.agg [.lit (.string t1)]))) :: (n2, .iface nm (.ptr (.agg [.lit (.string t2)]))) :: r) W)
    (hg0 : P.globalNamed n0 = some g0) (ht0 : (P.globals[g0]?).map (·.type) = some ti) (hg1 : P.globalNamed n1 = some g1) (ht1 : (P.globals[g1]?).map (·.type) = some ti) (hg2 : P.globalNamed n2 = some g2) (ht2 : (P.globals[g2]?).map (·.type) = some ti)
    (hi : P.underlying ti = some (.interface ms)) (hrow : ∀ u, P.typeName? 3 u = some nm → u = tp)
    (hp : P.underlying tp = some (.pointer te)) (he : P.underlying te = some (.struct #[f])) (hft : f.type = ts) (hfo : f.offset = 0) (hs : P.underlying ts = some .string) (hc : P.cellsOf te = 1) (hcs : P.cellsOf ts = 1) :
    ∃ a0 a1 a2 : Addr, W.var? P n0 = some #[.iface tp (.pointer (some a0))] ∧ W.var? P n1 = some #[.iface tp (.pointer (some a1))] ∧ W.var? P n2 = some #[.iface tp (.pointer (some a2))] ∧ a0 ≠ a1 ∧ a0 ≠ a2 ∧ a1 ≠ a2 ∧ ErrMem W a0 ∧ ErrMem W a1 ∧ ErrMem W a2 := by
  obtain ⟨ps, ⟨x0, y0, z0, f0, p0, q0, hx0, hy0, hv0, hd0, ⟨x1, y1, z1, f1, p1, q1, hx1, hy1, hv1, hd1, ⟨x2, y2, z2, f2, p2, q2, hx2, hy2, hv2, hd2, _, e2⟩, e1⟩, e0⟩, hnd, hrows⟩ := h
  obtain rfl := Option.some.inj (hg0.symm.trans hx0)
  obtain rfl := Option.some.inj (hg1.symm.trans hx1)
  obtain rfl := Option.some.inj (hg2.symm.trans hx2)
  obtain rfl := Option.some.inj (ht0.symm.trans hy0)
  obtain rfl := Option.some.inj (ht1.symm.trans hy1)
  obtain rfl := Option.some.inj (ht2.symm.trans hy2)
  subst e2
  subst e1
  subst e0
  obtain ⟨l0⟩ := z0
  obtain ⟨l1⟩ := z1
  obtain ⟨l2⟩ := z2
  have ok0 : ∀ u v, l0 = [.iface u v] → Value.okWide P W .any 0 u v := fun u v e => by
    subst e
    exact (hrows g0 0 (by simp [MemPlace.row])).2 u v (by simpa using World.var?_cell hx0 hv0 0)
  have ok1 : ∀ u v, l1 = [.iface u v] → Value.okWide P W .any 0 u v := fun u v e => by
    subst e
    exact (hrows g1 0 (by simp [MemPlace.row])).2 u v (by simpa using World.var?_cell hx1 hv1 0)
  have ok2 : ∀ u v, l2 = [.iface u v] → Value.okWide P W .any 0 u v := fun u v e => by
    subst e
    exact (hrows g2 0 (by simp [MemPlace.row])).2 u v (by simpa using World.var?_cell hx2 hv2 0)
  obtain ⟨a0, s0, rfl, -, -, -, rfl⟩ := errorString_of_trod hi hrow hp he hft hfo hs hc hcs hd0 ok0
  obtain ⟨a1, s1, rfl, -, -, -, rfl⟩ := errorString_of_trod hi hrow hp he hft hfo hs hc hcs hd1 ok1
  obtain ⟨a2, s2, rfl, -, -, -, rfl⟩ := errorString_of_trod hi hrow hp he hft hfo hs hc hcs hd2 ok2
  refine ⟨a0, a1, a2, hv0, hv1, hv2, ?_, ?_, ?_, (hrows a0.block a0.off (by simp [MemPlace.row])).1, (hrows a1.block a1.off (by simp [MemPlace.row])).1, (hrows a2.block a2.off (by simp [MemPlace.row])).1⟩
  · rintro rfl
    simp [MemPlace.row] at hnd
  · rintro rfl
    simp [MemPlace.row] at hnd
  · rintro rfl
    simp [MemPlace.row] at hnd
end Go.Proofs.YtepbjmpbcobfpabDoor
