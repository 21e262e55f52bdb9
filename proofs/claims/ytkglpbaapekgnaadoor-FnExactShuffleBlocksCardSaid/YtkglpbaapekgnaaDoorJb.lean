/- JoinContainers in both programs, and its law's walk. The layout of the header and the errors are as the program's text lays them. -/
import Derived.Test.YtkglpbaapekgnaaDoorJa
import Derived.Laws.AppendOwnNone
namespace Go.Proofs.YtkglpbaapekgnaaDoor
open Go.ChangeShapes Go.WideShapes Go.ChangeAt Go.RowKit Go.Joins
set_option linter.unusedVariables false
set_option linter.unusedSimpArgs false

/-- some of a row's blocks, as a slice -/
theorem BlsAt.part {w : World} {L q : Nat} {A : Option Addr} {l : List Bl} (h : BlsAt w L A q l) (f e m : Nat) (h1 : f ≤ e) (h2 : e ≤ l.length) (h3 : e ≤ m) (h4 : m ≤ q) : BlsAt w L (if m = f then A else A.map (·.add (f * 4))) (m - f) ((l.drop f).take (e - f)) := by
  refine ⟨by rw [List.length_take, List.length_drop]; omega, by have := h.2.1; omega, fun hA => ?_, fun hl => ?_⟩
  · by_cases hmf : m = f
    · omega
    · rw [if_neg hmf] at hA
      have : A = none := by simpa using hA
      have := h.2.2.1 this
      omega
  · rw [List.length_take, List.length_drop] at hl
    obtain ⟨g, off, rfl, hg, hc⟩ := h.2.2.2 (by omega)
    refine ⟨g, off + f * 4, ?_, hg, fun i b hi => ?_⟩
    · rw [if_neg (by omega), Option.map_some]
      simp [Addr.add]
    · have hlt := get_lt hi
      rw [List.length_take, List.length_drop] at hlt
      rw [List.getElem?_take_of_lt (by omega), List.getElem?_drop] at hi
      have := hc (f + i) b hi
      rw [show off + f * 4 + i * 4 = off + (f + i) * 4 from by omega]
      exact this
theorem bls_ty : Tryd.prog.underlying 37 = some (.slice (Tryd.prog.elem 37)) := by
  rw [show Tryd.prog.elem 37 = 27 from by kernel_rfl]
  exact Tryd.underlying37
theorem blsl_elem : Tryd.prog.elem 37 = 27 := by kernel_rfl
theorem cut3 (A : Option Addr) (n q f e : Nat) (h1 : f ≤ e) (h2 : e ≤ q) (W : World) : (Instr.slice 37 (.slice A n q) (some (.int .i64 (f : Int))) (some (.int .i64 (e : Int))) (some (.int .i64 (e : Int)))).run Tryd.prog W = .ok (.slice (if e = f then A else A.map (·.add (f * 4))) (e - f) (e - f)) W := by
  rw [run_slice_lhm (P := Tryd.prog) W 37 A n q bls_ty .i64 .i64 .i64 f e e (by omega) (by omega) (by omega) (by omega), blsl_elem, blk_size]
  simp [sliced]
theorem cut2 (A : Option Addr) (n q f e : Nat) (h1 : f ≤ e) (h2 : e ≤ q) (W : World) : (Instr.slice 37 (.slice A n q) (some (.int .i64 (f : Int))) (some (.int .i64 (e : Int))) none).run Tryd.prog W = .ok (.slice (if q = f then A else A.map (·.add (f * 4))) (e - f) (q - f)) W := by
  rw [run_slice_lh (P := Tryd.prog) W 37 A n q bls_ty .i64 .i64 f e (by omega) (by omega) (by omega), blsl_elem, blk_size]
  simp [sliced]

def keepV (w : World) : Value := .func (.func 84) #[] #[.pointer (some ⟨w.heap.size, 0, none⟩)]
def keepA (A : Option Addr) (f e : Nat) : Option Addr := if e = f then A else A.map (·.add (f * 4))
theorem c_keep (cb n q f e : Nat) (A : Option Addr) (x1 x2 x3 : Value) (w : World) (h : Blk w cb 60 #[.slice A n q, x1, x2, x3]) (h1 : f ≤ e) (h2 : e ≤ q) : Calls Tryd.prog 62 #[.pointer (some ⟨cb, 0, none⟩), .int .i64 (f : Int), .int .i64 (e : Int)] w fun r w' => r = .returned (keepV w) ∧ w' = w.alloc (.cells #[.slice (keepA A f e) (e - f) (e - f)] 37) := by
  have hc := h.cell 0
  have hsl := cut3 A n q f e h1 h2
  obtain ⟨A', hA'⟩ : ∃ A', A' = keepA A f e := ⟨_, rfl⟩
  rw [show (if e = f then A else A.map (·.add (f * 4))) = A' from hA'.symm] at hsl
  rw [← hA']
  have hmf : ∀ (fn : Fn) (first cap : Array Value) (w : World), (Instr.makeFunc fn first cap).run Tryd.prog w = .ok (.func fn first cap) w := fun _ _ _ _ => rfl
  clear hA' h
  go_enter Tryd.func62, Tryd.ntmps62
  go_wp2_with fail
  go_ret
  exact ⟨rfl, rfl⟩

theorem c_keepAll (cb n q : Nat) (A : Option Addr) (x1 x2 x3 : Value) (w : World) (h : Blk w cb 60 #[.slice A n q, x1, x2, x3]) (h2 : n ≤ q) : Calls Tryd.prog 60 #[.pointer (some ⟨cb, 0, none⟩)] w fun r w' => r = .returned (keepV w) ∧ w' = w.alloc (.cells #[.slice (keepA A 0 n) n n] 37) := by
  have HK := hid (c_keep cb n q 0 n A x1 x2 x3 w h (Nat.zero_le _) h2)
  have hc := h.cell 0
  clear h
  go_enter Tryd.func60, Tryd.ntmps60
  go_wp2_with fail
  refine (HK.out).mono ?_
  rintro e w1 ⟨rfl, rfl⟩
  go_wp2_with fail
  go_ret
  exact ⟨rfl, rfl⟩

set_option maxHeartbeats 4000000 in
set_option maxRecDepth 100000 in
theorem c_JoinContainers_yes {S1 S2 : ByteArray} {L1 L2 : List UInt8} {x y : List Bl} {d1 d2 : Nat} {w : World} {a0 a1 a2 : Addr} (hS1 : S1.size ≤ 1000000000000) (hL1 : L1 = S1.data.toList) (hst1 : Stop L1 x d1) (hS2 : S2.size ≤ 1000000000000) (hL2 : L2 = S2.data.toList) (hst2 : Stop L2 y d2) (hG : Glob w a0 a1 a2) (h1 : d1 = 0) (h2 : d2 = 0) : Calls Tryd.prog 37 #[.string S1, .string S2] w fun e w' => e = .returned (.tuple #[.string (edS (x ++ y)), .bool (edO (x ++ y))]) ∧ Below w.heap.size w w' := by
  have hx40 := hst1.brd.len_le
  have hy40 := hst2.brd.len_le
  have hokx := hst1.brd.okAll
  have hoky := hst2.brd.okAll
  have HA := hid (c_readBoth_yes hS1 hL1 hst1 hS2 hL2 hst2 hG h1 h2)
  have HCO := hid (fun (v : World) (eb : Nat) (cap : Nat) (P1 P2 : Nat) (B1 B2 : Option Addr) (hb : Below w.heap.size w v) (hE : EdsAt v v.heap.size eb 0 [⟨P1, B1, x.length, x⟩, ⟨P2, B2, y.length, y⟩]) => show Calls Tryd.prog 59 #[.slice (some ⟨eb, 0, none⟩) 2 cap] v (fun e w' => e = .returned (.tuple #[.string (edS (x ++ y)), .bool (edO (x ++ y))]) ∧ Below v.heap.size v w') by
    have h3 := c_containerOf eb 0 cap v.heap.size _ v hE (Nat.le_refl _) (by simp) (by
      intro e he
      simp at he
      rcases he with rfl | rfl
      · exact hx40
      · exact hy40) (by
      intro b hb
      simp [cat] at hb
      rcases hb with hb | hb
      · exact hokx b hb
      · exact hoky b hb) (hG.lay.on hb)
    have hcat : cat [⟨P1, B1, x.length, x⟩, ⟨P2, B2, y.length, y⟩] = x ++ y := by simp [cat]
    rw [hcat] at h3
    exact h3)
  have hmf : ∀ (fn : Fn) (first cap : Array Value) (w : World), (Instr.makeFunc fn first cap).run Tryd.prog w = .ok (.func fn first cap) w := fun _ _ _ _ => rfl
  clear hst1 hst2 hG h1 h2 hokx hoky
  go_enter Tryd.func37, Tryd.ntmps37
  go_wp2_with fail
  refine (HA.out).mono ?_
  rintro e w1 ⟨A1, q1, B1, r1, A2, q2, B2, r2, rfl, o1, o2, hb1⟩
  have hx := own_blsq o1
  have hy := own_blsq o2
  have z1 := hb1.size
  clear o1 o2
  have hR1 := Blk.new w1 60 #[.slice none 0 0, .slice none 0 0, .int .i64 0, .int .i64 0]
  obtain ⟨s0, s1, s2, s3⟩ := hR1.cells4y
  have g0 := hR1.frozen 0
  have g1 := hR1.frozen 1
  have g2 := hR1.frozen 2
  have g3 := hR1.frozen 3
  clear hR1
  go_wp2_with fail
  clear s0 s1 s2 s3 g0 g1 g2 g3
  obtain ⟨V0, hV0⟩ : ∃ V0, V0 = w1.alloc (.cells #[.slice A1 x.length q1, .slice B1 (pls x).length r1, .int .i64 ((txt x).length : Nat), .int .i64 (zs x : Nat)] 60) := ⟨_, rfl⟩
  obtain ⟨V1, hV1⟩ : ∃ V1, V1 = V0.alloc (.cells #[.slice A2 y.length q2, .slice B2 (pls y).length r2, .int .i64 ((txt y).length : Nat), .int .i64 (zs y : Nat)] 60) := ⟨_, rfl⟩
  have hbV0 : Below w1.heap.size w1 V0 := by rw [hV0]; exact bel_alloc (Below.refl _ w1) _
  have zV0 : V0.heap.size = w1.heap.size + 1 := by rw [hV0, World.size_alloc]
  have hbV1 : Below V0.heap.size V0 V1 := by rw [hV1]; exact bel_alloc (Below.refl _ V0) _
  have zV1 : V1.heap.size = w1.heap.size + 1 + 1 := by rw [hV1, World.size_alloc, zV0]
  have X0 : Blk V1 w1.heap.size 60 #[.slice A1 x.length q1, .slice B1 (pls x).length r1, .int .i64 ((txt x).length : Nat), .int .i64 (zs x : Nat)] := by rw [hV1, hV0]; exact (Blk.new w1 _ _).alloc _
  have X1 : Blk V1 (w1.heap.size + 1) 60 #[.slice A2 y.length q2, .slice B2 (pls y).length r2, .int .i64 ((txt y).length : Nat), .int .i64 (zs y : Nat)] := by
    rw [hV1, ← zV0]; exact Blk.new V0 _ _
  rw [← hV0, ← hV1]
  have hb01 := hbV0.trans (hbV1.mono (by omega))
  have hbW := hb1.trans (hb01.mono z1)
  have hqx := hx.1
  have hqy := hy.1
  have hx1 := hx.below hb01 (Nat.le_refl _)
  have hy1 := hy.below hb01 (Nat.le_refl _)
  have hle : w1.heap.size + 1 + 1 ≤ V1.heap.size := by omega
  clear hV0 hV1 hbV0 hbV1 hx hy hb1 zV0 hb01 zV1
  refine (c_keepAll w1.heap.size x.length q1 A1 _ _ _ V1 X0 hqx).mono ?_
  rintro e V2 ⟨rfl, hV2⟩
  have X2 : Blk V2 (w1.heap.size + 1) 60 #[.slice A2 y.length q2, .slice B2 (pls y).length r2, .int .i64 ((txt y).length : Nat), .int .i64 (zs y : Nat)] := by rw [hV2]; exact X1.alloc _
  have hb2 : Below V1.heap.size V1 V2 := by rw [hV2]; exact bel_alloc (Below.refl _ V1) _
  have P2 : Blk V2 V1.heap.size 37 #[.slice (keepA A1 0 x.length) x.length x.length] := by rw [hV2]; exact Blk.new V1 _ _
  have P2s := hid (Array.getElem?_eq_some_iff.1 P2).1
  clear hV2 X0 X1
  unfold keepV
  go_wp2_with fail
  refine (c_keepAll (w1.heap.size + 1) y.length q2 A2 _ _ _ V2 X2 hqy).mono ?_
  rintro e V3 ⟨rfl, hV3⟩
  have hb3 : Below V2.heap.size V2 V3 := by rw [hV3]; exact bel_alloc (Below.refl _ V2) _
  have P3 : Blk V3 V2.heap.size 37 #[.slice (keepA A2 0 y.length) y.length y.length] := by rw [hV3]; exact Blk.new V2 _ _
  have P23 : Blk V3 V1.heap.size 37 #[.slice (keepA A1 0 x.length) x.length x.length] := by rw [hV3]; exact P2.alloc _
  clear hV3 X2 P2
  unfold keepV
  go_wp2_with fail
  have z2 := hb2.size
  have z3 := hb3.size
  have zS2 : V1.heap.size < V2.heap.size := P2s.out
  obtain ⟨V4, hV4⟩ : ∃ V4, V4 = V3.alloc (.cells #[.func (.func 84) #[] #[.pointer (some ⟨V1.heap.size, 0, none⟩)], .func (.func 84) #[] #[.pointer (some ⟨V2.heap.size, 0, none⟩)]] 75) := ⟨_, rfl⟩
  have hb4 : Below V3.heap.size V3 V4 := by rw [hV4]; exact bel_alloc (Below.refl _ V3) _
  have P4 : Blk V4 V3.heap.size 75 #[.func (.func 84) #[] #[.pointer (some ⟨V1.heap.size, 0, none⟩)], .func (.func 84) #[] #[.pointer (some ⟨V2.heap.size, 0, none⟩)]] := by rw [hV4]; exact Blk.new V3 _ _
  have P34 := P3.below hb4 (by have := (Array.getElem?_eq_some_iff.1 P3).1; omega)
  have P24 := P23.below hb4 (by have := (Array.getElem?_eq_some_iff.1 P23).1; omega)
  have z4 := hb4.size
  have l4 := (Array.getElem?_eq_some_iff.1 P4).1
  have l34 := (Array.getElem?_eq_some_iff.1 P34).1
  have l24 := (Array.getElem?_eq_some_iff.1 P24).1
  rw [← hV4]
  have hb14 : Below w1.heap.size V1 V4 := (hb2.mono (by omega)).trans ((hb3.mono (by omega)).trans (hb4.mono (by omega)))
  have hbW4 := hbW.trans (hb14.mono z1)
  have hx4 := ((hx1.below hb14 (Nat.le_refl _)).up (L' := V4.heap.size) (by omega)).part 0 x.length x.length (Nat.zero_le _) (Nat.le_refl _) (Nat.le_refl _) hqx
  have hy4 := ((hy1.below hb14 (Nat.le_refl _)).up (L' := V4.heap.size) (by omega)).part 0 y.length y.length (Nat.zero_le _) (Nat.le_refl _) (Nat.le_refl _) hqy
  rw [List.drop_zero, Nat.sub_zero, List.take_length] at hx4 hy4
  have hEd : EdsAt V4 V4.heap.size V3.heap.size 0 [⟨V1.heap.size, keepA A1 0 x.length, x.length, x⟩, ⟨V2.heap.size, keepA A2 0 y.length, y.length, y⟩] := by
    refine ⟨l4, fun i e he => ?_⟩
    have hi := get_lt he
    simp at hi
    rcases (show i = 0 ∨ i = 1 by omega) with rfl | rfl
    · obtain rfl := Option.some.inj he
      exact ⟨P4.cell 0, P24.cell 0, l24, hx4⟩
    · obtain rfl := Option.some.inj he
      exact ⟨P4.cell 1, P34.cell 0, l34, hy4⟩
  refine (HCO.out V4 V3.heap.size 2 _ _ _ _ hbW4 hEd).mono ?_
  rintro e w5 ⟨rfl, hb5⟩
  clear hEd P4 P34 P24 hx4 hy4 hV4
  go_wp2_with fail
  go_ret2
  exact ⟨rfl, hbW4.trans (hb5.mono hbW4.size)⟩

set_option maxHeartbeats 4000000 in
set_option maxRecDepth 100000 in
theorem c_JoinContainers_no {S1 S2 : ByteArray} {L1 L2 : List UInt8} {x y : List Bl} {d1 d2 : Nat} {w : World} {a0 a1 a2 : Addr} (hS1 : S1.size ≤ 1000000000000) (hL1 : L1 = S1.data.toList) (hst1 : Stop L1 x d1) (hS2 : S2.size ≤ 1000000000000) (hL2 : L2 = S2.data.toList) (hst2 : Stop L2 y d2) (hG : Glob w a0 a1 a2) (h : ¬ (d1 = 0 ∧ d2 = 0)) : Calls Tryd.prog 37 #[.string S1, .string S2] w fun e w' => e = .returned (.tuple #[.string ByteArray.empty, .bool false]) ∧ Below w.heap.size w w' := by
  have HA := hid (c_readBoth_no hS1 hL1 hst1 hS2 hL2 hst2 hG h)
  clear hst1 hst2 hG h
  go_enter Tryd.func37, Tryd.ntmps37
  go_wp2_with fail
  refine (HA.out).mono ?_
  rintro e w1 ⟨A1, n1, q1, B1, m1, r1, t1, z1, A2, n2, q2, B2, m2, r2, t2, z2, xe, rfl, hb1⟩
  have hR1 := Blk.new w1 60 #[.slice none 0 0, .slice none 0 0, .int .i64 0, .int .i64 0]
  obtain ⟨s0, s1, s2, s3⟩ := hR1.cells4y
  have g0 := hR1.frozen 0
  have g1 := hR1.frozen 1
  have g2 := hR1.frozen 2
  have g3 := hR1.frozen 3
  clear hR1
  go_wp2_with fail
  go_ret2
  exact ⟨rfl, by (repeat (first | with_reducible (first | assumption | exact Below.refl _ _ | refine bel_alloc ?_ _ | refine bel_drew ?_ | refine bel_drewN ?_ _ | refine bel_set ?_ (by first | omega | (simp; done) | (simp; omega)) _ | refine bel_trans ?_ (by assumption)) | assumption | refine bel_trans ?_ (by assumption)))⟩

/-- a row of blocks behind another one -/
theorem app_bls {P : Program} {w : World} {ops : Array Oper} {rest : List Oper} {o : Oper} {a : Act} {Q : Exit → Act → World → Prop} (hgd : o.guard = none) (s x : Operand) (t : TypeId)
    (ho : o.op = .call { callee := .builtin .append, args := #[s, x], argTypes := #[t, t] }) (B : Nat) (e : TypeId) (ht : P.underlying t = some (.slice e))
    (hinfo : (P.info? e).map (fun i => (i.zero, i.size, i.bytes)) = some (some (.agg #[.int .i64 0, .bool false, .int .i64 0, .string ByteArray.empty]), 4, 40)) (v : Value) (n : Nat) (l : List Bl) (hs : a.eval s = v) (hown : w.ownsRow B e 4 v n (bvs l)) (A : Option Addr) (q L : Nat) (y : List Bl)
    (hx : a.eval x = .slice A y.length q) (hy : BlsAt w L A q y) (hn : n + y.length ≤ 1000000000) (hB : B ≤ w.heap.size)
    (h : ∀ v' w', w'.ownsRow B e 4 v' (n + y.length) (bvs (l ++ y)) → Below B w w' → wpList P ops Q rest (a.put o.dst v') w') : wpList P ops Q (o :: rest) a w := by
  obtain ⟨i0, hi, hz0, hz1, hz2⟩ := info_parts hinfo
  cases A with
  | none =>
    have hq := hy.2.2.1 rfl
    have hl := hy.1
    have hy0 : y = [] := List.eq_nil_of_length_eq_zero (by omega)
    subst hy0
    subst hq
    refine wpList_append_own_none hgd s x t ho B e i0 4 ht hi v n (bvs l) hs hown hx ?_
    exact h v w (by simpa using hown) (Below.refl _ _)
  | some ad =>
    refine wpList_append_own w hgd s x t ho B e i0 (.agg #[.int .i64 0, .bool false, .int .i64 0, .string ByteArray.empty]) 4 40 ht hi hz0 hz1 hz2 rfl (by decide) v n (bvs l) hs hown ad y.length q (bvs y) hx (bvs_len y) ?_ (bvs_one y) (by unfold maxLen; omega) (by omega) hB ?_
    · intro j u hj
      by_cases hl : 0 < y.length
      · obtain ⟨g, off, e, hc⟩ := bls_cells hy hl
        obtain rfl := Option.some.inj e
        exact hc j u hj
      · have hy0 : y = [] := List.eq_nil_of_length_eq_zero (by omega)
        subst hy0
        simp [bvs] at hj
    · intro v' w' hown' hg _
      exact h v' w' (by rw [bvs_append]; exact hown') (below_of_grown hg hB (fun g hg => (hown.lt g hg).1))

set_option maxHeartbeats 4000000 in
set_option maxRecDepth 100000 in
theorem c_sJoin_yes (S1 S2 : ByteArray) (L1 L2 : List UInt8) (x y : List Bl) (d1 d2 : Nat) (w : World) (hS1 : S1.size ≤ 1000000000000) (hL1 : L1 = S1.data.toList) (hst1 : Stop L1 x d1) (hS2 : S2.size ≤ 1000000000000) (hL2 : L2 = S2.data.toList) (hst2 : Stop L2 y d2) (h1 : d1 = 0) (h2 : d2 = 0) : Calls Tryd.prog 36 #[.string S1, .string S2] w fun e w' => e = .returned (.tuple #[.string (edS (x ++ y)), .bool (edO (x ++ y))]) ∧ Below w.heap.size w w' := by
  have HB1 := hid (c_l5Blocks S1 L1 x d1 w hS1 hL1 hst1)
  have HB2 := hid (fun v => c_l5Blocks S2 L2 y d2 v hS2 hL2 hst2)
  have hx40 := hst1.brd.len_le
  have hy40 := hst2.brd.len_le
  have hokx := hst1.brd.okAll
  have hoky := hst2.brd.okAll
  rw [if_pos h1, decide_eq_true h1] at HB1
  rw [if_pos h2, decide_eq_true h2] at HB2
  have HR := hid (fun (v : World) (A : Option Addr) (cap : Nat) (hb : BlsAt v v.heap.size A cap (x ++ y)) => c_l6Result A cap (x ++ y) v.heap.size v hb (Nat.le_refl _) (by rw [List.length_append]; omega) (fun b hb => by
    rcases List.mem_append.1 hb with hb | hb
    · exact hokx b hb
    · exact hoky b hb))
  clear hst1 hst2 h1 h2 hokx hoky
  go_enter Tryd.func36, Tryd.ntmps36
  go_wp2_with fail
  refine (HB1.out).mono ?_
  rintro e w1 ⟨v1, rfl, own1, hb1⟩
  have z1 := hb1.size
  go_wp2_with fail
  refine (HB2.out _).mono ?_
  rintro e w2 ⟨v2, rfl, own2, hb2⟩
  obtain ⟨A2, q2, rfl, -, -⟩ := own_bls own2
  have z2 := hb2.size
  have HY := hid (own_blsq own2)
  have HO1 := hid (own_on own1 hb2)
  have hb := hb1.trans (hb2.mono z1)
  have hz := hb.size
  clear own1 own2 hb1 hb2
  go_wp2_with (at_builtin; refine app_bls rfl _ _ 37 rfl w.heap.size 27 Tryd.underlying37 Tryd.info_block _ x.length x rfl HO1.out A2 q2 w2.heap.size y rfl HY.out (by omega) hz ?_; intro v3 w3 hown3 hb3)
  obtain ⟨A3, q3, rfl, hat3, -⟩ := own_bls hown3
  have HAt := hid hat3
  have hb4 := hb.trans hb3
  clear hown3 hat3
  go_wp2_with fail
  refine (HR.out w3 A3 q3 HAt.out).mono ?_
  rintro e w4 ⟨rfl, hb5⟩
  go_wp2_with fail
  go_ret2
  exact ⟨rfl, hb4.trans (hb5.mono hb4.size)⟩

theorem c_sJoin_no (S1 S2 : ByteArray) (L1 L2 : List UInt8) (x y : List Bl) (d1 d2 : Nat) (w : World) (hS1 : S1.size ≤ 1000000000000) (hL1 : L1 = S1.data.toList) (hst1 : Stop L1 x d1) (hS2 : S2.size ≤ 1000000000000) (hL2 : L2 = S2.data.toList) (hst2 : Stop L2 y d2) (h : ¬ (d1 = 0 ∧ d2 = 0)) : Calls Tryd.prog 36 #[.string S1, .string S2] w fun e w' => e = .returned (.tuple #[.string ByteArray.empty, .bool false]) ∧ Below w.heap.size w w' := by
  have HB1 := hid (c_l5Blocks S1 L1 x d1 w hS1 hL1 hst1)
  have HB2 := hid (fun v => c_l5Blocks S2 L2 y d2 v hS2 hL2 hst2)
  clear hst1 hst2
  by_cases h1 : d1 = 0
  · have h2 : ¬ d2 = 0 := fun h2 => h ⟨h1, h2⟩
    rw [decide_eq_true h1] at HB1
    rw [decide_eq_false h2] at HB2
    clear h h1 h2
    go_enter Tryd.func36, Tryd.ntmps36
    go_wp2_with fail
    refine (HB1.out).mono ?_
    rintro e w1 ⟨v1, rfl, -, hb1⟩
    go_wp2_with fail
    refine (HB2.out _).mono ?_
    rintro e w2 ⟨v2, rfl, -, hb2⟩
    go_wp2_with fail
    go_ret2
    exact ⟨rfl, hb1.trans (hb2.mono hb1.size)⟩
  · rw [decide_eq_false h1] at HB1
    clear h h1
    go_enter Tryd.func36, Tryd.ntmps36
    go_wp2_with fail
    refine (HB1.out).mono ?_
    rintro e w1 ⟨v1, rfl, -, hb1⟩
    go_wp2_with fail
    refine (HB2.out _).mono ?_
    rintro e w2 ⟨v2, rfl, -, hb2⟩
    go_wp2_with fail
    go_ret2
    exact ⟨rfl, hb1.trans (hb2.mono hb1.size)⟩

theorem walk_FnExactJoinContainers (S1 S2 : ByteArray) (w : World) (h_1 : S1.size ≤ maxLen) (h_2 : S2.size ≤ maxLen) {a0 a1 a2 : Addr} (hG : Glob w a0 a1 a2) :
    Calls Tryd.prog 9 #[.string S1, .string S2] w fun e w' => e = .returned (.bool true) ∧ Below w.heap.size w w' := by
  by_cases big1 : 1048576 < S1.size
  · unfold maxLen at *
    go_enter Tryd.func9, Tryd.ntmps9
    go_wp2_with fail
    go_ret
    exact ⟨rfl, by (repeat (first | with_reducible (first | assumption | exact Below.refl _ _ | refine bel_alloc ?_ _ | refine bel_drew ?_ | refine bel_drewN ?_ _ | refine bel_set ?_ (by first | omega | (simp; done) | (simp; omega)) _ | refine bel_trans ?_ (by assumption)) | assumption | refine bel_trans ?_ (by assumption)))⟩
  by_cases big2 : 1048576 < S2.size
  · unfold maxLen at *
    go_enter Tryd.func9, Tryd.ntmps9
    go_wp2_with fail
    go_ret
    exact ⟨rfl, by (repeat (first | with_reducible (first | assumption | exact Below.refl _ _ | refine bel_alloc ?_ _ | refine bel_drew ?_ | refine bel_drewN ?_ _ | refine bel_set ?_ (by first | omega | (simp; done) | (simp; omega)) _ | refine bel_trans ?_ (by assumption)) | assumption | refine bel_trans ?_ (by assumption)))⟩
  obtain ⟨x, d1, hst1⟩ := stop_ex S1.data.toList
  obtain ⟨y, d2, hst2⟩ := stop_ex S2.data.toList
  obtain ⟨V, hV⟩ : ∃ V, V = if d1 = 0 ∧ d2 = 0 then edS (x ++ y) else ByteArray.empty := ⟨_, rfl⟩
  obtain ⟨q, hq⟩ : ∃ q, q = if d1 = 0 ∧ d2 = 0 then edO (x ++ y) else false := ⟨_, rfl⟩
  have HS := hid (fun v => show Calls Tryd.prog 36 #[.string S1, .string S2] v fun e w' => e = .returned (.tuple #[.string V, .bool q]) ∧ Below v.heap.size v w' by
    by_cases h : d1 = 0 ∧ d2 = 0
    · rw [hV, hq, if_pos h, if_pos h]
      exact c_sJoin_yes S1 S2 _ _ x y d1 d2 v (by omega) rfl hst1 (by omega) rfl hst2 h.1 h.2
    · rw [hV, hq, if_neg h, if_neg h]
      exact c_sJoin_no S1 S2 _ _ x y d1 d2 v (by omega) rfl hst1 (by omega) rfl hst2 h)
  have HI := hid (fun v (hG : Glob v a0 a1 a2) => show Calls Tryd.prog 37 #[.string S1, .string S2] v fun e w' => e = .returned (.tuple #[.string V, .bool q]) ∧ Below v.heap.size v w' by
    by_cases h : d1 = 0 ∧ d2 = 0
    · rw [hV, hq, if_pos h, if_pos h]
      exact c_JoinContainers_yes (by omega) rfl hst1 (by omega) rfl hst2 hG h.1 h.2
    · rw [hV, hq, if_neg h, if_neg h]
      exact c_JoinContainers_no (by omega) rfl hst1 (by omega) rfl hst2 hG h)
  have HG := hid hG
  clear hV hq hst1 hst2 hG
  go_enter Tryd.func9, Tryd.ntmps9
  go_wp2_with fail
  refine (HS.out _).mono ?_
  rintro e w1 ⟨rfl, hb1⟩
  go_wp2_with fail
  refine (HI.out _ (HG.out.on hb1)).mono ?_
  rintro e w2 ⟨rfl, hb2⟩
  go_wp2_with fail
  go_ret
  exact ⟨by simp_all, by (repeat (first | with_reducible (first | assumption | exact Below.refl _ _ | refine bel_alloc ?_ _ | refine bel_drew ?_ | refine bel_drewN ?_ _ | refine bel_set ?_ (by first | omega | (simp; done) | (simp; omega)) _ | refine bel_trans ?_ (by assumption)) | assumption | refine bel_trans ?_ (by assumption)))⟩
end Go.Proofs.YtkglpbaapekgnaaDoor
