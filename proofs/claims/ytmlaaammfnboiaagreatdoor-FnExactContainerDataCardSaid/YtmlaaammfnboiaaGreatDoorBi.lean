/- The contract of l2Step. No condition but that what is known is valid. The contract of After in the specification, where it says yes. No condition but that the numbers are int's. The contract of After in the program, where it says yes. No condition but that the numbers are int's. The contract of the specification's walk over codes. No condition but that what is known is valid. -/
import Derived.Test.YtmlaaammfnboiaaGreatDoorAa
import Derived.Test.YtmlaaammfnboiaaGreatDoorBh
import Derived.Test.YtmlaaammfnboiaaGreatDoorBg
import Derived.Test.YtmlaaammfnboiaaGreatDoorBb
namespace Go.Proofs.YtmlaaammfnboiaaGreatDoor
section
open Go.ChangeShapes Go.WideShapes Go.ChangeAt Go.RowKit Go.Joins
set_option linter.unusedVariables false

theorem c_l2Step (k : Kn) (A : Option Addr) (cap L : Nat) (w : World) (h : PsAt w L A cap k.ps) (hL : L ≤ w.heap.size) (hk : k.Ok) (code : Int) (hc : code = k.c ∨ k.Fol code) : Calls Tryz.prog 120 #[.agg #[.int .i64 k.o, .int .i64 k.l, .int .i64 k.m, .slice A k.ps.length cap, .int .i64 k.base, .int .i64 k.last], .int .i64 code] w fun e w' => ∃ A' cap', e = .returned (.agg #[.int .i64 k.o, .int .i64 k.l, .int .i64 k.m, .slice A' (k.step code).ps.length cap', .int .i64 k.base, .int .i64 (k.step code).last]) ∧ w'.ownsRow w.heap.size 175 2 (.slice A' (k.step code).ps.length cap') (k.step code).ps.length (prs (k.step code).ps) ∧ Below w.heap.size w w' := by
 obtain ⟨_, ⟨hl1, hl2⟩, hm1, hm2⟩ := setOk_iff.1 hk.set
 by_cases he : code = pow2 k.l
 ·have hst : k.step code = k.cleared := by simp [Kn.step, Kn.c, he]
  rw [hst]
  subst he
  clear hst hc
  have kN0 := (Blk.new w 88 #[.int .i64 k.o, .int .i64 k.l, .int .i64 k.m, .slice A k.ps.length cap, .int .i64 k.base, .int .i64 k.last]).alloc (.cells #[.int .i64 0, .int .i64 0, .int .i64 0, .slice none 0 0, .int .i64 0, .int .i64 0] 88)
  have kR0 := Blk.top w (.cells #[.int .i64 k.o, .int .i64 k.l, .int .i64 k.m, .slice A k.ps.length cap, .int .i64 k.base, .int .i64 k.last] 88) 88 #[.int .i64 0, .int .i64 0, .int .i64 0, .slice none 0 0, .int .i64 0, .int .i64 0]
  have HC := hid (fun (v : World) => c_l1Clear k.o k.l k.m v (by omega) (by omega))
  have HD := hid (fun (v : World) (hb : Below w.heap.size w v) => c_l2Cleared k A cap w.heap.size v ((h.below hb hL).mono hL) hb.size hk)
  clear h hk
  go_enter Tryz.func120, Tryz.ntmps120
  obtain ⟨p0, p1, p2, p3, p4, p5⟩ := kN0.cells6
  go_wp2_with fail
  refine (HC.out _).mono ?_
  rintro e w1 ⟨rfl, hb1⟩
  have kN1 := kN0.on hb1
  have kR1 := kR0.on hb1
  have hB1 : Below w.heap.size w w1 := by exact obB
  clear hb1 p0 p1 p2 p3 p4 p5 kN0 kR0
  obtain ⟨p0, p1, p2, p3, p4, p5⟩ := kN1.cells6
  go_wp2_with fail
  refine (HD.out _ hB1).mono ?_
  rintro e w2 ⟨A2, c2, rfl, hown2, hb2⟩
  have kR2 := kR1.on hb2
  have hR1 := kR1.lt
  have hB2 : Below w.heap.size w w2 := by exact obB
  clear hb2 p0 p1 p2 p3 p4 p5 kN1 kR1
  obtain ⟨t0, t1, t2, t3, t4, t5⟩ := kR2.cells6
  obtain ⟨v0, v1, v2, v3, v4, v5⟩ := kR2.free6
  obtain ⟨j0, j1, j2, j3, j4, j5⟩ := (kR2.put6 (.int .i64 k.o) (.int .i64 k.l) (.int .i64 k.m) (.slice A2 k.cleared.ps.length c2) (.int .i64 k.base) (.int .i64 k.cleared.last)).cells6
  have HO := hid hown2
  clear hown2
  go_wp2
  refine bodyPost_ret (v := .agg #[.int .i64 k.o, .int .i64 k.l, .int .i64 k.m, .slice A2 k.cleared.ps.length c2, .int .i64 k.base, .int .i64 k.cleared.last]) (by simp [results, Tryz.results120, go_sem, j0, j1, j2, j3, j4, j5]) rfl ⟨A2, c2, rfl, ?_, by exact obB⟩
  refine own_mono (B := w1.heap.size) ?_ (by omega)
  iterate 6 refine ownsRow_setCell_below ?_ (by simp; omega) _
  exact HO.out
 ·have hst : k.step code = k.after code := by simp [Kn.step, Kn.c, he]
  rw [hst]
  have hf : k.Fol code := hc.resolve_left he
  have hla : (k.after code).last = code := rfl
  have hne : (code == pow2 k.l) = false := by rw [beq_eq_false_iff_ne]; exact he
  rw [hla]
  clear hst hc
  have kN0 := (Blk.new w 88 #[.int .i64 k.o, .int .i64 k.l, .int .i64 k.m, .slice A k.ps.length cap, .int .i64 k.base, .int .i64 k.last]).alloc (.cells #[.int .i64 0, .int .i64 0, .int .i64 0, .slice none 0 0, .int .i64 0, .int .i64 0] 88)
  have kR0 := Blk.top w (.cells #[.int .i64 k.o, .int .i64 k.l, .int .i64 k.m, .slice A k.ps.length cap, .int .i64 k.base, .int .i64 k.last] 88) 88 #[.int .i64 0, .int .i64 0, .int .i64 0, .slice none 0 0, .int .i64 0, .int .i64 0]
  have HC := hid (fun (v : World) => c_l1Clear k.o k.l k.m v (by omega) (by omega))
  have HD := hid (fun (v : World) (hb : Below w.heap.size w v) => c_l2After k A cap w.heap.size v ((h.below hb hL).mono hL) hb.size hk code hf)
  clear h hk
  go_enter Tryz.func120, Tryz.ntmps120
  obtain ⟨p0, p1, p2, p3, p4, p5⟩ := kN0.cells6
  go_wp2_with fail
  refine (HC.out _).mono ?_
  rintro e w1 ⟨rfl, hb1⟩
  have kN1 := kN0.on hb1
  have kR1 := kR0.on hb1
  have hB1 : Below w.heap.size w w1 := by exact obB
  clear hb1 p0 p1 p2 p3 p4 p5 kN0 kR0
  obtain ⟨p0, p1, p2, p3, p4, p5⟩ := kN1.cells6
  go_wp2_with fail
  refine (HD.out _ hB1).mono ?_
  rintro e w2 ⟨A2, c2, rfl, hown2, hb2⟩
  have kR2 := kR1.on hb2
  have hR1 := kR1.lt
  have hB2 : Below w.heap.size w w2 := by exact obB
  clear hb2 p0 p1 p2 p3 p4 p5 kN1 kR1
  obtain ⟨t0, t1, t2, t3, t4, t5⟩ := kR2.cells6
  obtain ⟨v0, v1, v2, v3, v4, v5⟩ := kR2.free6
  obtain ⟨j0, j1, j2, j3, j4, j5⟩ := (kR2.put6 (.int .i64 k.o) (.int .i64 k.l) (.int .i64 k.m) (.slice A2 (k.after code).ps.length c2) (.int .i64 k.base) (.int .i64 code)).cells6
  have HO := hid hown2
  clear hown2
  go_wp2
  refine bodyPost_ret (v := .agg #[.int .i64 k.o, .int .i64 k.l, .int .i64 k.m, .slice A2 (k.after code).ps.length c2, .int .i64 k.base, .int .i64 code]) (by simp [results, Tryz.results120, go_sem, j0, j1, j2, j3, j4, j5]) rfl ⟨A2, c2, rfl, ?_, by exact obB⟩
  refine own_mono (B := w1.heap.size) ?_ (by omega)
  iterate 6 refine ownsRow_setCell_below ?_ (by simp; omega) _
  exact HO.out
end

section
open Go.ChangeShapes Go.WideShapes Go.ChangeAt Go.RowKit Go.Joins
set_option linter.unusedVariables false
end

section
open Go.ChangeShapes Go.WideShapes Go.ChangeAt Go.RowKit Go.Joins
set_option linter.unusedVariables false
end

section
open Go.ChangeShapes Go.WideShapes Go.ChangeAt Go.RowKit Go.Joins
set_option linter.unusedVariables false

/-- pairs that came in (below B), or the call's own ones (from B on) -/
def Pin (w : World) (B : Nat) (A : Option Addr) (cap : Nat) (ps : List Pr) : Prop := PsAt w B A cap ps ∨ w.ownsRow B 175 2 (.slice A ps.length cap) ps.length (prs ps)
theorem Pin.at_ {w : World} {B : Nat} {A : Option Addr} {cap : Nat} {ps : List Pr} (h : Pin w B A cap ps) (hB : B ≤ w.heap.size) : PsAt w w.heap.size A cap ps := by
 rcases h with h | h
 ·exact h.mono hB
 ·exact own_ps_at h
theorem Pin.on {w w' : World} {B : Nat} {A : Option Addr} {cap : Nat} {ps : List Pr} (h : Pin w B A cap ps) (hb : Below w.heap.size w w') (hB : B ≤ w.heap.size) : Pin w' B A cap ps := by
 rcases h with h | h
 ·exact .inl (h.below hb hB)
 ·exact .inr (own_on h hb)
theorem Pin.grown {w w' : World} {B : Nat} {A : Option Addr} {cap : Nat} {ps : List Pr} {e : TypeId} {size n : Nat} {v : Value} {xs : List Value} (h : Pin w B A cap ps) (ho : w.ownsRow B e size v n xs) (he : 175 ≠ e) (hg : w.grownBy w' v.ownBlock) (hB : B ≤ w.heap.size) : Pin w' B A cap ps := by
 rcases h with h | h
 ·exact .inl (h.keep fun k hk => hg.block k (by omega) (fun e => by have := (ho.lt k e.symm).1; omega))
 ·exact .inr (h.kept hg (own_apart h ho he))
theorem Pin.set_ {w : World} {B b : Nat} {A : Option Addr} {cap : Nat} {ps : List Pr} {t : TypeId} {cs : Array Value} (h : Pin w B A cap ps) (hk : Blk w b t cs) (ht : t ≠ 175) (hb : B ≤ b) (i : Nat) (u : Value) : Pin (w.setCell ⟨b, i, none⟩ u) B A cap ps := by
 rcases h with h | h
 ·exact .inl (h.keep fun k hk => Below.heap_setCell w _ u k (fun e => by have : k = b := e; omega))
 ·exact .inr (own_store_blk h hk ht i u)
theorem tykn_tp : 88 ≠ 175 := by decide
theorem tykn_ti : 88 ≠ 3 := by decide
theorem tykn_tu : 88 ≠ 5 := by decide

theorem s7_mk {v v0 : World} {a0 a1 a2 a3 a4 a5 a6 : Addr} {x0 x1 x2 x3 x4 x5 x6 : Value} (h0 : v.cell? a0 = some x0) (h1 : v.cell? a1 = some x1) (h2 : v.cell? a2 = some x2) (h3 : v.cell? a3 = some x3) (h4 : v.cell? a4 = some x4) (h5 : v.cell? a5 = some x5) (h6 : v.cell? a6 = some x6) (hb : Below v0.heap.size v0 v) : v.cell? a0 = some x0 ∧ v.cell? a1 = some x1 ∧ v.cell? a2 = some x2 ∧ v.cell? a3 = some x3 ∧ v.cell? a4 = some x4 ∧ v.cell? a5 = some x5 ∧ v.cell? a6 = some x6 ∧ Below v0.heap.size v0 v := ⟨h0, h1, h2, h3, h4, h5, h6, hb⟩
/-- 'out = append(out, s...)' of a string's bytes, as a step of a region -/
theorem step_str {P : Program} {w : World} {ops : Array Oper} {o : Oper} {a : Act} {K : Act → World → Prop} {Q : Exit → Act → World → Prop} {E : Prop} (hgd : o.guard = none) (sl x : Operand) (t u : TypeId)
  (ho : o.op = .call { callee := .builtin .append, args := #[sl, x], argTypes := #[t, u] }) (B : Nat) (e : TypeId) (ht : P.underlying t = some (.slice e)) (hu : P.underlying u = some .string)
  (hinfo : (P.info? e).map (fun i => (i.zero, i.size, i.bytes)) = some (some (.int .u8 0), 1, 1)) (v : Value) (n : Nat) (l : List UInt8) (hs : a.eval sl = v) (hown : w.ownsRow B e 1 v n (l.map vb)) (s : ByteArray) (hx : a.eval x = .string s)
  (hn : n + s.size ≤ 100000000000) (hB : B ≤ w.heap.size)
  (h : ∀ v' w', w'.ownsRow B e 1 v' (n + s.size) ((l ++ s.data.toList).map vb) → Below B w w' → w.grownBy w' v.ownBlock → K (a.put o.dst v') w') : if Region.wanted o (yielded ops a.tmps) = true then Oper.wp P o a w K Q else E := by
 have hw : Region.wanted o (yielded ops a.tmps) = true := by simp [Region.wanted, hgd]
 rw [if_pos hw]
 obtain ⟨i0, hi, hz0, hz1, hz2⟩ := info_parts hinfo
 obtain ⟨v', w', hr, hown', hg, _⟩ := Lib.run_append_own_string (P := P) w B t u o.type e i0 ht hu hi hz0 hz1 hz2 v n (l.map vb) hown s (by unfold maxLen; omega) (by omega) hB
 unfold Oper.wp execOp
 simp only [ho, resolve, invoke, builtin, Sem.run_bind, Sem.run_pure, Result.andThen_ok, List.map_toArray, List.map_cons, List.map_nil, hs, hx, hr]
 exact h v' w' (by rw [List.map_append]; exact hown') (below_of_grown hg hB (fun g hg => (hown.lt g hg).1)) hg
theorem own_put6 {w : World} {B b : Nat} {e t : TypeId} {size n : Nat} {v : Value} {xs : List Value} {cs : Array Value} (h : w.ownsRow B e size v n xs) (hk : Blk w b t cs) (ht : t ≠ e) (a0 a1 a2 a3 a4 a5 : Value) :
  ((((((w.setCell ⟨b, 0, none⟩ a0).setCell ⟨b, 1, none⟩ a1).setCell ⟨b, 2, none⟩ a2).setCell ⟨b, 3, none⟩ a3).setCell ⟨b, 4, none⟩ a4).setCell ⟨b, 5, none⟩ a5).ownsRow B e size v n xs :=
 own_store_blk (own_store_blk (own_store_blk (own_store_blk (own_store_blk (own_store_blk h hk ht 0 a0) (hk.set_ 0 _) ht 1 a1) ((hk.set_ 0 _).set_ 1 _) ht 2 a2) (((hk.set_ 0 _).set_ 1 _).set_ 2 _) ht 3 a3) ((((hk.set_ 0 _).set_ 1 _).set_ 2 _).set_ 3 _) ht 4 a4) (((((hk.set_ 0 _).set_ 1 _).set_ 2 _).set_ 3 _).set_ 4 _) ht 5 a5
theorem bel_put6 {w w' : World} {B b : Nat} (h : Below B w w') (hb : B ≤ b) (a0 a1 a2 a3 a4 a5 : Value) : Below B w ((((((w'.setCell ⟨b, 0, none⟩ a0).setCell ⟨b, 1, none⟩ a1).setCell ⟨b, 2, none⟩ a2).setCell ⟨b, 3, none⟩ a3).setCell ⟨b, 4, none⟩ a4).setCell ⟨b, 5, none⟩ a5) :=
 (((((h.setCell hb a0).setCell hb a1).setCell hb a2).setCell hb a3).setCell hb a4).setCell hb a5
def WRel (k : Kn) (codes : List Int) (w : World) (v8 v9 i : Value) (wr : World) : Prop :=
 ∃ (n : Nat) (T : Tr) (A : Option Addr) (cap : Nat), n ≤ codes.length ∧ i = .int .i64 n ∧ T.cs.length = n ∧ Tr.Walks k codes T (codes.drop n) ∧
  Blk wr w.heap.size 88 #[.int .i64 T.k.o, .int .i64 T.k.l, .int .i64 T.k.m, .slice A T.k.ps.length cap, .int .i64 T.k.base, .int .i64 T.k.last] ∧
  Blk wr (w.heap.size + 1) 88 #[.int .i64 0, .int .i64 0, .int .i64 0, .slice none 0 0, .int .i64 0, .int .i64 0] ∧ Pin wr w.heap.size A cap T.k.ps ∧
  wr.ownsRow w.heap.size 3 1 v8 n (T.ws.map iv) ∧ wr.ownsRow w.heap.size 5 1 v9 T.sz (T.ds.map vb) ∧ Below w.heap.size w wr
theorem WRel.next {k : Kn} {codes : List Int} {w w13 : World} {n B' : Nat} {T : Tr} {code : Int} {K2 : Kn} {A13 A7 : Option Addr} {c13 c7 : Nat} {v9 a0 a1 a2 a3 a4 a5 : Value} (hn : n + 1 ≤ codes.length) (hT : T.cs.length = n) (hK2 : K2 = T.k.step code) (HX : Tr.Walks k codes (T.next code) (codes.drop (n + 1)))
  (kb : Blk w13 w.heap.size 88 #[a0, a1, a2, a3, a4, a5]) (kr : Blk w13 (w.heap.size + 1) 88 #[.int .i64 0, .int .i64 0, .int .i64 0, .slice none 0 0, .int .i64 0, .int .i64 0])
  (ho : w13.ownsRow B' 175 2 (.slice A13 K2.ps.length c13) K2.ps.length (prs K2.ps)) (hB' : w.heap.size ≤ B') (o8 : w13.ownsRow w.heap.size 3 1 (.slice A7 (n + 1) c7) (n + 1) ((T.ws ++ [T.k.width]).map iv))
  (o9 : w13.ownsRow w.heap.size 5 1 v9 (T.next code).sz ((T.next code).ds.map vb)) (hB : Below w.heap.size w w13) :
  WRel k codes w (.slice A7 (n + 1) c7) v9 (.int .i64 ((n : Int) + 1)) ((((((w13.setCell ⟨w.heap.size, 0, none⟩ (.int .i64 T.k.o)).setCell ⟨w.heap.size, 1, none⟩ (.int .i64 T.k.l)).setCell ⟨w.heap.size, 2, none⟩ (.int .i64 T.k.m)).setCell ⟨w.heap.size, 3, none⟩ (.slice A13 K2.ps.length c13)).setCell ⟨w.heap.size, 4, none⟩ (.int .i64 T.k.base)).setCell ⟨w.heap.size, 5, none⟩ (.int .i64 K2.last)) := by
 have e0 : (T.next code).k = K2 := hK2.symm
 have e1 : K2.o = T.k.o := by rw [hK2, Kn.step_o]
 have e2 : K2.l = T.k.l := by rw [hK2, Kn.step_l]
 have e3 : K2.m = T.k.m := by rw [hK2, Kn.step_m]
 have e4 : K2.base = T.k.base := by rw [hK2, Kn.step_base]
 refine ⟨n + 1, T.next code, A13, c13, hn, by go_num, by simp [Tr.next, hT], HX, ?_, ?_, ?_, own_put6 o8 kb tykn_ti _ _ _ _ _ _, own_put6 o9 kb tykn_tu _ _ _ _ _ _, bel_put6 hB (Nat.le_refl _) _ _ _ _ _ _⟩
 ·rw [e0, e1, e2, e3, e4]; exact kb.put6 _ _ _ _ _ _
 ·exact (((((kr.far 0 _ (by omega)).far 1 _ (by omega)).far 2 _ (by omega)).far 3 _ (by omega)).far 4 _ (by omega)).far 5 _ (by omega)
 ·rw [e0]; exact .inr (own_mono (own_put6 ho kb tykn_tp _ _ _ _ _ _) hB')
/-- what the walk answers -/
def WalkOut (k : Kn) (codes : List Int) (w : World) (e : Ending) (w' : World) : Prop :=
 ∃ (k' : Kn) (A : Option Addr) (cap : Nat) (v : Value) (s : ByteArray) (b : Bool), e = .returned (.tuple #[.agg #[.int .i64 k'.o, .int .i64 k'.l, .int .i64 k'.m, .slice A k'.ps.length cap, .int .i64 k'.base, .int .i64 k'.last], v, .string s, .bool b]) ∧
  (k.good 0 codes = true → b = true ∧ s = str (k.dat codes) ∧ w'.ownsRow w.heap.size 3 1 v codes.length ((k.widths codes).map iv)) ∧ (k.good 0 codes = false → (b && decide ((s.size : Int) ≤ 2000)) = false) ∧ (∃ A2 cap2 n2, v = .slice A2 n2 cap2) ∧ Below w.heap.size w w'

set_option maxHeartbeats 4000000 in
set_option maxRecDepth 100000 in
theorem c_l2Walk (k : Kn) (A : Option Addr) (cap L : Nat) (w : World) (h : PsAt w L A cap k.ps) (hL : L ≤ w.heap.size) (hk : k.Ok) (A2 : Option Addr) (cap2 L2 : Nat) (codes : List Int) (hc : NumsAt w L2 A2 cap2 codes) (hL2 : L2 ≤ w.heap.size) (hn : codes.length ≤ 1048576) :
  Calls Tryz.prog 122 #[.agg #[.int .i64 k.o, .int .i64 k.l, .int .i64 k.m, .slice A k.ps.length cap, .int .i64 k.base, .int .i64 k.last], .slice A2 codes.length cap2] w (WalkOut k codes w) := by
 have HK := hid hk
 have HN := hid hc
 obtain ⟨N, hN⟩ : ∃ N, N = codes.length := ⟨_, rfl⟩
 have HL := hid hN
 rw [← hN] at hn ⊢
 obtain ⟨W1, hW1⟩ : ∃ W1, W1 = (w.alloc (.cells #[.int .i64 k.o, .int .i64 k.l, .int .i64 k.m, .slice A k.ps.length cap, .int .i64 k.base, .int .i64 k.last] 88)).alloc (.cells #[.int .i64 0, .int .i64 0, .int .i64 0, .slice none 0 0, .int .i64 0, .int .i64 0] 88) := ⟨_, rfl⟩
 have hs1 : W1.heap.size = w.heap.size + 2 := by rw [hW1]; simp
 have kN : Blk W1 w.heap.size 88 #[.int .i64 k.o, .int .i64 k.l, .int .i64 k.m, .slice A k.ps.length cap, .int .i64 k.base, .int .i64 k.last] := by rw [hW1]; exact (Blk.new w _ _).alloc _
 have kR : Blk W1 (w.heap.size + 1) 88 #[.int .i64 0, .int .i64 0, .int .i64 0, .slice none 0 0, .int .i64 0, .int .i64 0] := by rw [hW1]; exact Blk.top w _ _ _
 have hB1 : Below w.heap.size w W1 := by rw [hW1]; exact obB
 have hP1 : Pin W1 w.heap.size A cap k.ps := .inl ((h.below hB1 hL).mono hL)
 have o8 : ((W1.alloc (.cells #[] 3)).alloc (.cells #[] 5)).ownsRow w.heap.size 3 1 (.slice (some ⟨W1.heap.size, 0, none⟩) 0 0) 0 (([] : List Int).map iv) := (World.ownsRow_made (e := 3) (size := 1) (base := w.heap.size) W1 #[] 0 (by omega) (by simp [maxLen]) rfl).alloc _
 have o9 : ((W1.alloc (.cells #[] 3)).alloc (.cells #[] 5)).ownsRow w.heap.size 5 1 (.slice (some ⟨W1.heap.size + 1, 0, none⟩) 0 0) 0 (([] : List UInt8).map vb) := by
  have h1 := World.ownsRow_made (e := 5) (size := 1) (base := w.heap.size) (W1.alloc (.cells #[] 3)) #[] 0 (by rw [World.size_alloc]; omega) (by simp [maxLen]) rfl
  rw [World.size_alloc] at h1; exact h1
 rw [hs1] at o8 o9
 have HI : Hid (WRel k codes w (.slice (some ⟨w.heap.size + 1 + 1, 0, none⟩) 0 0) (.slice (some ⟨w.heap.size + 1 + 1 + 1, 0, none⟩) 0 0) (.int .i64 0) ((W1.alloc (.cells #[] 3)).alloc (.cells #[] 5))) :=
  hid ⟨0, Tr.start k, A, cap, Nat.zero_le _, rfl, rfl, Tr.walks_start k hk codes, (kN.alloc _).alloc _, (kR.alloc _).alloc _, (hP1.on (bel_alloc (Below.refl _ _) _) (by omega)).on (bel_alloc (Below.refl _ _) _) (by rw [World.size_alloc]; omega), o8, o9, by exact obB⟩
 clear h hk hc hN hs1 kN kR hP1 o8 o9
 go_enter Tryz.func122, Tryz.ntmps122
 go_wp2_with fail
 rw [← hW1]
 go_loopw [8, 9, 10] (fun v8 v9 i wr => WRel k codes w v8 v9 i wr) (fun _ _ i _ => N - (intOf i).toNat)
 case atStart => exact HI.out
 case round =>
  obtain ⟨n, T, A4, c4, hnl, rfl, hTn, hG, kb, kr, hp, ho8, ho9, hbl⟩ := hrel
  clear HI
  have hnN : n ≤ N := by have := HL.out; omega
  have HG := hid hG
  have hTk := hG.kn
  have hmost := hG.most
  have HP := hid hp
  have H8 := hid ho8
  obtain ⟨A9, c9, rfl⟩ := own_sl ho9
  have H9 := hid ho9
  obtain ⟨_, ⟨hl1, hl2⟩, hm1, hm2⟩ := setOk_iff.1 hTk.set
  have hszb : w.heap.size ≤ wr.heap.size := hbl.size
  have HWd := hid (fun (v : World) => c_l2Width T.k A4 c4 v hTk)
  have HE := hid (fun (v : World) => c_l1End T.k.o T.k.l T.k.m v (by omega) (by omega))
  have HCl := hid (fun (v : World) => c_l1Clear T.k.o T.k.l T.k.m v (by omega) (by omega))
  have HTk := hid hTk
  have HTn := hid hTn
  clear hG hnl hp ho8 ho9 hTk hTn
  by_cases hlt : n < N
  ·have hlt2 : n < codes.length := by have := HL.out; omega
   obtain ⟨b, off, rfl, hb, hc0⟩ := int_at (HN.out.below hbl hL2) n hlt2
   obtain ⟨code, hcode⟩ : ∃ c, c = codes[n] := ⟨_, rfl⟩
   have HD := hid (show codes.drop n = code :: codes.drop (n + 1) by rw [hcode]; exact List.drop_eq_getElem_cons hlt2)
   rw [← hcode] at hc0
   clear hcode
   have HG2 := hid (show Tr.Walks k codes T (code :: codes.drop (n + 1)) by rw [← HD.out]; exact HG.out)
   obtain ⟨p0, p1, p2, p3, p4, p5⟩ := kb.cells6
   go_wp2_with fail
   refine (HWd.out _).mono ?_
   rintro e w6 ⟨rfl, hb6⟩
   have kb6 := kb.on hb6
   have kr6 := kr.on hb6
   have HP6 := hid (HP.out.on hb6 hszb)
   have H96 := hid (own_on H9.out hb6)
   have H86 := hid (own_on H8.out hb6)
   have hB6 : Below w.heap.size w w6 := by exact obB
   have hc6 := cell_on hc0 hb6 (by show b < _; omega)
   have hz6 := hb6.size
   clear hb6 kb kr p0 p1 p2 p3 p4 p5 HP H8 H9 hc0 hbl
   go_wp2_with (at_builtin; go_loud (refine app_int rfl (.tmp 19) (.tmp 22) 126 rfl w.heap.size 3 Tryz.underlying126 Tryz.info_int _ n T.ws rfl H86.out T.k.width _ rfl 1 rfl (by omega) (by omega) ?_; intro v7 w7 hown7 hb7 hg7; have kb7 := kb6.grown hg7 (apart_ne (own_apart_blk H86.out kb6 tykn_ti) rfl); have kr7 := kr6.grown hg7 (apart_ne (own_apart_blk H86.out kr6 tykn_ti) rfl); have HP7 := hid (HP6.out.grown H86.out (by decide) hg7 (by omega)); have H97 := hid (H96.out.kept hg7 (sep_symm (own_apart H86.out H96.out tyne_iu))); obtain ⟨p0, p1, p2, p3, p4, p5⟩ := kb7.cells6; have hc7 := cell_on hc6 hb7 (by show b < _; omega); obtain ⟨A7, c7, rfl⟩ := own_sl hown7; have H87 := hid hown7; have hB7 := hB6.trans hb7; have hz7 := hB7.size; clear kb6 kr6 HP6 H86 H96 hc6 hB6 hb7 hg7 hown7 hz6))
   have hS := s7_mk p0 p1 p2 p3 p4 p5 hc7 (Below.refl w7.heap.size w7)
   refine wp_region_noPanic ?_
   refine wp_region_held_drew (S := (fun v => v.cell? ⟨w.heap.size, 0, none⟩ = some (.int .i64 T.k.o) ∧ v.cell? ⟨w.heap.size, 1, none⟩ = some (.int .i64 T.k.l) ∧ v.cell? ⟨w.heap.size, 2, none⟩ = some (.int .i64 T.k.m) ∧ v.cell? ⟨w.heap.size, 3, none⟩ = some (.slice A4 T.k.ps.length c4) ∧ v.cell? ⟨w.heap.size, 4, none⟩ = some (.int .i64 T.k.base) ∧ v.cell? ⟨w.heap.size, 5, none⟩ = some (.int .i64 T.k.last) ∧ v.cell? ⟨b, off + n, none⟩ = some (.int .i64 code) ∧ Below w7.heap.size w7 v)) (by kernel_rfl) (s7_drew hS) (fun hHeld => ?_)
   refine tk 0 ?_
   refine tk 1 ?_
   refine tk 2 ?_
   refine tk 3 ?_
   refine tk 4 ?_
   refine tk 5 ?_
   refine wpAnyH_ready (rs := [6]) (by kernel_rfl) (by simp) ?_
   refine AllReadyH.cons (o := ?or1_6) ?ir1_6 (fun K hK => ?sr1_6) AllReadyH.nil
   case ir1_6 => (simp only [List.getElem?_toArray, List.getElem?_cons_succ, List.getElem?_cons_zero]; rfl)
   (first | (go_simp; (first | (go_at_call 116; refine (HE.out _).mono ?_; rintro e w8 ⟨rfl, hb8⟩) | skip)))
   refine hK.out _ _ ?kr1_6 (fun hHeld => ?_)
   case kr1_6 => (try dsimp only); (first | with_reducible assumption | exact s7_bel (by assumption) (by assumption) | assumption | exact s7_alloc (by assumption) _)
   clear hK K
   try simp only [Act.put, List.setIfInBounds_toArray, List.set_cons_zero, List.set_cons_succ]
   refine tk 7 ?_
   refine wpAnyH_done (by kernel_rfl) ?_ _
   refine NoPanic.normal ?_
   have kb8 := kb7.on (hHeld.2.2.2.2.2.2.2)
   have kr8 := kr7.on (hHeld.2.2.2.2.2.2.2)
   have HP8 := hid (HP7.out.on (hHeld.2.2.2.2.2.2.2) hz7)
   have H88 := hid (own_on H87.out (hHeld.2.2.2.2.2.2.2))
   have H98 := hid (own_on H97.out (hHeld.2.2.2.2.2.2.2))
   have hB8 : Below w.heap.size w w8 := bel_trans hB7 hHeld.2.2.2.2.2.2.2
   have hc8 := hHeld.2.2.2.2.2.2.1
   clear hHeld hS hb8 kb7 kr7 HP7 H87 H97 hB7 hc7 p0 p1 p2 p3 p4 p5
   obtain ⟨p0, p1, p2, p3, p4, p5⟩ := kb8.cells6
   by_cases he : code = T.k.c + 1
   ·have e1 : (code == pow2 T.k.l + 1) = true := eq_yes he
    have HEn := hid (show _ from (he ▸ HG2.out : Tr.Walks k codes T ((T.k.c + 1) :: codes.drop (n + 1))).ends)
    clear he
    obtain ⟨r0, r1, r2, r3, r4, r5⟩ := kr8.cells6
    obtain ⟨f0, f1, f2, f3, f4, f5⟩ := kr8.free6
    have hcv := run_own_str (P := Tryz.prog) Tryz.underlying98 Tryz.underlying5 Tryz.underlying9 (H98.out.drew)
    have hcv2 := run_own_str (P := Tryz.prog) Tryz.underlying98 Tryz.underlying5 Tryz.underlying9 ((own_put6 H98.out kr8 tykn_tu (.int .i64 T.k.o) (.int .i64 T.k.l) (.int .i64 T.k.m) (.slice A4 T.k.ps.length c4) (.int .i64 T.k.base) (.int .i64 T.k.last)).drew)
    go_wp2_with fail
    go_region
    all_goals
     go_wp2
     obtain ⟨j0, j1, j2, j3, j4, j5⟩ := (kr8.put6 (.int .i64 T.k.o) (.int .i64 T.k.l) (.int .i64 T.k.m) (.slice A4 T.k.ps.length c4) (.int .i64 T.k.base) (.int .i64 T.k.last)).cells6
     have HO := hid ((own_put6 H88.out kr8 tykn_ti (.int .i64 T.k.o) (.int .i64 T.k.l) (.int .i64 T.k.m) (.slice A4 T.k.ps.length c4) (.int .i64 T.k.base) (.int .i64 T.k.last)).drew)
     refine bodyPost_ret (v := .tuple #[.agg #[.int .i64 T.k.o, .int .i64 T.k.l, .int .i64 T.k.m, .slice A4 T.k.ps.length c4, .int .i64 T.k.base, .int .i64 T.k.last], .slice A7 (n + 1) c7, .string (str T.ds), .bool ((n : Int) == (N : Int) - 1)]) (by simp [results, Tryz.results122, go_sem, j0, j1, j2, j3, j4, j5]) rfl ⟨T.k, A4, c4, _, _, _, rfl, ?_, ?_, ⟨_, _, _, rfl⟩, ?_⟩
     ·intro hgood
      rw [HEn.out.1, Bool.and_eq_true, List.isEmpty_iff] at hgood
      have h1 : n + 1 = N := by have h2 := hgood.1; rw [List.drop_eq_nil_iff] at h2; have := HL.out; omega
      have h3 := HEn.out.2 hgood.1
      refine ⟨eq_yes (by omega), by rw [h3.1], ?_⟩
      rw [h3.2, ← HL.out, ← h1]
      exact HO.out
     ·intro hbad
      rw [HEn.out.1] at hbad
      by_cases h1 : n + 1 = N
      ·have h2 : (codes.drop (n + 1)) = [] := by rw [List.drop_eq_nil_iff]; have := HL.out; omega
       rw [h2] at hbad
       have h3 : ¬ T.sz ≤ 2000 := by simpa using hbad
       have h4 := HG.out.sz
       have h5 : ¬ ((str T.ds).size : Int) ≤ 2000 := by rw [str_size]; omega
       rw [decide_eq_false h5, Bool.and_false]
      ·rw [eq_no (by omega), Bool.false_and]
     ·exact (bel_put6 hB8 (by omega) _ _ _ _ _ _).drew
   ·have e1 : (code == pow2 T.k.l + 1) = false := by rw [beq_eq_false_iff_ne]; exact he
    have hS9 := s7_mk p0 p1 p2 p3 p4 p5 hc8 (Below.refl w8.heap.size w8)
    go_wp2_with fail
    refine wp_region_noPanic ?_
    refine wp_region_held_drew (S := (fun v => v.cell? ⟨w.heap.size, 0, none⟩ = some (.int .i64 T.k.o) ∧ v.cell? ⟨w.heap.size, 1, none⟩ = some (.int .i64 T.k.l) ∧ v.cell? ⟨w.heap.size, 2, none⟩ = some (.int .i64 T.k.m) ∧ v.cell? ⟨w.heap.size, 3, none⟩ = some (.slice A4 T.k.ps.length c4) ∧ v.cell? ⟨w.heap.size, 4, none⟩ = some (.int .i64 T.k.base) ∧ v.cell? ⟨w.heap.size, 5, none⟩ = some (.int .i64 T.k.last) ∧ v.cell? ⟨b, off + n, none⟩ = some (.int .i64 code) ∧ Below w8.heap.size w8 v)) (by kernel_rfl) (s7_drew hS9) (fun hHeld => ?_)
    refine tk 0 ?_
    refine tk 1 ?_
    refine tk 2 ?_
    refine tk 3 ?_
    refine tk 4 ?_
    refine tk 5 ?_
    refine wpAnyH_ready (rs := [6]) (by kernel_rfl) (by simp) ?_
    refine AllReadyH.cons (o := ?or2_6) ?ir2_6 (fun K hK => ?sr2_6) AllReadyH.nil
    case ir2_6 => (simp only [List.getElem?_toArray, List.getElem?_cons_succ, List.getElem?_cons_zero]; rfl)
    (first | (go_simp; (first | (go_at_call 117; refine (HCl.out _).mono ?_; rintro e w9 ⟨rfl, hb9⟩) | skip)))
    refine hK.out _ _ ?kr2_6 (fun hHeld => ?_)
    case kr2_6 => (try dsimp only); (first | with_reducible assumption | exact s7_bel (by assumption) (by assumption) | assumption | exact s7_alloc (by assumption) _)
    clear hK K
    try simp only [Act.put, List.setIfInBounds_toArray, List.set_cons_zero, List.set_cons_succ]
    refine tk 7 ?_
    refine wpAnyH_done (by kernel_rfl) ?_ _
    refine NoPanic.normal ?_
    have kb9 := kb8.on (hHeld.2.2.2.2.2.2.2)
    have kr9 := kr8.on (hHeld.2.2.2.2.2.2.2)
    have hz8 := hB8.size
    have HP9 := hid (HP8.out.on (hHeld.2.2.2.2.2.2.2) hz8)
    have H89 := hid (own_on H88.out (hHeld.2.2.2.2.2.2.2))
    have H99 := hid (own_on H98.out (hHeld.2.2.2.2.2.2.2))
    have hB9 : Below w.heap.size w w9 := bel_trans hB8 hHeld.2.2.2.2.2.2.2
    have hc9 := hHeld.2.2.2.2.2.2.1
    clear hHeld hS9 hb9 kb8 kr8 HP8 H88 H98 hB8 hc8 p0 p1 p2 p3 p4 p5
    obtain ⟨p0, p1, p2, p3, p4, p5⟩ := kb9.cells6
    have hz9 := hB9.size
    by_cases hcl : code = pow2 T.k.l
    ·have e2 : (code != pow2 T.k.l) = false := by simp [hcl]
     have hcc : code = T.k.c := hcl
     have HX := hid (show Tr.Walks k codes (T.next code) (codes.drop (n + 1)) by have h2 := HG2.out; rw [hcc] at h2; have := h2.clear; rw [← hcc] at this; exact this)
     have HN9 := hid (show w9.ownsRow w.heap.size 5 1 (.slice A9 T.sz c9) (T.next code).sz ((T.next code).ds.map vb) by have := H99.out; rw [hcc]; simpa [Tr.next, Kn.part] using this)
     have HSt := hid (fun (v : World) (hp : PsAt v v.heap.size A4 c4 T.k.ps) => c_l2Step T.k A4 c4 v.heap.size v hp (Nat.le_refl _) HTk.out code (Or.inl hcc))
     obtain ⟨K2, hK2⟩ : ∃ K2, K2 = T.k.step code := ⟨_, rfl⟩
     rw [← hK2] at HSt
     have HK2 := hid hK2
     clear hcl hcc H99 hK2
     obtain ⟨f0, f1, f2, f3, f4, f5⟩ := kb9.free6
     go_wp2_with fail
     go_region_with (go_at_call 120; refine (HSt.out _ (show PsAt w9.drew w9.drew.heap.size A4 c4 T.k.ps from HP9.out.at_ hz9)).mono ?_; rintro e w13 ⟨A13, c13, rfl, hown13, hb13⟩; have kb13 := kb9.drew.on hb13; obtain ⟨s0, s1, s2, s3, s4, s5⟩ := kb13.cells6; obtain ⟨g0, g1, g2, g3, g4, g5⟩ := kb13.free6)
     all_goals
      have HF := hid (WRel.next (by have := HL.out; omega) HTn.out HK2.out HX.out kb13 (kr9.drew.on hb13) hown13 hz9 (own_on H89.out.drew hb13) (own_on HN9.out.drew hb13) (bel_trans (bel_drew hB9) hb13))
      go_wp2
      go_roundw
      case rel => exact HF.out
      case measure => simp [intOf]; omega
    ·have e2 : (code != pow2 T.k.l) = true := bne_iff_ne.2 hcl
     have hS10 := s7_mk p0 p1 p2 p3 p4 p5 hc9 (Below.refl w9.heap.size w9)
     have HF := hid (fun (v : World) => c_l2Follows T.k A4 c4 v HTk.out code)
     by_cases hf : T.k.Fol code
     ·simp only [decide_eq_true hf] at HF
      by_cases hsz : 2000 < T.sz
      ·go_wp2_with fail
       refine wp_region_noPanic ?_
       refine wp_region_held_drew (S := (fun v => v.cell? ⟨w.heap.size, 0, none⟩ = some (.int .i64 T.k.o) ∧ v.cell? ⟨w.heap.size, 1, none⟩ = some (.int .i64 T.k.l) ∧ v.cell? ⟨w.heap.size, 2, none⟩ = some (.int .i64 T.k.m) ∧ v.cell? ⟨w.heap.size, 3, none⟩ = some (.slice A4 T.k.ps.length c4) ∧ v.cell? ⟨w.heap.size, 4, none⟩ = some (.int .i64 T.k.base) ∧ v.cell? ⟨w.heap.size, 5, none⟩ = some (.int .i64 T.k.last) ∧ v.cell? ⟨b, off + n, none⟩ = some (.int .i64 code) ∧ Below w9.heap.size w9 v)) (by kernel_rfl) (s7_drew hS10) (fun hHeld => ?_)
       refine tk 0 ?_
       refine tk 1 ?_
       refine tk 2 ?_
       refine tk 3 ?_
       refine tk 4 ?_
       refine wpAnyH_ready (rs := [5]) (by kernel_rfl) (by simp) ?_
       refine AllReadyH.cons (o := ?or3_5) ?ir3_5 (fun K hK => ?sr3_5) AllReadyH.nil
       case ir3_5 => (simp only [List.getElem?_toArray, List.getElem?_cons_succ, List.getElem?_cons_zero]; rfl)
       (first | (go_simp; (first | (go_at_call 118; refine (HF.out _).mono ?_; rintro e w10 ⟨rfl, hb10⟩) | skip)))
       refine hK.out _ _ ?kr3_5 (fun hHeld => ?_)
       case kr3_5 => (try dsimp only); (first | with_reducible assumption | exact s7_bel (by assumption) (by assumption) | assumption | exact s7_alloc (by assumption) _)
       clear hK K
       try simp only [Act.put, List.setIfInBounds_toArray, List.set_cons_zero, List.set_cons_succ]
       refine tk 6 ?_
       refine tk 7 ?_
       refine tk 8 ?_
       refine tk 9 ?_
       refine tk 10 ?_
       refine tk 11 ?_
       refine wpAnyH_done (by kernel_rfl) ?_ _
       refine NoPanic.normal ?_
       have kr10 := kr9.on hHeld.2.2.2.2.2.2.2
       have kb10 := kb9.on hHeld.2.2.2.2.2.2.2
       have hB10 : Below w.heap.size w w10 := bel_trans hB9 hHeld.2.2.2.2.2.2.2
       have HBad := hid (HG2.out.wrong hcl he (Or.inr hsz))
       clear hHeld hS10 hb10 kb9 kr9 p0 p1 p2 p3 p4 p5 hB9
       obtain ⟨p0, p1, p2, p3, p4, p5⟩ := kb10.cells6
       obtain ⟨r0, r1, r2, r3, r4, r5⟩ := kr10.cells6
       obtain ⟨f0, f1, f2, f3, f4, f5⟩ := kr10.free6
       go_wp2
       obtain ⟨j0, j1, j2, j3, j4, j5⟩ := (kr10.put6 (.int .i64 T.k.o) (.int .i64 T.k.l) (.int .i64 T.k.m) (.slice A4 T.k.ps.length c4) (.int .i64 T.k.base) (.int .i64 T.k.last)).cells6
       refine bodyPost_ret (v := .tuple #[.agg #[.int .i64 T.k.o, .int .i64 T.k.l, .int .i64 T.k.m, .slice A4 T.k.ps.length c4, .int .i64 T.k.base, .int .i64 T.k.last], .slice A7 (n + 1) c7, .string ⟨#[]⟩, .bool false]) (by simp [results, Tryz.results122, go_sem, j0, j1, j2, j3, j4, j5]) rfl ⟨T.k, A4, c4, _, _, _, rfl, ?_, ?_, ⟨_, _, _, rfl⟩, bel_put6 hB10 (by omega) _ _ _ _ _ _⟩
       ·intro hgood; rw [HBad.out] at hgood; cases hgood
       ·intro _; rfl
      ·have HAn := hid (fun (v : World) (hp : PsAt v v.heap.size A4 c4 T.k.ps) => c_l2Any T.k A4 c4 v.heap.size v HTk.out hp (Nat.le_refl _) code hf)
       obtain ⟨D, hD⟩ : ∃ D, D = T.k.any code := ⟨_, rfl⟩
       have hDl : D.length ≤ 1022 := by rw [hD]; exact HTk.out.any_len hf
       simp only [← hD] at HAn
       obtain ⟨W0, hW0⟩ : ∃ W0, W0 = str D := ⟨_, rfl⟩
       have hWs : W0.size ≤ 1022 := by rw [hW0, str_size]; exact hDl
       have HW := hid hW0
       simp only [← hW0] at HAn
       have HX := hid (HG2.out.code hf (by omega))
       have HNx := hid (show (T.next code).sz = T.sz + W0.size ∧ (T.next code).ds = T.ds ++ W0.data.toList by
        rw [HW.out, str_list, str_size, hD]
        have h2 : code ≠ T.k.c := hcl
        exact ⟨by simp [Tr.next, Kn.part_code _ _ h2 he], by simp [Tr.next, Kn.part_code _ _ h2 he]⟩)
       have HSt := hid (fun (v : World) (hp : PsAt v v.heap.size A4 c4 T.k.ps) => c_l2Step T.k A4 c4 v.heap.size v hp (Nat.le_refl _) HTk.out code (Or.inr hf))
       obtain ⟨K2, hK2⟩ : ∃ K2, K2 = T.k.step code := ⟨_, rfl⟩
       rw [← hK2] at HSt
       have HK2 := hid hK2
       have hsz3 : (T.sz : Int) ≤ 2000 := by omega
       clear hD hW0 hK2 hDl hf
       go_wp2_with fail
       refine wp_region_noPanic ?_
       refine wp_region_held_drew (S := (fun v => v.cell? ⟨w.heap.size, 0, none⟩ = some (.int .i64 T.k.o) ∧ v.cell? ⟨w.heap.size, 1, none⟩ = some (.int .i64 T.k.l) ∧ v.cell? ⟨w.heap.size, 2, none⟩ = some (.int .i64 T.k.m) ∧ v.cell? ⟨w.heap.size, 3, none⟩ = some (.slice A4 T.k.ps.length c4) ∧ v.cell? ⟨w.heap.size, 4, none⟩ = some (.int .i64 T.k.base) ∧ v.cell? ⟨w.heap.size, 5, none⟩ = some (.int .i64 T.k.last) ∧ v.cell? ⟨b, off + n, none⟩ = some (.int .i64 code) ∧ Below w9.heap.size w9 v)) (by kernel_rfl) (s7_drew hS10) (fun hHeld => ?_)
       refine tk 0 ?_
       refine tk 1 ?_
       refine tk 2 ?_
       refine tk 3 ?_
       refine tk 4 ?_
       refine wpAnyH_ready (rs := [5]) (by kernel_rfl) (by simp) ?_
       refine AllReadyH.cons (o := ?or4_5) ?ir4_5 (fun K hK => ?sr4_5) AllReadyH.nil
       case ir4_5 => (simp only [List.getElem?_toArray, List.getElem?_cons_succ, List.getElem?_cons_zero]; rfl)
       (first | (go_simp; (first | (go_at_call 118; refine (HF.out _).mono ?_; rintro e w10 ⟨rfl, hb10⟩) | skip)))
       refine hK.out _ _ ?kr4_5 (fun hHeld => ?_)
       case kr4_5 => (try dsimp only); (first | with_reducible assumption | exact s7_bel (by assumption) (by assumption) | assumption | exact s7_alloc (by assumption) _)
       clear hK K
       try simp only [Act.put, List.setIfInBounds_toArray, List.set_cons_zero, List.set_cons_succ]
       refine tk 6 ?_
       refine tk 7 ?_
       refine tk 8 ?_
       refine tk 9 ?_
       refine tk 10 ?_
       refine tk 11 ?_
       refine wpAnyH_done (by kernel_rfl) ?_ _
       refine NoPanic.normal ?_
       have kb10 := kb9.on hHeld.2.2.2.2.2.2.2
       have kr10 := kr9.on hHeld.2.2.2.2.2.2.2
       have HP10 := hid (HP9.out.on hHeld.2.2.2.2.2.2.2 hz9)
       have H810 := hid (own_on H89.out hHeld.2.2.2.2.2.2.2)
       have H910 := hid (own_on H99.out hHeld.2.2.2.2.2.2.2)
       have hB10 : Below w.heap.size w w10 := bel_trans hB9 hHeld.2.2.2.2.2.2.2
       have hc10 := hHeld.2.2.2.2.2.2.1
       clear hHeld hS10 hb10 kb9 kr9 HP9 H89 H99 hc9 p0 p1 p2 p3 p4 p5 hB9 HF
       obtain ⟨p0, p1, p2, p3, p4, p5⟩ := kb10.cells6
       have hz10 := hB10.size
       have hS12 := s7_mk p0 p1 p2 p3 p4 p5 hc10 hB10
       go_wp2_with fail
       refine wp_region_noPanic ?_
       refine wp_region_held_drew (S := (fun v => v.cell? ⟨w.heap.size, 0, none⟩ = some (.int .i64 T.k.o) ∧ v.cell? ⟨w.heap.size, 1, none⟩ = some (.int .i64 T.k.l) ∧ v.cell? ⟨w.heap.size, 2, none⟩ = some (.int .i64 T.k.m) ∧ v.cell? ⟨w.heap.size, 3, none⟩ = some (.slice A4 T.k.ps.length c4) ∧ v.cell? ⟨w.heap.size, 4, none⟩ = some (.int .i64 T.k.base) ∧ v.cell? ⟨w.heap.size, 5, none⟩ = some (.int .i64 T.k.last) ∧ v.cell? ⟨b, off + n, none⟩ = some (.int .i64 code) ∧ Below w.heap.size w v)) (by kernel_rfl) (s7_drew hS12) (fun hHeld => ?_)
       refine tk 0 ?_
       refine tk 1 ?_
       refine tk 2 ?_
       refine tk 3 ?_
       refine tk 4 ?_
       refine tk 5 ?_
       refine wpAnyH_ready (rs := [6]) (by kernel_rfl) (by simp) ?_
       refine AllReadyH.cons (o := ?or5_6) ?ir5_6 (fun K hK => ?sr5_6) AllReadyH.nil
       case ir5_6 => (simp only [List.getElem?_toArray, List.getElem?_cons_succ, List.getElem?_cons_zero]; rfl)
       (first | ((refine step_str (by rfl) (.tmp 63) (.tmp 69) 98 9 (by rfl) w.heap.size 5 Tryz.underlying98 Tryz.underlying9 Tryz.info_u8w _ T.sz T.ds (by rfl) (own_on H910.out.drew hb11) W0 (by rfl) (by omega) (by have := hb11.size; exact Nat.le_trans hz10 this) ?_; intro v12 w12 hown12 hb12 hg12; have kb12 := (kb10.drew.on hb11).grown hg12 (apart_ne (own_apart_blk (own_on H910.out.drew hb11) (kb10.drew.on hb11) tykn_tu) rfl); obtain ⟨q0, q1, q2, q3, q4, q5⟩ := kb12.cells6; have hB11 := bel_trans (bel_drew hB10) hb11; have hB12 := hB11.trans hb12; have hc12 := cell_on (cell_on hc10 (bel_trans (bel_drew (Below.refl _ w10)) hb11) (show b < _ by omega)) hb12 (show b < _ by omega))) | (go_simp; (first | (go_at_call 119; refine (HAn.out _ (show PsAt w10.drew w10.drew.heap.size A4 c4 T.k.ps from HP10.out.at_ hz10)).mono ?_; rintro e w11 ⟨rfl, hb11⟩) | skip)))
       refine hK.out _ _ ?kr5_6 (fun hHeld => ?_)
       case kr5_6 => (try dsimp only); (first | with_reducible assumption | with_reducible exact s7_mk q0 q1 q2 q3 q4 q5 hc12 hB12 | exact s7_bel (by assumption) (by assumption) | assumption | exact s7_alloc (by assumption) _ | exact s7_mk q0 q1 q2 q3 q4 q5 hc12 hB12)
       clear hK K
       try simp only [Act.put, List.setIfInBounds_toArray, List.set_cons_zero, List.set_cons_succ]
       refine wpAnyH_ready (rs := [7]) (by kernel_rfl) (by simp) ?_
       refine AllReadyH.cons (o := ?or5_7) ?ir5_7 (fun K hK => ?sr5_7) AllReadyH.nil
       case ir5_7 => (simp only [List.getElem?_toArray, List.getElem?_cons_succ, List.getElem?_cons_zero]; rfl)
       (first | ((refine step_str (by rfl) (.tmp 63) (.tmp 69) 98 9 (by rfl) w.heap.size 5 Tryz.underlying98 Tryz.underlying9 Tryz.info_u8w _ T.sz T.ds (by rfl) (own_on H910.out.drew hb11) W0 (by rfl) (by omega) (by have := hb11.size; exact Nat.le_trans hz10 this) ?_; intro v12 w12 hown12 hb12 hg12; have kb12 := (kb10.drew.on hb11).grown hg12 (apart_ne (own_apart_blk (own_on H910.out.drew hb11) (kb10.drew.on hb11) tykn_tu) rfl); obtain ⟨q0, q1, q2, q3, q4, q5⟩ := kb12.cells6; have hB11 := bel_trans (bel_drew hB10) hb11; have hB12 := hB11.trans hb12; have hc12 := cell_on (cell_on hc10 (bel_trans (bel_drew (Below.refl _ w10)) hb11) (show b < _ by omega)) hb12 (show b < _ by omega))) | (go_simp; (first | (go_at_call 119; refine (HAn.out _ (show PsAt w10.drew w10.drew.heap.size A4 c4 T.k.ps from HP10.out.at_ hz10)).mono ?_; rintro e w11 ⟨rfl, hb11⟩) | skip)))
       refine hK.out _ _ ?kr5_7 (fun hHeld => ?_)
       case kr5_7 => (try dsimp only); (first | with_reducible assumption | with_reducible exact s7_mk q0 q1 q2 q3 q4 q5 hc12 hB12 | exact s7_bel (by assumption) (by assumption) | assumption | exact s7_alloc (by assumption) _ | exact s7_mk q0 q1 q2 q3 q4 q5 hc12 hB12)
       clear hK K
       try simp only [Act.put, List.setIfInBounds_toArray, List.set_cons_zero, List.set_cons_succ]
       refine tk 8 ?_
       refine wpAnyH_done (by kernel_rfl) ?_ _
       refine NoPanic.normal ?_
       have kr12 := (kr10.drew.on hb11).grown hg12 (apart_ne (own_apart_blk (own_on H910.out.drew hb11) (kr10.drew.on hb11) tykn_tu) rfl)
       have HP12 := hid ((HP10.out.on (bel_trans (bel_drew (Below.refl _ w10)) hb11) hz10).grown (own_on H910.out.drew hb11) (by decide) hg12 (Nat.le_trans hz10 hb11.size))
       have H812 := hid ((own_on H810.out.drew hb11).kept hg12 (own_apart (own_on H810.out.drew hb11) (own_on H910.out.drew hb11) tyne_iu))
       obtain ⟨A12, c12, rfl⟩ := own_sl hown12
       have HN12 := hid (show w12.ownsRow w.heap.size 5 1 (.slice A12 (T.sz + W0.size) c12) (T.next code).sz ((T.next code).ds.map vb) by rw [HNx.out.1, HNx.out.2]; exact hown12)
       have hz12 := hB12.size
       clear hHeld hS12 hb11 hb12 hg12 hown12 H910 H810 HP10 kb10 kr10 p0 p1 p2 p3 p4 p5 hB10 hB11 hc10 HAn HNx
       obtain ⟨f0, f1, f2, f3, f4, f5⟩ := kb12.free6
       go_wp2_with fail
       go_region_with (go_at_call 120; refine (HSt.out _ (show PsAt w12.drew w12.drew.heap.size A4 c4 T.k.ps from HP12.out.at_ hz12)).mono ?_; rintro e w13 ⟨A13, c13, rfl, hown13, hb13⟩; have kb13 := kb12.drew.on hb13; obtain ⟨s0, s1, s2, s3, s4, s5⟩ := kb13.cells6; obtain ⟨g0, g1, g2, g3, g4, g5⟩ := kb13.free6)
       all_goals
        have HF := hid (WRel.next (by have := HL.out; omega) HTn.out HK2.out HX.out kb13 (kr12.drew.on hb13) hown13 hz12 (own_on H812.out.drew hb13) (own_on HN12.out.drew hb13) (bel_trans (bel_drew hB12) hb13))
        go_wp2
        go_roundw
        case rel => exact HF.out
        case measure => simp [intOf]; omega
     ·simp only [decide_eq_false hf] at HF
      go_wp2_with fail
      refine wp_region_noPanic ?_
      refine wp_region_held_drew (S := (fun v => v.cell? ⟨w.heap.size, 0, none⟩ = some (.int .i64 T.k.o) ∧ v.cell? ⟨w.heap.size, 1, none⟩ = some (.int .i64 T.k.l) ∧ v.cell? ⟨w.heap.size, 2, none⟩ = some (.int .i64 T.k.m) ∧ v.cell? ⟨w.heap.size, 3, none⟩ = some (.slice A4 T.k.ps.length c4) ∧ v.cell? ⟨w.heap.size, 4, none⟩ = some (.int .i64 T.k.base) ∧ v.cell? ⟨w.heap.size, 5, none⟩ = some (.int .i64 T.k.last) ∧ v.cell? ⟨b, off + n, none⟩ = some (.int .i64 code) ∧ Below w9.heap.size w9 v)) (by kernel_rfl) (s7_drew hS10) (fun hHeld => ?_)
      refine tk 0 ?_
      refine tk 1 ?_
      refine tk 2 ?_
      refine tk 3 ?_
      refine tk 4 ?_
      refine wpAnyH_ready (rs := [5]) (by kernel_rfl) (by simp) ?_
      refine AllReadyH.cons (o := ?or6_5) ?ir6_5 (fun K hK => ?sr6_5) AllReadyH.nil
      case ir6_5 => (simp only [List.getElem?_toArray, List.getElem?_cons_succ, List.getElem?_cons_zero]; rfl)
      (first | (go_simp; (first | (go_at_call 118; refine (HF.out _).mono ?_; rintro e w10 ⟨rfl, hb10⟩) | skip)))
      refine hK.out _ _ ?kr6_5 (fun hHeld => ?_)
      case kr6_5 => (try dsimp only); (first | with_reducible assumption | exact s7_bel (by assumption) (by assumption) | assumption | exact s7_alloc (by assumption) _)
      clear hK K
      try simp only [Act.put, List.setIfInBounds_toArray, List.set_cons_zero, List.set_cons_succ]
      refine tk 6 ?_
      refine tk 7 ?_
      refine tu 8 ?_
      refine tu 9 ?_
      refine tu 10 ?_
      refine tk 11 ?_
      refine wpAnyH_done (by kernel_rfl) ?_ _
      refine NoPanic.normal ?_
      have kr10 := kr9.on hHeld.2.2.2.2.2.2.2
      have kb10 := kb9.on hHeld.2.2.2.2.2.2.2
      have hB10 : Below w.heap.size w w10 := bel_trans hB9 hHeld.2.2.2.2.2.2.2
      have HBad := hid (HG2.out.wrong hcl he (Or.inl hf))
      clear hHeld hS10 hb10 kb9 kr9 p0 p1 p2 p3 p4 p5 hB9
      obtain ⟨p0, p1, p2, p3, p4, p5⟩ := kb10.cells6
      obtain ⟨r0, r1, r2, r3, r4, r5⟩ := kr10.cells6
      obtain ⟨f0, f1, f2, f3, f4, f5⟩ := kr10.free6
      go_wp2
      obtain ⟨j0, j1, j2, j3, j4, j5⟩ := (kr10.put6 (.int .i64 T.k.o) (.int .i64 T.k.l) (.int .i64 T.k.m) (.slice A4 T.k.ps.length c4) (.int .i64 T.k.base) (.int .i64 T.k.last)).cells6
      refine bodyPost_ret (v := .tuple #[.agg #[.int .i64 T.k.o, .int .i64 T.k.l, .int .i64 T.k.m, .slice A4 T.k.ps.length c4, .int .i64 T.k.base, .int .i64 T.k.last], .slice A7 (n + 1) c7, .string ⟨#[]⟩, .bool false]) (by simp [results, Tryz.results122, go_sem, j0, j1, j2, j3, j4, j5]) rfl ⟨T.k, A4, c4, _, _, _, rfl, ?_, ?_, ⟨_, _, _, rfl⟩, bel_put6 hB10 (by omega) _ _ _ _ _ _⟩
      ·intro hgood; rw [HBad.out] at hgood; cases hgood
      ·intro _; rfl
  ·have HR := hid (show codes.drop n = [] by rw [List.drop_eq_nil_iff]; have := HL.out; omega)
   have HG3 := hid (show Tr.Walks k codes T [] by rw [← HR.out]; exact HG.out)
   obtain ⟨p0, p1, p2, p3, p4, p5⟩ := kb.cells6
   obtain ⟨r0, r1, r2, r3, r4, r5⟩ := kr.cells6
   obtain ⟨f0, f1, f2, f3, f4, f5⟩ := kr.free6
   have hcv := run_own_str (P := Tryz.prog) Tryz.underlying98 Tryz.underlying5 Tryz.underlying9 (H9.out.drew)
   have hcv2 := run_own_str (P := Tryz.prog) Tryz.underlying98 Tryz.underlying5 Tryz.underlying9 ((own_put6 H9.out kr tykn_tu (.int .i64 T.k.o) (.int .i64 T.k.l) (.int .i64 T.k.m) (.slice A4 T.k.ps.length c4) (.int .i64 T.k.base) (.int .i64 T.k.last)).drew)
   obtain ⟨A8, c8, hv8⟩ := own_sl H8.out
   subst hv8
   go_wp2_with fail
   go_region
   all_goals
    go_wp2
    obtain ⟨j0, j1, j2, j3, j4, j5⟩ := (kr.put6 (.int .i64 T.k.o) (.int .i64 T.k.l) (.int .i64 T.k.m) (.slice A4 T.k.ps.length c4) (.int .i64 T.k.base) (.int .i64 T.k.last)).cells6
    have HO := hid ((own_put6 H8.out kr tykn_ti (.int .i64 T.k.o) (.int .i64 T.k.l) (.int .i64 T.k.m) (.slice A4 T.k.ps.length c4) (.int .i64 T.k.base) (.int .i64 T.k.last)).drew)
    refine bodyPost_ret (v := .tuple #[.agg #[.int .i64 T.k.o, .int .i64 T.k.l, .int .i64 T.k.m, .slice A4 T.k.ps.length c4, .int .i64 T.k.base, .int .i64 T.k.last], .slice A8 n c8, .string (str T.ds), .bool (decide ((T.sz : Int) ≤ 2000))]) (by simp [results, Tryz.results122, go_sem, j0, j1, j2, j3, j4, j5]) rfl ⟨T.k, A4, c4, _, _, _, rfl, ?_, ?_, ⟨_, _, _, rfl⟩, ?_⟩
    ·intro hgood
     have h1 := HG3.out.done
     rw [h1.1, decide_eq_true_eq] at hgood
     refine ⟨decide_eq_true (by omega), by rw [h1.2.1], ?_⟩
     rw [h1.2.2, ← HL.out, show N = n from by omega]
     exact HO.out
    ·intro hbad
     rw [HG3.out.done.1, decide_eq_false_iff_not] at hbad
     rw [decide_eq_false (by omega), Bool.false_and]
    ·exact (bel_put6 hbl (by omega) _ _ _ _ _ _).drew
end
end Go.Proofs.YtmlaaammfnboiaaGreatDoor
