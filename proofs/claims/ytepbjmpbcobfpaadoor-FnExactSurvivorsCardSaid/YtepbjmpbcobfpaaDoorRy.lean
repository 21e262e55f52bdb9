/- readNext in the program, where it takes a block. The layout of the header and the errors are as the program's text lays them. -/
import Derived.Test.YtepbjmpbcobfpaaDoorRn
import Derived.OneCell
namespace Go.Proofs.YtepbjmpbcobfpaaDoor
open Go.ChangeShapes Go.WideShapes Go.ChangeAt Go.RowKit Go.Joins
set_option linter.unusedVariables false
set_option linter.unusedSimpArgs false

theorem RFresh.learn {K : Act → World → Prop} {a : Act} {X : World} {cs : Array Value} {t : TypeId} (h : ∀ V, V = X.alloc (.cells cs t) → Blk V X.heap.size t cs → K a V) : K a (X.alloc (.cells cs t)) := h _ rfl (Blk.new X t cs)
theorem RFresh.learnd {K : Act → World → Prop} {a : Act} {X : World} {cs : Array Value} {t : TypeId} (h : ∀ V, V = (X.alloc (.cells cs t)).drew → Blk V X.heap.size t cs → K a V) : K a (X.alloc (.cells cs t)).drew := h _ rfl (Blk.new X t cs).drew

theorem t4_eqd {X V : World} {o : Obj} {a0 a1 a2 a3 : Addr} {x0 x1 x2 x3 : Value} (hV : V = (X.alloc o).drew) (h : X.cell? a0 = some x0 ∧ X.cell? a1 = some x1 ∧ X.cell? a2 = some x2 ∧ X.cell? a3 = some x3 ∧ True) : V.cell? a0 = some x0 ∧ V.cell? a1 = some x1 ∧ V.cell? a2 = some x2 ∧ V.cell? a3 = some x3 ∧ True := by
  subst hV; exact t4_drew (t4_alloc h o)
theorem t4_set {X : World} {c i : Nat} {u : Value} {g : Nat} {x0 x1 x2 x3 : Value} (hg : g ≠ c) (h : X.cell? ⟨g, 0, none⟩ = some x0 ∧ X.cell? ⟨g, 1, none⟩ = some x1 ∧ X.cell? ⟨g, 2, none⟩ = some x2 ∧ X.cell? ⟨g, 3, none⟩ = some x3 ∧ True) : (X.setCell ⟨c, i, none⟩ u).cell? ⟨g, 0, none⟩ = some x0 ∧ (X.setCell ⟨c, i, none⟩ u).cell? ⟨g, 1, none⟩ = some x1 ∧ (X.setCell ⟨c, i, none⟩ u).cell? ⟨g, 2, none⟩ = some x2 ∧ (X.setCell ⟨c, i, none⟩ u).cell? ⟨g, 3, none⟩ = some x3 ∧ True :=
  have hh := Below.heap_setCell X ⟨c, i, none⟩ u g hg
  ⟨(World.cell?_of_block (a := ⟨g, 0, none⟩) hh).trans h.1, (World.cell?_of_block (a := ⟨g, 1, none⟩) hh).trans h.2.1, (World.cell?_of_block (a := ⟨g, 2, none⟩) hh).trans h.2.2.1, (World.cell?_of_block (a := ⟨g, 3, none⟩) hh).trans h.2.2.2.1, trivial⟩

set_option maxHeartbeats 8000000 in
set_option maxRecDepth 100000 in
theorem c_readNext_yes (S : ByteArray) (a z cb k B : Nat) (v1 v2 : Value) (cs : List Bl) (pl : List Pr) (b : Bl) (w : World) (a0 a1 a2 : Addr) (hS : S.size ≤ 1000000000000) (ha : a ≤ S.size) (hG : Glob w a0 a1 a2) (hC : Blk w cb 54 #[v1, v2, .int .i64 (a : Int), .int .i64 (z : Int)]) (h1 : w.ownsRow B 35 4 v1 k (bvs cs)) (h2 : w.ownsRow B 52 2 v2 k (prs pl)) (hB : B ≤ cb) (h : parse (S.data.toList.drop a) = some b) (hk : k ≤ 1000000) (hn : b.n = (k : Int)) (hz : z ≤ 2000) (hl : z + b.z.toNat ≤ 2000) : Calls Tryd.prog 45 #[.pointer (some ⟨cb, 0, none⟩), .string S] w fun e w' => ∃ u1 u2, e = .returned .nilIface ∧ Blk w' cb 54 #[u1, u2, .int .i64 ((a : Int) + 10 + b.body.size), .int .i64 ((z : Int) + b.z)] ∧ w'.ownsRow B 35 4 u1 (k + 1) (bvs (cs ++ [b])) ∧ w'.ownsRow B 52 2 u2 (k + 1) (prs (pl ++ [((a : Int), (z : Int))])) ∧ Below B w w' := by
  have HR := hid (c_RB_some S a _ b w a0 a1 a2 hS ha rfl hG h)
  have hbo := parse_len h
  have hbn := hbo.1.1
  have hbz := hbo.1.2.1
  have hbt := hbo.2.1
  rw [List.length_drop] at hbt
  have hSl : S.data.toList.length = S.size := by simp
  rw [hSl] at hbt
  have HC := hid hC
  have H1 := hid h1
  have H2 := hid h2
  obtain ⟨A1, c1, rfl, _, hq1⟩ := own_bls h1
  clear hq1
  have hcs : cs.length = k := by have := h1.1; rw [bvs_len] at this; omega
  rw [hcs] at H1 HC h1 hC
  obtain ⟨c0, c1', c2, c3⟩ := hC.cells4y
  obtain ⟨nb, hnb⟩ : ∃ nb, nb = b.n := ⟨_, rfl⟩
  obtain ⟨zl, hzb⟩ : ∃ zl, zl = b.z := ⟨_, rfl⟩
  have HBV := hid (show [.int .i64 nb, .bool b.raw, .int .i64 zl, .string b.body] = bv b by rw [hnb, hzb]; rfl)
  rw [← hnb] at hn hbn
  rw [← hzb] at hbz hl
  rw [← hnb, ← hzb] at HR
  rw [← hzb]
  have hnk : (nb != (k : Int)) = false := by simp [hn]
  have hld : decide ((2000 : Int) < (z : Int) + zl) = false := decide_eq_false (by omega)
  clear hC hG h hbo hSl hnb hn hl hzb h1 h2 hcs
  go_enter Tryd.func45, Tryd.ntmps45
  go_wp2_with fail
  refine (HR.out).mono ?_
  rintro e w1 ⟨rfl, hb1⟩
  have hBw : B ≤ w.heap.size := by have := HC.out.lt; omega
  have k1 := hb1.mono hBw
  replace HC := hid (HC.out.on hb1)
  replace H1 := hid (own_on H1.out hb1)
  replace H2 := hid (own_on H2.out hb1)
  clear c0 c1' c2 c3 hb1
  have HQC := hid HC.out.lt
  have HNq := hid (fun g (hg : (Value.slice A1 k c1).ownBlock = some g) => (H1.out.lt g hg).2)
  have KB := hid (Blk.new w1 35 #[.int .i64 nb, .bool b.raw, .int .i64 zl, .string b.body])
  replace HC := hid (HC.out.alloc (.cells #[.int .i64 nb, .bool b.raw, .int .i64 zl, .string b.body] 35))
  replace H1 := hid (H1.out.alloc (.cells #[.int .i64 nb, .bool b.raw, .int .i64 zl, .string b.body] 35))
  replace H2 := hid (H2.out.alloc (.cells #[.int .i64 nb, .bool b.raw, .int .i64 zl, .string b.body] 35))
  have K1 := hid (k1.trans (Below.mono (show Below w1.heap.size w1 (w1.alloc (.cells #[.int .i64 nb, .bool b.raw, .int .i64 zl, .string b.body] 35)) by (repeat (first | with_reducible (first | assumption | exact Below.refl _ _ | refine bel_alloc ?_ _ | refine bel_drew ?_ | refine bel_drewN ?_ _ | refine bel_set ?_ (by first | omega | (simp; done) | (simp; omega)) _ | refine bel_trans ?_ (by assumption)) | assumption | refine bel_trans ?_ (by assumption)))) (by have := k1.size; omega)))
  obtain ⟨d0, d1, d2, d3⟩ := KB.out.cells4y
  obtain ⟨c0, c1', c2, c3⟩ := HC.out.cells4y
  clear k1
  go_wp2_with fail
  obtain ⟨X1, hX1⟩ : ∃ X, X = w1.alloc (.cells #[.int .i64 nb, .bool b.raw, .int .i64 zl, .string b.body] 35) := ⟨_, rfl⟩
  obtain ⟨q, hq⟩ : ∃ q, q = w1.heap.size := ⟨_, rfl⟩
  rw [← hX1] at HC H1 H2 K1 d0 d1 d2 d3 c0 c1' c2 c3 KB ⊢
  rw [← hq] at KB d0 d1 d2 d3 HNq HQC ⊢
  clear hX1 hq
  go_quiet (fail)
  obtain ⟨X2, hX2⟩ : ∃ X, X = X1.drewN nq := ⟨_, rfl⟩
  have e2 : Below X1.heap.size X1 X2 := by rw [hX2]; (repeat (first | with_reducible (first | assumption | exact Below.refl _ _ | refine bel_alloc ?_ _ | refine bel_drew ?_ | refine bel_drewN ?_ _ | refine bel_set ?_ (by first | omega | (simp; done) | (simp; omega)) _ | refine bel_trans ?_ (by assumption)) | assumption | refine bel_trans ?_ (by assumption)))
  rw [← hX2]
  replace HC := hid (HC.out.on e2)
  replace H1 := hid (own_on H1.out e2)
  replace H2 := hid (own_on H2.out e2)
  replace KB := hid (KB.out.on e2)
  replace K1 := hid (K1.out.trans (e2.mono (by have := K1.out.size; omega)))
  clear e2 hX2 d0 d1 d2 d3 c0 c1' c2 c3
  obtain ⟨d0, d1, d2, d3⟩ := KB.out.cells4y
  obtain ⟨c0, c1', c2, c3⟩ := HC.out.cells4y
  go_wp2_with fail
  go_quiet (fail)
  obtain ⟨X3, hX3⟩ : ∃ X, X = X2.drewN nq := ⟨_, rfl⟩
  have e2 : Below X2.heap.size X2 X3 := by rw [hX3]; (repeat (first | with_reducible (first | assumption | exact Below.refl _ _ | refine bel_alloc ?_ _ | refine bel_drew ?_ | refine bel_drewN ?_ _ | refine bel_set ?_ (by first | omega | (simp; done) | (simp; omega)) _ | refine bel_trans ?_ (by assumption)) | assumption | refine bel_trans ?_ (by assumption)))
  rw [← hX3]
  replace HC := hid (HC.out.on e2)
  replace H1 := hid (own_on H1.out e2)
  replace H2 := hid (own_on H2.out e2)
  replace KB := hid (KB.out.on e2)
  replace K1 := hid (K1.out.trans (e2.mono (by have := K1.out.size; omega)))
  clear e2 hX3 d0 d1 d2 d3 c0 c1' c2 c3
  obtain ⟨d0, d1, d2, d3⟩ := KB.out.cells4y
  obtain ⟨c0, c1', c2, c3⟩ := HC.out.cells4y
  go_wp2_with fail
  have hT5 : X3.cell? ⟨q, 0, none⟩ = some (.int .i64 nb) ∧ X3.cell? ⟨q, 1, none⟩ = some (.bool b.raw) ∧ X3.cell? ⟨q, 2, none⟩ = some (.int .i64 zl) ∧ X3.cell? ⟨q, 3, none⟩ = some (.string b.body) ∧ True := ⟨d0, d1, d2, d3, trivial⟩
  have hqc : q ≠ cb := by have := HQC.out; omega
  have hf0 := HC.out.frozen 0
  have hBX : B ≤ X3.heap.size := by have := K1.out.size; omega
  have n1 := own_away H1.out HC.out (by decide)
  have HN2 := hid (own_two H1.out H2.out (by decide))
  clear d0 d1 d2 d3 c1' c2 c3
  refine wp_region_noPanic ?_
  refine wp_region_held_drew (S := (fun v => v.cell? ⟨q, 0, none⟩ = some (.int .i64 nb) ∧ v.cell? ⟨q, 1, none⟩ = some (.bool b.raw) ∧ v.cell? ⟨q, 2, none⟩ = some (.int .i64 zl) ∧ v.cell? ⟨q, 3, none⟩ = some (.string b.body) ∧ True)) (by kernel_rfl) (t4_drew hT5) (fun hHeld => ?_)
  refine tk 0 ?_
  refine tk 1 ?_
  refine tk 2 ?_
  refine tk 3 ?_
  refine tk 5 ?_
  refine wpAnyH_ready (rs := [4, 6]) (by kernel_rfl) (by simp) ?_
  refine AllReadyH.cons (o := ?or1_4) ?ir1_4 (fun K hK => ?sr1_4) (AllReadyH.cons (o := ?or1_6) ?ir1_6 (fun K hK => ?sr1_6) AllReadyH.nil)
  case ir1_4 => (simp only [List.getElem?_toArray, List.getElem?_cons_succ, List.getElem?_cons_zero]; rfl)
  case ir1_6 => (simp only [List.getElem?_toArray, List.getElem?_cons_succ, List.getElem?_cons_zero]; rfl)
  case' sr1_4 =>
    (go_simp; (skip))
    refine hK.out _ _ ?kr1_4 (fun hHeld => ?_)
    case kr1_4 => (try dsimp only); (first | with_reducible assumption | with_reducible exact t4_set hqc (by assumption) | exact t4_bel (by assumption) (by assumption) | assumption | exact t4_alloc (by assumption) _ | exact t4_set hqc (by assumption))
    clear hK K
    try simp only [Act.put, List.setIfInBounds_toArray, List.set_cons_zero, List.set_cons_succ]
    refine wpAnyH_ready (rs := [6]) (by kernel_rfl) (by simp) ?_
    refine AllReadyH.cons (o := ?or1b1_6) ?ir1b1_6 (fun K hK => ?sr1b1_6) AllReadyH.nil
    case ir1b1_6 => (simp only [List.getElem?_toArray, List.getElem?_cons_succ, List.getElem?_cons_zero]; rfl)
    ((go_simp; refine RFresh.learnd (fun V hV hN => ?_); have hSn := t4_eqd hV hT5; have hVb : Below X3.heap.size X3 V := (by rw [hV]; exact bel_drew (bel_alloc (Below.refl _ _) _)); have hcV : V.cell? ⟨cb, 0, none⟩ = some (.slice A1 k c1) := (HC.out.on hVb).cell 0; clear hV))
    refine hK.out _ _ ?kr1b1_6 (fun hHeld => ?_)
    case kr1b1_6 => (try dsimp only); (first | with_reducible assumption | with_reducible exact t4_set hqc (by assumption) | exact t4_bel (by assumption) (by assumption) | assumption | exact t4_alloc (by assumption) _ | exact t4_set hqc (by assumption))
    clear hK K
    try simp only [Act.put, List.setIfInBounds_toArray, List.set_cons_zero, List.set_cons_succ]
    refine wpAnyH_ready (rs := [7]) (by kernel_rfl) (by simp) ?_
    refine AllReadyH.cons (o := ?or1b1_7) ?ir1b1_7 (fun K hK => ?sr1b1_7) AllReadyH.nil
    case ir1b1_7 => (simp only [List.getElem?_toArray, List.getElem?_cons_succ, List.getElem?_cons_zero]; rfl)
    ((refine step_bl (by rfl) _ _ 45 (by rfl) B 35 Tryd.underlying45 Tryd.info_block (.slice A1 k c1) k cs (by rfl) (own_on H1.out hVb) b X3.heap.size 1 35 _ _ _ _ hN HBV.out (by rfl) (by omega) (by have := hVb.size; omega) ?_; intro v5 w5 hown5 hb5 hg5; obtain ⟨A5, c5, hv5, _, hq5⟩ := own_bls hown5; rw [← hq5] at hv5; subst hv5; clear hq5; have hqo : some q ≠ (Value.slice A1 k c1).ownBlock := (fun h => absurd (HNq.out q h.symm) (Nat.lt_irrefl _)); have hC5 := (HC.out.on hVb).grownR hg5 n1; have kC0 : w5.cell? ⟨cb, 0, none⟩ = some (.slice A1 k c1) := hC5.cell 0; have hf5 : w5.frozen? ⟨cb, 0, none⟩ = false := hC5.frozen 0; have hSn := (show _ ∧ _ ∧ _ ∧ _ ∧ True from ⟨hg5.cell hSn.1 hqo, hg5.cell hSn.2.1 hqo, hg5.cell hSn.2.2.1 hqo, hg5.cell hSn.2.2.2.1 hqo, trivial⟩)))
    refine hK.out _ _ ?kr1b1_7 (fun hHeld => ?_)
    case kr1b1_7 => (try dsimp only); (first | with_reducible assumption | with_reducible exact t4_set hqc (by assumption) | exact t4_bel (by assumption) (by assumption) | assumption | exact t4_alloc (by assumption) _ | exact t4_set hqc (by assumption))
    clear hK K
    try simp only [Act.put, List.setIfInBounds_toArray, List.set_cons_zero, List.set_cons_succ]
    refine tk 8 ?_
    refine tk 9 ?_
    refine wpAnyH_ready (rs := [10]) (by kernel_rfl) (by simp) ?_
    refine AllReadyH.cons (o := ?or1b1_10) ?ir1b1_10 (fun K hK => ?sr1b1_10) AllReadyH.nil
    case ir1b1_10 => (simp only [List.getElem?_toArray, List.getElem?_cons_succ, List.getElem?_cons_zero]; rfl)
    (go_simp; (skip))
    refine hK.out _ _ ?kr1b1_10 (fun hHeld => ?_)
    case kr1b1_10 => (try dsimp only); (first | with_reducible assumption | with_reducible exact t4_set hqc (by assumption) | exact t4_bel (by assumption) (by assumption) | assumption | exact t4_alloc (by assumption) _ | exact t4_set hqc (by assumption))
    clear hK K
    try simp only [Act.put, List.setIfInBounds_toArray, List.set_cons_zero, List.set_cons_succ]
    refine wpAnyH_done (by kernel_rfl) ?_ _
    refine NoPanic.normal ?_
  case' sr1_6 =>
    ((go_simp; refine RFresh.learnd (fun V hV hN => ?_); have hSn := t4_eqd hV hT5; have hVb : Below X3.heap.size X3 V := (by rw [hV]; exact bel_drew (bel_alloc (Below.refl _ _) _)); have hcV : V.cell? ⟨cb, 0, none⟩ = some (.slice A1 k c1) := (HC.out.on hVb).cell 0; clear hV))
    refine hK.out _ _ ?kr1_6 (fun hHeld => ?_)
    case kr1_6 => (try dsimp only); (first | with_reducible assumption | with_reducible exact t4_set hqc (by assumption) | exact t4_bel (by assumption) (by assumption) | assumption | exact t4_alloc (by assumption) _ | exact t4_set hqc (by assumption))
    clear hK K
    try simp only [Act.put, List.setIfInBounds_toArray, List.set_cons_zero, List.set_cons_succ]
    refine wpAnyH_ready (rs := [4]) (by kernel_rfl) (by simp) ?_
    refine AllReadyH.cons (o := ?or1b2_4) ?ir1b2_4 (fun K hK => ?sr1b2_4) AllReadyH.nil
    case ir1b2_4 => (simp only [List.getElem?_toArray, List.getElem?_cons_succ, List.getElem?_cons_zero]; rfl)
    (go_simp; (skip))
    refine hK.out _ _ ?kr1b2_4 (fun hHeld => ?_)
    case kr1b2_4 => (try dsimp only); (first | with_reducible assumption | with_reducible exact t4_set hqc (by assumption) | exact t4_bel (by assumption) (by assumption) | assumption | exact t4_alloc (by assumption) _ | exact t4_set hqc (by assumption))
    clear hK K
    try simp only [Act.put, List.setIfInBounds_toArray, List.set_cons_zero, List.set_cons_succ]
    refine wpAnyH_ready (rs := [7]) (by kernel_rfl) (by simp) ?_
    refine AllReadyH.cons (o := ?or1b2_7) ?ir1b2_7 (fun K hK => ?sr1b2_7) AllReadyH.nil
    case ir1b2_7 => (simp only [List.getElem?_toArray, List.getElem?_cons_succ, List.getElem?_cons_zero]; rfl)
    ((refine step_bl (by rfl) _ _ 45 (by rfl) B 35 Tryd.underlying45 Tryd.info_block (.slice A1 k c1) k cs (by rfl) (own_on H1.out hVb) b X3.heap.size 1 35 _ _ _ _ hN HBV.out (by rfl) (by omega) (by have := hVb.size; omega) ?_; intro v5 w5 hown5 hb5 hg5; obtain ⟨A5, c5, hv5, _, hq5⟩ := own_bls hown5; rw [← hq5] at hv5; subst hv5; clear hq5; have hqo : some q ≠ (Value.slice A1 k c1).ownBlock := (fun h => absurd (HNq.out q h.symm) (Nat.lt_irrefl _)); have hC5 := (HC.out.on hVb).grownR hg5 n1; have kC0 : w5.cell? ⟨cb, 0, none⟩ = some (.slice A1 k c1) := hC5.cell 0; have hf5 : w5.frozen? ⟨cb, 0, none⟩ = false := hC5.frozen 0; have hSn := (show _ ∧ _ ∧ _ ∧ _ ∧ True from ⟨hg5.cell hSn.1 hqo, hg5.cell hSn.2.1 hqo, hg5.cell hSn.2.2.1 hqo, hg5.cell hSn.2.2.2.1 hqo, trivial⟩)))
    refine hK.out _ _ ?kr1b2_7 (fun hHeld => ?_)
    case kr1b2_7 => (try dsimp only); (first | with_reducible assumption | with_reducible exact t4_set hqc (by assumption) | exact t4_bel (by assumption) (by assumption) | assumption | exact t4_alloc (by assumption) _ | exact t4_set hqc (by assumption))
    clear hK K
    try simp only [Act.put, List.setIfInBounds_toArray, List.set_cons_zero, List.set_cons_succ]
    refine tk 8 ?_
    refine tk 9 ?_
    refine wpAnyH_ready (rs := [10]) (by kernel_rfl) (by simp) ?_
    refine AllReadyH.cons (o := ?or1b2_10) ?ir1b2_10 (fun K hK => ?sr1b2_10) AllReadyH.nil
    case ir1b2_10 => (simp only [List.getElem?_toArray, List.getElem?_cons_succ, List.getElem?_cons_zero]; rfl)
    (go_simp; (skip))
    refine hK.out _ _ ?kr1b2_10 (fun hHeld => ?_)
    case kr1b2_10 => (try dsimp only); (first | with_reducible assumption | with_reducible exact t4_set hqc (by assumption) | exact t4_bel (by assumption) (by assumption) | assumption | exact t4_alloc (by assumption) _ | exact t4_set hqc (by assumption))
    clear hK K
    try simp only [Act.put, List.setIfInBounds_toArray, List.set_cons_zero, List.set_cons_succ]
    refine wpAnyH_done (by kernel_rfl) ?_ _
    refine NoPanic.normal ?_
  · have hne5 := own_away hown5 hC5 (by decide)
    have hV2 := own_grownR (own_on H2.out hVb) hg5 (fun g h1 h2 => HN2.out g h2 h1)
    have hA2 := own_away hV2 hC5 (by decide)
    have hKq := (KB.out.on hVb).grownR hg5 hqo
    have hS1 := hid (ownsRow_setCell_other hown5 (a := ⟨cb, 0, none⟩) (fun h => hne5 h.symm) (.slice A5 (k + 1) c5))
    have hS2 := hid (ownsRow_setCell_other hV2 (a := ⟨cb, 0, none⟩) (fun h => hA2 h.symm) (.slice A5 (k + 1) c5))
    have hSC := hid (hC5.set_ 0 (.slice A5 (k + 1) c5))
    have hSK := hid (hKq.far 0 (.slice A5 (k + 1) c5) hqc)
    have hSB := hid ((K1.out.trans ((hVb.mono hBX).trans hb5)).setCell (p := ⟨cb, 0, none⟩) hB (.slice A5 (k + 1) c5))
    obtain ⟨X5, hX5⟩ : ∃ X, X = w5.setCell ⟨cb, 0, none⟩ (.slice A5 (k + 1) c5) := ⟨_, rfl⟩
    rw [← hX5] at hS1 hS2 hSC hSK hSB ⊢
    obtain ⟨d0, d1, d2, d3⟩ := hSK.out.cells4y
    obtain ⟨c0, c1', c2, c3⟩ := hSC.out.cells4y
    have hT6 : X5.cell? ⟨q, 0, none⟩ = some (.int .i64 nb) ∧ X5.cell? ⟨q, 1, none⟩ = some (.bool b.raw) ∧ X5.cell? ⟨q, 2, none⟩ = some (.int .i64 zl) ∧ X5.cell? ⟨q, 3, none⟩ = some (.string b.body) ∧ True := ⟨d0, d1, d2, d3, trivial⟩
    have hBX5 : B ≤ X5.heap.size := by have := hSB.out.size; omega
    have m2 := own_away hS2.out hSC.out (by decide)
    have m1 := own_away hS1.out hSC.out (by decide)
    have HN3 := hid (own_two hS2.out hS1.out (by decide))
    have mq := own_away hS2.out hSK.out (by decide)
    clear hX5 hown5 hb5 hg5 hqo hC5 kC0 hf5 hSn hVb hN hcV hne5 hV2 hA2 hKq hT5 d0 d1 d2 d3 n1 HC H1 H2 KB K1 HN2 hHeld
    go_wp2_with fail
    refine wp_region_noPanic ?_
    refine wp_region_held_drew (S := (fun v => v.cell? ⟨q, 0, none⟩ = some (.int .i64 nb) ∧ v.cell? ⟨q, 1, none⟩ = some (.bool b.raw) ∧ v.cell? ⟨q, 2, none⟩ = some (.int .i64 zl) ∧ v.cell? ⟨q, 3, none⟩ = some (.string b.body) ∧ True)) (by kernel_rfl) (t4_drew hT6) (fun hHeld => ?_)
    refine tk 0 ?_
    refine tk 1 ?_
    refine tk 2 ?_
    refine tk 3 ?_
    refine tk 5 ?_
    refine tk 6 ?_
    refine tk 7 ?_
    refine wpAnyH_ready (rs := [4, 8]) (by kernel_rfl) (by simp) ?_
    refine AllReadyH.cons (o := ?or2_4) ?ir2_4 (fun K hK => ?sr2_4) (AllReadyH.cons (o := ?or2_8) ?ir2_8 (fun K hK => ?sr2_8) AllReadyH.nil)
    case ir2_4 => (simp only [List.getElem?_toArray, List.getElem?_cons_succ, List.getElem?_cons_zero]; rfl)
    case ir2_8 => (simp only [List.getElem?_toArray, List.getElem?_cons_succ, List.getElem?_cons_zero]; rfl)
    case' sr2_4 =>
      (go_simp; (skip))
      refine hK.out _ _ ?kr2_4 (fun hHeld => ?_)
      case kr2_4 => (try dsimp only); (first | with_reducible assumption | with_reducible exact t4_set hqc (by assumption) | exact t4_bel (by assumption) (by assumption) | assumption | exact t4_alloc (by assumption) _ | exact t4_set hqc (by assumption))
      clear hK K
      try simp only [Act.put, List.setIfInBounds_toArray, List.set_cons_zero, List.set_cons_succ]
      refine wpAnyH_ready (rs := [8]) (by kernel_rfl) (by simp) ?_
      refine AllReadyH.cons (o := ?or2b1_8) ?ir2b1_8 (fun K hK => ?sr2b1_8) AllReadyH.nil
      case ir2b1_8 => (simp only [List.getElem?_toArray, List.getElem?_cons_succ, List.getElem?_cons_zero]; rfl)
      (go_simp; (skip))
      refine hK.out _ _ ?kr2b1_8 (fun hHeld => ?_)
      case kr2b1_8 => (try dsimp only); (first | with_reducible assumption | with_reducible exact t4_set hqc (by assumption) | exact t4_bel (by assumption) (by assumption) | assumption | exact t4_alloc (by assumption) _ | exact t4_set hqc (by assumption))
      clear hK K
      try simp only [Act.put, List.setIfInBounds_toArray, List.set_cons_zero, List.set_cons_succ]
      refine wpAnyH_ready (rs := [9]) (by kernel_rfl) (by simp) ?_
      refine AllReadyH.cons (o := ?or2b1_9) ?ir2b1_9 (fun K hK => ?sr2b1_9) AllReadyH.nil
      case ir2b1_9 => (simp only [List.getElem?_toArray, List.getElem?_cons_succ, List.getElem?_cons_zero]; rfl)
      ((go_simp; refine RFresh.learnd (fun V hV hN => ?_); have hSn := t4_eqd hV hT6; have hVb : Below X5.heap.size X5 V := (by rw [hV]; exact bel_drew (bel_alloc (Below.refl _ _) _)); have hcV : V.cell? ⟨cb, 1, none⟩ = some v2 := (hSC.out.on hVb).cell 1; clear hV))
      refine hK.out _ _ ?kr2b1_9 (fun hHeld => ?_)
      case kr2b1_9 => (try dsimp only); (first | with_reducible assumption | with_reducible exact t4_set hqc (by assumption) | exact t4_bel (by assumption) (by assumption) | assumption | exact t4_alloc (by assumption) _ | exact t4_set hqc (by assumption))
      clear hK K
      try simp only [Act.put, List.setIfInBounds_toArray, List.set_cons_zero, List.set_cons_succ]
      refine wpAnyH_ready (rs := [10]) (by kernel_rfl) (by simp) ?_
      refine AllReadyH.cons (o := ?or2b1_10) ?ir2b1_10 (fun K hK => ?sr2b1_10) AllReadyH.nil
      case ir2b1_10 => (simp only [List.getElem?_toArray, List.getElem?_cons_succ, List.getElem?_cons_zero]; rfl)
      ((refine step_pl (by rfl) _ _ 50 (by rfl) B 52 Tryd.underlying50 Tryd.info_placeD v2 k pl (by rfl) (own_on hS2.out hVb) ((a : Int), (z : Int)) X5.heap.size 1 52 _ _ hN (by rfl) (by rfl) (by omega) (by have := hVb.size; omega) ?_; intro v7 w7 hown7 hb7 hg7; obtain ⟨A7, c7, hv7, _, hq7, _⟩ := own_ps hown7; rw [← hq7] at hv7; subst hv7; clear hq7; have hC7 := (hSC.out.on hVb).grownR hg7 m2; have kC0 : w7.cell? ⟨cb, 1, none⟩ = some v2 := hC7.cell 1; have hf7 : w7.frozen? ⟨cb, 1, none⟩ = false := hC7.frozen 1; have hSn := (show _ ∧ _ ∧ _ ∧ _ ∧ True from ⟨hg7.cell hSn.1 mq, hg7.cell hSn.2.1 mq, hg7.cell hSn.2.2.1 mq, hg7.cell hSn.2.2.2.1 mq, trivial⟩)))
      refine hK.out _ _ ?kr2b1_10 (fun hHeld => ?_)
      case kr2b1_10 => (try dsimp only); (first | with_reducible assumption | with_reducible exact t4_set hqc (by assumption) | exact t4_bel (by assumption) (by assumption) | assumption | exact t4_alloc (by assumption) _ | exact t4_set hqc (by assumption))
      clear hK K
      try simp only [Act.put, List.setIfInBounds_toArray, List.set_cons_zero, List.set_cons_succ]
      refine tk 11 ?_
      refine tk 12 ?_
      refine wpAnyH_ready (rs := [13]) (by kernel_rfl) (by simp) ?_
      refine AllReadyH.cons (o := ?or2b1_13) ?ir2b1_13 (fun K hK => ?sr2b1_13) AllReadyH.nil
      case ir2b1_13 => (simp only [List.getElem?_toArray, List.getElem?_cons_succ, List.getElem?_cons_zero]; rfl)
      (go_simp; (skip))
      refine hK.out _ _ ?kr2b1_13 (fun hHeld => ?_)
      case kr2b1_13 => (try dsimp only); (first | with_reducible assumption | with_reducible exact t4_set hqc (by assumption) | exact t4_bel (by assumption) (by assumption) | assumption | exact t4_alloc (by assumption) _ | exact t4_set hqc (by assumption))
      clear hK K
      try simp only [Act.put, List.setIfInBounds_toArray, List.set_cons_zero, List.set_cons_succ]
      refine wpAnyH_done (by kernel_rfl) ?_ _
      refine NoPanic.normal ?_
    case' sr2_8 =>
      (go_simp; (skip))
      refine hK.out _ _ ?kr2_8 (fun hHeld => ?_)
      case kr2_8 => (try dsimp only); (first | with_reducible assumption | with_reducible exact t4_set hqc (by assumption) | exact t4_bel (by assumption) (by assumption) | assumption | exact t4_alloc (by assumption) _ | exact t4_set hqc (by assumption))
      clear hK K
      try simp only [Act.put, List.setIfInBounds_toArray, List.set_cons_zero, List.set_cons_succ]
      refine wpAnyH_ready (rs := [4, 9]) (by kernel_rfl) (by simp) ?_
      refine AllReadyH.cons (o := ?or2b2_4) ?ir2b2_4 (fun K hK => ?sr2b2_4) (AllReadyH.cons (o := ?or2b2_9) ?ir2b2_9 (fun K hK => ?sr2b2_9) AllReadyH.nil)
      case ir2b2_4 => (simp only [List.getElem?_toArray, List.getElem?_cons_succ, List.getElem?_cons_zero]; rfl)
      case ir2b2_9 => (simp only [List.getElem?_toArray, List.getElem?_cons_succ, List.getElem?_cons_zero]; rfl)
      case' sr2b2_4 =>
        (go_simp; (skip))
        refine hK.out _ _ ?kr2b2_4 (fun hHeld => ?_)
        case kr2b2_4 => (try dsimp only); (first | with_reducible assumption | with_reducible exact t4_set hqc (by assumption) | exact t4_bel (by assumption) (by assumption) | assumption | exact t4_alloc (by assumption) _ | exact t4_set hqc (by assumption))
        clear hK K
        try simp only [Act.put, List.setIfInBounds_toArray, List.set_cons_zero, List.set_cons_succ]
        refine wpAnyH_ready (rs := [9]) (by kernel_rfl) (by simp) ?_
        refine AllReadyH.cons (o := ?or2b2b3_9) ?ir2b2b3_9 (fun K hK => ?sr2b2b3_9) AllReadyH.nil
        case ir2b2b3_9 => (simp only [List.getElem?_toArray, List.getElem?_cons_succ, List.getElem?_cons_zero]; rfl)
        ((go_simp; refine RFresh.learnd (fun V hV hN => ?_); have hSn := t4_eqd hV hT6; have hVb : Below X5.heap.size X5 V := (by rw [hV]; exact bel_drew (bel_alloc (Below.refl _ _) _)); have hcV : V.cell? ⟨cb, 1, none⟩ = some v2 := (hSC.out.on hVb).cell 1; clear hV))
        refine hK.out _ _ ?kr2b2b3_9 (fun hHeld => ?_)
        case kr2b2b3_9 => (try dsimp only); (first | with_reducible assumption | with_reducible exact t4_set hqc (by assumption) | exact t4_bel (by assumption) (by assumption) | assumption | exact t4_alloc (by assumption) _ | exact t4_set hqc (by assumption))
        clear hK K
        try simp only [Act.put, List.setIfInBounds_toArray, List.set_cons_zero, List.set_cons_succ]
        refine wpAnyH_ready (rs := [10]) (by kernel_rfl) (by simp) ?_
        refine AllReadyH.cons (o := ?or2b2b3_10) ?ir2b2b3_10 (fun K hK => ?sr2b2b3_10) AllReadyH.nil
        case ir2b2b3_10 => (simp only [List.getElem?_toArray, List.getElem?_cons_succ, List.getElem?_cons_zero]; rfl)
        ((refine step_pl (by rfl) _ _ 50 (by rfl) B 52 Tryd.underlying50 Tryd.info_placeD v2 k pl (by rfl) (own_on hS2.out hVb) ((a : Int), (z : Int)) X5.heap.size 1 52 _ _ hN (by rfl) (by rfl) (by omega) (by have := hVb.size; omega) ?_; intro v7 w7 hown7 hb7 hg7; obtain ⟨A7, c7, hv7, _, hq7, _⟩ := own_ps hown7; rw [← hq7] at hv7; subst hv7; clear hq7; have hC7 := (hSC.out.on hVb).grownR hg7 m2; have kC0 : w7.cell? ⟨cb, 1, none⟩ = some v2 := hC7.cell 1; have hf7 : w7.frozen? ⟨cb, 1, none⟩ = false := hC7.frozen 1; have hSn := (show _ ∧ _ ∧ _ ∧ _ ∧ True from ⟨hg7.cell hSn.1 mq, hg7.cell hSn.2.1 mq, hg7.cell hSn.2.2.1 mq, hg7.cell hSn.2.2.2.1 mq, trivial⟩)))
        refine hK.out _ _ ?kr2b2b3_10 (fun hHeld => ?_)
        case kr2b2b3_10 => (try dsimp only); (first | with_reducible assumption | with_reducible exact t4_set hqc (by assumption) | exact t4_bel (by assumption) (by assumption) | assumption | exact t4_alloc (by assumption) _ | exact t4_set hqc (by assumption))
        clear hK K
        try simp only [Act.put, List.setIfInBounds_toArray, List.set_cons_zero, List.set_cons_succ]
        refine tk 11 ?_
        refine tk 12 ?_
        refine wpAnyH_ready (rs := [13]) (by kernel_rfl) (by simp) ?_
        refine AllReadyH.cons (o := ?or2b2b3_13) ?ir2b2b3_13 (fun K hK => ?sr2b2b3_13) AllReadyH.nil
        case ir2b2b3_13 => (simp only [List.getElem?_toArray, List.getElem?_cons_succ, List.getElem?_cons_zero]; rfl)
        (go_simp; (skip))
        refine hK.out _ _ ?kr2b2b3_13 (fun hHeld => ?_)
        case kr2b2b3_13 => (try dsimp only); (first | with_reducible assumption | with_reducible exact t4_set hqc (by assumption) | exact t4_bel (by assumption) (by assumption) | assumption | exact t4_alloc (by assumption) _ | exact t4_set hqc (by assumption))
        clear hK K
        try simp only [Act.put, List.setIfInBounds_toArray, List.set_cons_zero, List.set_cons_succ]
        refine wpAnyH_done (by kernel_rfl) ?_ _
        refine NoPanic.normal ?_
      case' sr2b2_9 =>
        ((go_simp; refine RFresh.learnd (fun V hV hN => ?_); have hSn := t4_eqd hV hT6; have hVb : Below X5.heap.size X5 V := (by rw [hV]; exact bel_drew (bel_alloc (Below.refl _ _) _)); have hcV : V.cell? ⟨cb, 1, none⟩ = some v2 := (hSC.out.on hVb).cell 1; clear hV))
        refine hK.out _ _ ?kr2b2_9 (fun hHeld => ?_)
        case kr2b2_9 => (try dsimp only); (first | with_reducible assumption | with_reducible exact t4_set hqc (by assumption) | exact t4_bel (by assumption) (by assumption) | assumption | exact t4_alloc (by assumption) _ | exact t4_set hqc (by assumption))
        clear hK K
        try simp only [Act.put, List.setIfInBounds_toArray, List.set_cons_zero, List.set_cons_succ]
        refine wpAnyH_ready (rs := [4]) (by kernel_rfl) (by simp) ?_
        refine AllReadyH.cons (o := ?or2b2b4_4) ?ir2b2b4_4 (fun K hK => ?sr2b2b4_4) AllReadyH.nil
        case ir2b2b4_4 => (simp only [List.getElem?_toArray, List.getElem?_cons_succ, List.getElem?_cons_zero]; rfl)
        (go_simp; (skip))
        refine hK.out _ _ ?kr2b2b4_4 (fun hHeld => ?_)
        case kr2b2b4_4 => (try dsimp only); (first | with_reducible assumption | with_reducible exact t4_set hqc (by assumption) | exact t4_bel (by assumption) (by assumption) | assumption | exact t4_alloc (by assumption) _ | exact t4_set hqc (by assumption))
        clear hK K
        try simp only [Act.put, List.setIfInBounds_toArray, List.set_cons_zero, List.set_cons_succ]
        refine wpAnyH_ready (rs := [10]) (by kernel_rfl) (by simp) ?_
        refine AllReadyH.cons (o := ?or2b2b4_10) ?ir2b2b4_10 (fun K hK => ?sr2b2b4_10) AllReadyH.nil
        case ir2b2b4_10 => (simp only [List.getElem?_toArray, List.getElem?_cons_succ, List.getElem?_cons_zero]; rfl)
        ((refine step_pl (by rfl) _ _ 50 (by rfl) B 52 Tryd.underlying50 Tryd.info_placeD v2 k pl (by rfl) (own_on hS2.out hVb) ((a : Int), (z : Int)) X5.heap.size 1 52 _ _ hN (by rfl) (by rfl) (by omega) (by have := hVb.size; omega) ?_; intro v7 w7 hown7 hb7 hg7; obtain ⟨A7, c7, hv7, _, hq7, _⟩ := own_ps hown7; rw [← hq7] at hv7; subst hv7; clear hq7; have hC7 := (hSC.out.on hVb).grownR hg7 m2; have kC0 : w7.cell? ⟨cb, 1, none⟩ = some v2 := hC7.cell 1; have hf7 : w7.frozen? ⟨cb, 1, none⟩ = false := hC7.frozen 1; have hSn := (show _ ∧ _ ∧ _ ∧ _ ∧ True from ⟨hg7.cell hSn.1 mq, hg7.cell hSn.2.1 mq, hg7.cell hSn.2.2.1 mq, hg7.cell hSn.2.2.2.1 mq, trivial⟩)))
        refine hK.out _ _ ?kr2b2b4_10 (fun hHeld => ?_)
        case kr2b2b4_10 => (try dsimp only); (first | with_reducible assumption | with_reducible exact t4_set hqc (by assumption) | exact t4_bel (by assumption) (by assumption) | assumption | exact t4_alloc (by assumption) _ | exact t4_set hqc (by assumption))
        clear hK K
        try simp only [Act.put, List.setIfInBounds_toArray, List.set_cons_zero, List.set_cons_succ]
        refine tk 11 ?_
        refine tk 12 ?_
        refine wpAnyH_ready (rs := [13]) (by kernel_rfl) (by simp) ?_
        refine AllReadyH.cons (o := ?or2b2b4_13) ?ir2b2b4_13 (fun K hK => ?sr2b2b4_13) AllReadyH.nil
        case ir2b2b4_13 => (simp only [List.getElem?_toArray, List.getElem?_cons_succ, List.getElem?_cons_zero]; rfl)
        (go_simp; (skip))
        refine hK.out _ _ ?kr2b2b4_13 (fun hHeld => ?_)
        case kr2b2b4_13 => (try dsimp only); (first | with_reducible assumption | with_reducible exact t4_set hqc (by assumption) | exact t4_bel (by assumption) (by assumption) | assumption | exact t4_alloc (by assumption) _ | exact t4_set hqc (by assumption))
        clear hK K
        try simp only [Act.put, List.setIfInBounds_toArray, List.set_cons_zero, List.set_cons_succ]
        refine wpAnyH_done (by kernel_rfl) ?_ _
        refine NoPanic.normal ?_
    all_goals
      have hne7 := own_away hown7 hC7 (by decide)
      have hV1 := own_grownR (own_on hS1.out hVb) hg7 (fun g h1 h2 => HN3.out g h2 h1)
      have hA1 := own_away hV1 hC7 (by decide)
      have hKq := (hSK.out.on hVb).grownR hg7 mq
      have gS2 := hid (ownsRow_setCell_other hown7 (a := ⟨cb, 1, none⟩) (fun h => hne7 h.symm) (.slice A7 (k + 1) c7))
      have gS1 := hid (ownsRow_setCell_other hV1 (a := ⟨cb, 1, none⟩) (fun h => hA1 h.symm) (.slice A7 (k + 1) c7))
      have gSC := hid (hC7.set_ 1 (.slice A7 (k + 1) c7))
      have gSK := hid (hKq.far 1 (.slice A7 (k + 1) c7) hqc)
      have gSB := hid ((hSB.out.trans ((hVb.mono hBX5).trans hb7)).setCell (p := ⟨cb, 1, none⟩) hB (.slice A7 (k + 1) c7))
      obtain ⟨X7, hX7⟩ : ∃ X, X = w7.setCell ⟨cb, 1, none⟩ (.slice A7 (k + 1) c7) := ⟨_, rfl⟩
      rw [← hX7] at gS1 gS2 gSC gSK gSB ⊢
      obtain ⟨d0, d1, d2, d3⟩ := gSK.out.cells4y
      have e0 : X7.cell? ⟨cb, 0, none⟩ = some (.slice A5 (k + 1) c5) := gSC.out.cell 0
      have e1 : X7.cell? ⟨cb, 1, none⟩ = some (.slice A7 (k + 1) c7) := gSC.out.cell 1
      have e2 : X7.cell? ⟨cb, 2, none⟩ = some (.int .i64 (a : Int)) := gSC.out.cell 2
      have e3 : X7.cell? ⟨cb, 3, none⟩ = some (.int .i64 (z : Int)) := gSC.out.cell 3
      have f2 : X7.frozen? ⟨cb, 2, none⟩ = false := gSC.out.frozen 2
      have f3 : X7.frozen? ⟨cb, 3, none⟩ = false := gSC.out.frozen 3
      have hqc' : ¬ (cb = q) := fun h => hqc h.symm
      clear hX7 hown7 hb7 hg7 hC7 kC0 hf7 hSn hVb hN hcV hne7 hV1 hA1 hKq hT6 c0 c1' c2 c3 m1 m2 mq HN3 hSC hS1 hS2 hSK hSB hHeld
      go_wp2_with fail
      go_region
      all_goals
        go_wp2_with fail
        have w1a := own_away gS1.out gSC.out (by decide)
        have w2a := own_away gS2.out gSC.out (by decide)
        go_ret
        exact ⟨_, _, rfl, ((gSC.out.set_ 2 _).set_ 3 _).drew, own_on (ownsRow_setCell_other (ownsRow_setCell_other gS1.out (a := ⟨cb, 2, none⟩) (fun h => w1a h.symm) _) (a := ⟨cb, 3, none⟩) (fun h => w1a h.symm) _) (bel_drew (Below.refl _ _)), own_on (ownsRow_setCell_other (ownsRow_setCell_other gS2.out (a := ⟨cb, 2, none⟩) (fun h => w2a h.symm) _) (a := ⟨cb, 3, none⟩) (fun h => w2a h.symm) _) (bel_drew (Below.refl _ _)), ((gSB.out.setCell (p := ⟨cb, 2, none⟩) hB _).setCell (p := ⟨cb, 3, none⟩) hB _).drew⟩
  · have hne5 := own_away hown5 hC5 (by decide)
    have hV2 := own_grownR (own_on H2.out hVb) hg5 (fun g h1 h2 => HN2.out g h2 h1)
    have hA2 := own_away hV2 hC5 (by decide)
    have hKq := (KB.out.on hVb).grownR hg5 hqo
    have hS1 := hid (ownsRow_setCell_other hown5 (a := ⟨cb, 0, none⟩) (fun h => hne5 h.symm) (.slice A5 (k + 1) c5))
    have hS2 := hid (ownsRow_setCell_other hV2 (a := ⟨cb, 0, none⟩) (fun h => hA2 h.symm) (.slice A5 (k + 1) c5))
    have hSC := hid (hC5.set_ 0 (.slice A5 (k + 1) c5))
    have hSK := hid (hKq.far 0 (.slice A5 (k + 1) c5) hqc)
    have hSB := hid ((K1.out.trans ((hVb.mono hBX).trans hb5)).setCell (p := ⟨cb, 0, none⟩) hB (.slice A5 (k + 1) c5))
    obtain ⟨X5, hX5⟩ : ∃ X, X = w5.setCell ⟨cb, 0, none⟩ (.slice A5 (k + 1) c5) := ⟨_, rfl⟩
    rw [← hX5] at hS1 hS2 hSC hSK hSB ⊢
    obtain ⟨d0, d1, d2, d3⟩ := hSK.out.cells4y
    obtain ⟨c0, c1', c2, c3⟩ := hSC.out.cells4y
    have hT6 : X5.cell? ⟨q, 0, none⟩ = some (.int .i64 nb) ∧ X5.cell? ⟨q, 1, none⟩ = some (.bool b.raw) ∧ X5.cell? ⟨q, 2, none⟩ = some (.int .i64 zl) ∧ X5.cell? ⟨q, 3, none⟩ = some (.string b.body) ∧ True := ⟨d0, d1, d2, d3, trivial⟩
    have hBX5 : B ≤ X5.heap.size := by have := hSB.out.size; omega
    have m2 := own_away hS2.out hSC.out (by decide)
    have m1 := own_away hS1.out hSC.out (by decide)
    have HN3 := hid (own_two hS2.out hS1.out (by decide))
    have mq := own_away hS2.out hSK.out (by decide)
    clear hX5 hown5 hb5 hg5 hqo hC5 kC0 hf5 hSn hVb hN hcV hne5 hV2 hA2 hKq hT5 d0 d1 d2 d3 n1 HC H1 H2 KB K1 HN2 hHeld
    go_wp2_with fail
    refine wp_region_noPanic ?_
    refine wp_region_held_drew (S := (fun v => v.cell? ⟨q, 0, none⟩ = some (.int .i64 nb) ∧ v.cell? ⟨q, 1, none⟩ = some (.bool b.raw) ∧ v.cell? ⟨q, 2, none⟩ = some (.int .i64 zl) ∧ v.cell? ⟨q, 3, none⟩ = some (.string b.body) ∧ True)) (by kernel_rfl) (t4_drew hT6) (fun hHeld => ?_)
    refine tk 0 ?_
    refine tk 1 ?_
    refine tk 2 ?_
    refine tk 3 ?_
    refine tk 5 ?_
    refine tk 6 ?_
    refine tk 7 ?_
    refine wpAnyH_ready (rs := [4, 8]) (by kernel_rfl) (by simp) ?_
    refine AllReadyH.cons (o := ?or3_4) ?ir3_4 (fun K hK => ?sr3_4) (AllReadyH.cons (o := ?or3_8) ?ir3_8 (fun K hK => ?sr3_8) AllReadyH.nil)
    case ir3_4 => (simp only [List.getElem?_toArray, List.getElem?_cons_succ, List.getElem?_cons_zero]; rfl)
    case ir3_8 => (simp only [List.getElem?_toArray, List.getElem?_cons_succ, List.getElem?_cons_zero]; rfl)
    case' sr3_4 =>
      (go_simp; (skip))
      refine hK.out _ _ ?kr3_4 (fun hHeld => ?_)
      case kr3_4 => (try dsimp only); (first | with_reducible assumption | with_reducible exact t4_set hqc (by assumption) | exact t4_bel (by assumption) (by assumption) | assumption | exact t4_alloc (by assumption) _ | exact t4_set hqc (by assumption))
      clear hK K
      try simp only [Act.put, List.setIfInBounds_toArray, List.set_cons_zero, List.set_cons_succ]
      refine wpAnyH_ready (rs := [8]) (by kernel_rfl) (by simp) ?_
      refine AllReadyH.cons (o := ?or3b1_8) ?ir3b1_8 (fun K hK => ?sr3b1_8) AllReadyH.nil
      case ir3b1_8 => (simp only [List.getElem?_toArray, List.getElem?_cons_succ, List.getElem?_cons_zero]; rfl)
      (go_simp; (skip))
      refine hK.out _ _ ?kr3b1_8 (fun hHeld => ?_)
      case kr3b1_8 => (try dsimp only); (first | with_reducible assumption | with_reducible exact t4_set hqc (by assumption) | exact t4_bel (by assumption) (by assumption) | assumption | exact t4_alloc (by assumption) _ | exact t4_set hqc (by assumption))
      clear hK K
      try simp only [Act.put, List.setIfInBounds_toArray, List.set_cons_zero, List.set_cons_succ]
      refine wpAnyH_ready (rs := [9]) (by kernel_rfl) (by simp) ?_
      refine AllReadyH.cons (o := ?or3b1_9) ?ir3b1_9 (fun K hK => ?sr3b1_9) AllReadyH.nil
      case ir3b1_9 => (simp only [List.getElem?_toArray, List.getElem?_cons_succ, List.getElem?_cons_zero]; rfl)
      ((go_simp; refine RFresh.learnd (fun V hV hN => ?_); have hSn := t4_eqd hV hT6; have hVb : Below X5.heap.size X5 V := (by rw [hV]; exact bel_drew (bel_alloc (Below.refl _ _) _)); have hcV : V.cell? ⟨cb, 1, none⟩ = some v2 := (hSC.out.on hVb).cell 1; clear hV))
      refine hK.out _ _ ?kr3b1_9 (fun hHeld => ?_)
      case kr3b1_9 => (try dsimp only); (first | with_reducible assumption | with_reducible exact t4_set hqc (by assumption) | exact t4_bel (by assumption) (by assumption) | assumption | exact t4_alloc (by assumption) _ | exact t4_set hqc (by assumption))
      clear hK K
      try simp only [Act.put, List.setIfInBounds_toArray, List.set_cons_zero, List.set_cons_succ]
      refine wpAnyH_ready (rs := [10]) (by kernel_rfl) (by simp) ?_
      refine AllReadyH.cons (o := ?or3b1_10) ?ir3b1_10 (fun K hK => ?sr3b1_10) AllReadyH.nil
      case ir3b1_10 => (simp only [List.getElem?_toArray, List.getElem?_cons_succ, List.getElem?_cons_zero]; rfl)
      ((refine step_pl (by rfl) _ _ 50 (by rfl) B 52 Tryd.underlying50 Tryd.info_placeD v2 k pl (by rfl) (own_on hS2.out hVb) ((a : Int), (z : Int)) X5.heap.size 1 52 _ _ hN (by rfl) (by rfl) (by omega) (by have := hVb.size; omega) ?_; intro v7 w7 hown7 hb7 hg7; obtain ⟨A7, c7, hv7, _, hq7, _⟩ := own_ps hown7; rw [← hq7] at hv7; subst hv7; clear hq7; have hC7 := (hSC.out.on hVb).grownR hg7 m2; have kC0 : w7.cell? ⟨cb, 1, none⟩ = some v2 := hC7.cell 1; have hf7 : w7.frozen? ⟨cb, 1, none⟩ = false := hC7.frozen 1; have hSn := (show _ ∧ _ ∧ _ ∧ _ ∧ True from ⟨hg7.cell hSn.1 mq, hg7.cell hSn.2.1 mq, hg7.cell hSn.2.2.1 mq, hg7.cell hSn.2.2.2.1 mq, trivial⟩)))
      refine hK.out _ _ ?kr3b1_10 (fun hHeld => ?_)
      case kr3b1_10 => (try dsimp only); (first | with_reducible assumption | with_reducible exact t4_set hqc (by assumption) | exact t4_bel (by assumption) (by assumption) | assumption | exact t4_alloc (by assumption) _ | exact t4_set hqc (by assumption))
      clear hK K
      try simp only [Act.put, List.setIfInBounds_toArray, List.set_cons_zero, List.set_cons_succ]
      refine tk 11 ?_
      refine tk 12 ?_
      refine wpAnyH_ready (rs := [13]) (by kernel_rfl) (by simp) ?_
      refine AllReadyH.cons (o := ?or3b1_13) ?ir3b1_13 (fun K hK => ?sr3b1_13) AllReadyH.nil
      case ir3b1_13 => (simp only [List.getElem?_toArray, List.getElem?_cons_succ, List.getElem?_cons_zero]; rfl)
      (go_simp; (skip))
      refine hK.out _ _ ?kr3b1_13 (fun hHeld => ?_)
      case kr3b1_13 => (try dsimp only); (first | with_reducible assumption | with_reducible exact t4_set hqc (by assumption) | exact t4_bel (by assumption) (by assumption) | assumption | exact t4_alloc (by assumption) _ | exact t4_set hqc (by assumption))
      clear hK K
      try simp only [Act.put, List.setIfInBounds_toArray, List.set_cons_zero, List.set_cons_succ]
      refine wpAnyH_done (by kernel_rfl) ?_ _
      refine NoPanic.normal ?_
    case' sr3_8 =>
      (go_simp; (skip))
      refine hK.out _ _ ?kr3_8 (fun hHeld => ?_)
      case kr3_8 => (try dsimp only); (first | with_reducible assumption | with_reducible exact t4_set hqc (by assumption) | exact t4_bel (by assumption) (by assumption) | assumption | exact t4_alloc (by assumption) _ | exact t4_set hqc (by assumption))
      clear hK K
      try simp only [Act.put, List.setIfInBounds_toArray, List.set_cons_zero, List.set_cons_succ]
      refine wpAnyH_ready (rs := [4, 9]) (by kernel_rfl) (by simp) ?_
      refine AllReadyH.cons (o := ?or3b2_4) ?ir3b2_4 (fun K hK => ?sr3b2_4) (AllReadyH.cons (o := ?or3b2_9) ?ir3b2_9 (fun K hK => ?sr3b2_9) AllReadyH.nil)
      case ir3b2_4 => (simp only [List.getElem?_toArray, List.getElem?_cons_succ, List.getElem?_cons_zero]; rfl)
      case ir3b2_9 => (simp only [List.getElem?_toArray, List.getElem?_cons_succ, List.getElem?_cons_zero]; rfl)
      case' sr3b2_4 =>
        (go_simp; (skip))
        refine hK.out _ _ ?kr3b2_4 (fun hHeld => ?_)
        case kr3b2_4 => (try dsimp only); (first | with_reducible assumption | with_reducible exact t4_set hqc (by assumption) | exact t4_bel (by assumption) (by assumption) | assumption | exact t4_alloc (by assumption) _ | exact t4_set hqc (by assumption))
        clear hK K
        try simp only [Act.put, List.setIfInBounds_toArray, List.set_cons_zero, List.set_cons_succ]
        refine wpAnyH_ready (rs := [9]) (by kernel_rfl) (by simp) ?_
        refine AllReadyH.cons (o := ?or3b2b3_9) ?ir3b2b3_9 (fun K hK => ?sr3b2b3_9) AllReadyH.nil
        case ir3b2b3_9 => (simp only [List.getElem?_toArray, List.getElem?_cons_succ, List.getElem?_cons_zero]; rfl)
        ((go_simp; refine RFresh.learnd (fun V hV hN => ?_); have hSn := t4_eqd hV hT6; have hVb : Below X5.heap.size X5 V := (by rw [hV]; exact bel_drew (bel_alloc (Below.refl _ _) _)); have hcV : V.cell? ⟨cb, 1, none⟩ = some v2 := (hSC.out.on hVb).cell 1; clear hV))
        refine hK.out _ _ ?kr3b2b3_9 (fun hHeld => ?_)
        case kr3b2b3_9 => (try dsimp only); (first | with_reducible assumption | with_reducible exact t4_set hqc (by assumption) | exact t4_bel (by assumption) (by assumption) | assumption | exact t4_alloc (by assumption) _ | exact t4_set hqc (by assumption))
        clear hK K
        try simp only [Act.put, List.setIfInBounds_toArray, List.set_cons_zero, List.set_cons_succ]
        refine wpAnyH_ready (rs := [10]) (by kernel_rfl) (by simp) ?_
        refine AllReadyH.cons (o := ?or3b2b3_10) ?ir3b2b3_10 (fun K hK => ?sr3b2b3_10) AllReadyH.nil
        case ir3b2b3_10 => (simp only [List.getElem?_toArray, List.getElem?_cons_succ, List.getElem?_cons_zero]; rfl)
        ((refine step_pl (by rfl) _ _ 50 (by rfl) B 52 Tryd.underlying50 Tryd.info_placeD v2 k pl (by rfl) (own_on hS2.out hVb) ((a : Int), (z : Int)) X5.heap.size 1 52 _ _ hN (by rfl) (by rfl) (by omega) (by have := hVb.size; omega) ?_; intro v7 w7 hown7 hb7 hg7; obtain ⟨A7, c7, hv7, _, hq7, _⟩ := own_ps hown7; rw [← hq7] at hv7; subst hv7; clear hq7; have hC7 := (hSC.out.on hVb).grownR hg7 m2; have kC0 : w7.cell? ⟨cb, 1, none⟩ = some v2 := hC7.cell 1; have hf7 : w7.frozen? ⟨cb, 1, none⟩ = false := hC7.frozen 1; have hSn := (show _ ∧ _ ∧ _ ∧ _ ∧ True from ⟨hg7.cell hSn.1 mq, hg7.cell hSn.2.1 mq, hg7.cell hSn.2.2.1 mq, hg7.cell hSn.2.2.2.1 mq, trivial⟩)))
        refine hK.out _ _ ?kr3b2b3_10 (fun hHeld => ?_)
        case kr3b2b3_10 => (try dsimp only); (first | with_reducible assumption | with_reducible exact t4_set hqc (by assumption) | exact t4_bel (by assumption) (by assumption) | assumption | exact t4_alloc (by assumption) _ | exact t4_set hqc (by assumption))
        clear hK K
        try simp only [Act.put, List.setIfInBounds_toArray, List.set_cons_zero, List.set_cons_succ]
        refine tk 11 ?_
        refine tk 12 ?_
        refine wpAnyH_ready (rs := [13]) (by kernel_rfl) (by simp) ?_
        refine AllReadyH.cons (o := ?or3b2b3_13) ?ir3b2b3_13 (fun K hK => ?sr3b2b3_13) AllReadyH.nil
        case ir3b2b3_13 => (simp only [List.getElem?_toArray, List.getElem?_cons_succ, List.getElem?_cons_zero]; rfl)
        (go_simp; (skip))
        refine hK.out _ _ ?kr3b2b3_13 (fun hHeld => ?_)
        case kr3b2b3_13 => (try dsimp only); (first | with_reducible assumption | with_reducible exact t4_set hqc (by assumption) | exact t4_bel (by assumption) (by assumption) | assumption | exact t4_alloc (by assumption) _ | exact t4_set hqc (by assumption))
        clear hK K
        try simp only [Act.put, List.setIfInBounds_toArray, List.set_cons_zero, List.set_cons_succ]
        refine wpAnyH_done (by kernel_rfl) ?_ _
        refine NoPanic.normal ?_
      case' sr3b2_9 =>
        ((go_simp; refine RFresh.learnd (fun V hV hN => ?_); have hSn := t4_eqd hV hT6; have hVb : Below X5.heap.size X5 V := (by rw [hV]; exact bel_drew (bel_alloc (Below.refl _ _) _)); have hcV : V.cell? ⟨cb, 1, none⟩ = some v2 := (hSC.out.on hVb).cell 1; clear hV))
        refine hK.out _ _ ?kr3b2_9 (fun hHeld => ?_)
        case kr3b2_9 => (try dsimp only); (first | with_reducible assumption | with_reducible exact t4_set hqc (by assumption) | exact t4_bel (by assumption) (by assumption) | assumption | exact t4_alloc (by assumption) _ | exact t4_set hqc (by assumption))
        clear hK K
        try simp only [Act.put, List.setIfInBounds_toArray, List.set_cons_zero, List.set_cons_succ]
        refine wpAnyH_ready (rs := [4]) (by kernel_rfl) (by simp) ?_
        refine AllReadyH.cons (o := ?or3b2b4_4) ?ir3b2b4_4 (fun K hK => ?sr3b2b4_4) AllReadyH.nil
        case ir3b2b4_4 => (simp only [List.getElem?_toArray, List.getElem?_cons_succ, List.getElem?_cons_zero]; rfl)
        (go_simp; (skip))
        refine hK.out _ _ ?kr3b2b4_4 (fun hHeld => ?_)
        case kr3b2b4_4 => (try dsimp only); (first | with_reducible assumption | with_reducible exact t4_set hqc (by assumption) | exact t4_bel (by assumption) (by assumption) | assumption | exact t4_alloc (by assumption) _ | exact t4_set hqc (by assumption))
        clear hK K
        try simp only [Act.put, List.setIfInBounds_toArray, List.set_cons_zero, List.set_cons_succ]
        refine wpAnyH_ready (rs := [10]) (by kernel_rfl) (by simp) ?_
        refine AllReadyH.cons (o := ?or3b2b4_10) ?ir3b2b4_10 (fun K hK => ?sr3b2b4_10) AllReadyH.nil
        case ir3b2b4_10 => (simp only [List.getElem?_toArray, List.getElem?_cons_succ, List.getElem?_cons_zero]; rfl)
        ((refine step_pl (by rfl) _ _ 50 (by rfl) B 52 Tryd.underlying50 Tryd.info_placeD v2 k pl (by rfl) (own_on hS2.out hVb) ((a : Int), (z : Int)) X5.heap.size 1 52 _ _ hN (by rfl) (by rfl) (by omega) (by have := hVb.size; omega) ?_; intro v7 w7 hown7 hb7 hg7; obtain ⟨A7, c7, hv7, _, hq7, _⟩ := own_ps hown7; rw [← hq7] at hv7; subst hv7; clear hq7; have hC7 := (hSC.out.on hVb).grownR hg7 m2; have kC0 : w7.cell? ⟨cb, 1, none⟩ = some v2 := hC7.cell 1; have hf7 : w7.frozen? ⟨cb, 1, none⟩ = false := hC7.frozen 1; have hSn := (show _ ∧ _ ∧ _ ∧ _ ∧ True from ⟨hg7.cell hSn.1 mq, hg7.cell hSn.2.1 mq, hg7.cell hSn.2.2.1 mq, hg7.cell hSn.2.2.2.1 mq, trivial⟩)))
        refine hK.out _ _ ?kr3b2b4_10 (fun hHeld => ?_)
        case kr3b2b4_10 => (try dsimp only); (first | with_reducible assumption | with_reducible exact t4_set hqc (by assumption) | exact t4_bel (by assumption) (by assumption) | assumption | exact t4_alloc (by assumption) _ | exact t4_set hqc (by assumption))
        clear hK K
        try simp only [Act.put, List.setIfInBounds_toArray, List.set_cons_zero, List.set_cons_succ]
        refine tk 11 ?_
        refine tk 12 ?_
        refine wpAnyH_ready (rs := [13]) (by kernel_rfl) (by simp) ?_
        refine AllReadyH.cons (o := ?or3b2b4_13) ?ir3b2b4_13 (fun K hK => ?sr3b2b4_13) AllReadyH.nil
        case ir3b2b4_13 => (simp only [List.getElem?_toArray, List.getElem?_cons_succ, List.getElem?_cons_zero]; rfl)
        (go_simp; (skip))
        refine hK.out _ _ ?kr3b2b4_13 (fun hHeld => ?_)
        case kr3b2b4_13 => (try dsimp only); (first | with_reducible assumption | with_reducible exact t4_set hqc (by assumption) | exact t4_bel (by assumption) (by assumption) | assumption | exact t4_alloc (by assumption) _ | exact t4_set hqc (by assumption))
        clear hK K
        try simp only [Act.put, List.setIfInBounds_toArray, List.set_cons_zero, List.set_cons_succ]
        refine wpAnyH_done (by kernel_rfl) ?_ _
        refine NoPanic.normal ?_
    all_goals
      have hne7 := own_away hown7 hC7 (by decide)
      have hV1 := own_grownR (own_on hS1.out hVb) hg7 (fun g h1 h2 => HN3.out g h2 h1)
      have hA1 := own_away hV1 hC7 (by decide)
      have hKq := (hSK.out.on hVb).grownR hg7 mq
      have gS2 := hid (ownsRow_setCell_other hown7 (a := ⟨cb, 1, none⟩) (fun h => hne7 h.symm) (.slice A7 (k + 1) c7))
      have gS1 := hid (ownsRow_setCell_other hV1 (a := ⟨cb, 1, none⟩) (fun h => hA1 h.symm) (.slice A7 (k + 1) c7))
      have gSC := hid (hC7.set_ 1 (.slice A7 (k + 1) c7))
      have gSK := hid (hKq.far 1 (.slice A7 (k + 1) c7) hqc)
      have gSB := hid ((hSB.out.trans ((hVb.mono hBX5).trans hb7)).setCell (p := ⟨cb, 1, none⟩) hB (.slice A7 (k + 1) c7))
      obtain ⟨X7, hX7⟩ : ∃ X, X = w7.setCell ⟨cb, 1, none⟩ (.slice A7 (k + 1) c7) := ⟨_, rfl⟩
      rw [← hX7] at gS1 gS2 gSC gSK gSB ⊢
      obtain ⟨d0, d1, d2, d3⟩ := gSK.out.cells4y
      have e0 : X7.cell? ⟨cb, 0, none⟩ = some (.slice A5 (k + 1) c5) := gSC.out.cell 0
      have e1 : X7.cell? ⟨cb, 1, none⟩ = some (.slice A7 (k + 1) c7) := gSC.out.cell 1
      have e2 : X7.cell? ⟨cb, 2, none⟩ = some (.int .i64 (a : Int)) := gSC.out.cell 2
      have e3 : X7.cell? ⟨cb, 3, none⟩ = some (.int .i64 (z : Int)) := gSC.out.cell 3
      have f2 : X7.frozen? ⟨cb, 2, none⟩ = false := gSC.out.frozen 2
      have f3 : X7.frozen? ⟨cb, 3, none⟩ = false := gSC.out.frozen 3
      have hqc' : ¬ (cb = q) := fun h => hqc h.symm
      clear hX7 hown7 hb7 hg7 hC7 kC0 hf7 hSn hVb hN hcV hne7 hV1 hA1 hKq hT6 c0 c1' c2 c3 m1 m2 mq HN3 hSC hS1 hS2 hSK hSB hHeld
      go_wp2_with fail
      go_region
      all_goals
        go_wp2_with fail
        have w1a := own_away gS1.out gSC.out (by decide)
        have w2a := own_away gS2.out gSC.out (by decide)
        go_ret
        exact ⟨_, _, rfl, ((gSC.out.set_ 2 _).set_ 3 _).drew, own_on (ownsRow_setCell_other (ownsRow_setCell_other gS1.out (a := ⟨cb, 2, none⟩) (fun h => w1a h.symm) _) (a := ⟨cb, 3, none⟩) (fun h => w1a h.symm) _) (bel_drew (Below.refl _ _)), own_on (ownsRow_setCell_other (ownsRow_setCell_other gS2.out (a := ⟨cb, 2, none⟩) (fun h => w2a h.symm) _) (a := ⟨cb, 3, none⟩) (fun h => w2a h.symm) _) (bel_drew (Below.refl _ _)), ((gSB.out.setCell (p := ⟨cb, 2, none⟩) hB _).setCell (p := ⟨cb, 3, none⟩) hB _).drew⟩
end Go.Proofs.YtepbjmpbcobfpaaDoor
