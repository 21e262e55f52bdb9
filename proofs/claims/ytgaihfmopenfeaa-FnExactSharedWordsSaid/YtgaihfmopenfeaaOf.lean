/- SharedWords in both programs. No condition. -/
import Derived.Test.YtgaihfmopenfeaaOd
import Derived.Test.YtgaihfmopenfeaaOe
namespace Go.Proofs.Ytgaihfmopenfeaa
open Go.ChangeShapes Go.WideShapes Go.ChangeAt Go.RowKit Go.Joins
set_option linter.unusedVariables false
set_option linter.unusedSimpArgs false

theorem append_whereO {P : Program} (w : World) (B : Nat) (t ty e : TypeId) (i : TypeInfo) (ht : P.underlying t = some (.slice e)) (hi : P.info? e = some i) (hz : i.zero = some (.string ByteArray.empty)) (h1 : i.size = 1) (h2 : i.bytes = 16)
    (v : Value) (n : Nat) (l : List ByteArray) (hown : w.ownsRow B e 1 v n (l.map sv)) (ad : Addr) (c : Nat) (x : ByteArray) (hx : w.cell? ad = some (.string x)) (hn : n ≤ 1000000000000) (v' : Value) (w' : World)
    (hr : (Builtin.append_ #[t, t] ty #[v, .slice (some ad) 1 c]).run P w = .ok v' w') : v'.ownBlock = v.ownBlock ∨ v'.ownBlock = some w.heap.size := by
  have hnews : ∀ j u, [Value.string x][j]? = some u → w.cell? (ad.add j) = some u := by
    intro j u hj
    match j, hj with
    | 0, hj => simp at hj; subst hj; rw [show ad.add 0 = ad by simp [Addr.add]]; exact hx
  rcases hown.2 with ⟨rfl, rfl⟩ | ⟨g, cap, cur, rfl, hbg, hg, hnc, hcm, hcs, htk⟩
  · have h := run_append_nil (P := P) w t ty e i (.string ByteArray.empty) ht hi hz ad 1 c [.string x] (by rw [h1]; rfl) hnews (by omega) (by omega) (by omega)
    rw [h] at hr
    cases hr
    exact .inr rfl
  · by_cases hroom : n + 1 ≤ cap
    · have h := run_append_room (P := P) w t ty e i ht hi g n cap cur hg ad 1 c [.string x] (by rw [h1]; rfl) hnews (by intro u hu; simp at hu; subst hu; rfl) hroom (by rw [h1]; simp; omega)
      rw [h] at hr
      cases hr
      exact .inl rfl
    · have h := run_append_grow (P := P) w t ty e i (.string ByteArray.empty) ht hi hz ⟨g, 0, none⟩ n cap (l.map sv) (by rw [h1]; simpa using hown.1) (hown.cells (g := g) rfl) ad 1 c [.string x] (by rw [h1]; rfl) hnews (by omega) (by omega) (growslice_fits (by omega) (by rw [h2]; omega))
      rw [h] at hr
      cases hr
      exact .inr rfl

/-- 'out = append(out, x)' of one string, and where it lies then: ONE goal is left. -/
theorem app_txt2O {P : Program} {w : World} {ops : Array Oper} {rest : List Oper} {o : Oper} {a : Act} {Q : Exit → Act → World → Prop} (hgd : o.guard = none) (s x : Operand) (t : TypeId)
    (ho : o.op = .call { callee := .builtin .append, args := #[s, x], argTypes := #[t, t] }) (B : Nat) (e : TypeId) (ht : P.underlying t = some (.slice e))
    (hinfo : (P.info? e).map (fun i => (i.zero, i.size, i.bytes)) = some (some (.string ByteArray.empty), 1, 16)) (v : Value) (n : Nat) (l : List ByteArray) (hs : a.eval s = v) (hown : w.ownsRow B e 1 v n (l.map sv)) (X : ByteArray) (cp : Nat)
    (hx : a.eval x = .slice (some ⟨w.heap.size, 0, none⟩) 1 cp) (hn : n ≤ 1000000000) (hB : B ≤ w.heap.size)
    (h : ∀ v' w', w'.ownsRow B e 1 v' (n + 1) ((l ++ [X]).map sv) → Below B w w' → w.grownBy w' v.ownBlock → (v'.ownBlock = v.ownBlock ∨ v'.ownBlock = some (w.heap.size + 1)) → wpList P ops Q rest (a.put o.dst v') w') : wpList P ops Q (o :: rest) a (w.alloc (.cells #[.string X] e)) := by
  obtain ⟨i0, hi, hz0, hz1, hz2⟩ := info_parts hinfo
  obtain ⟨v', w', hr, hown', hg, _⟩ := run_append_own (P := P) (w.alloc (.cells #[.string X] e)) B t o.type e i0 (.string ByteArray.empty) 1 16 ht hi hz0 hz1 hz2 rfl (by decide) v n (l.map sv) (hown.alloc _) ⟨w.heap.size, 0, none⟩ 1 cp [.string X] rfl (one_new w _ e) (by intro u hu; simp at hu; subst hu; rfl) (by unfold maxLen; omega) (by omega) (by have := World.size_alloc w (.cells #[.string X] e); omega)
  have hwh := append_whereO (P := P) (w.alloc (.cells #[.string X] e)) B t o.type e i0 ht hi hz0 hz1 hz2 v n l (hown.alloc _) ⟨w.heap.size, 0, none⟩ cp X (by have := one_new w (.string X) e 0 _ rfl; rw [show (⟨w.heap.size, 0, none⟩ : Addr).add 0 = ⟨w.heap.size, 0, none⟩ by simp [Addr.add]] at this; exact this) (by omega) v' w' hr
  have hg2 : w.grownBy w' v.ownBlock := grown_trans (World.grownBy_alloc w _ _) hg
  refine Lib.wpList_append_run _ hgd s x t t ho v _ hs hx v' w' hr ?_
  refine h v' w' ?_ (below_of_grown hg2 hB (fun g hg => (hown.lt g hg).1)) hg2 (by simpa using hwh)
  rw [List.map_append]; exact hown'

theorem apart_ofO {w : World} {B : Nat} {e : TypeId} {v v2 v3 : Value} {n : Nat} {xs : List Value} (h : w.ownsRow B e 1 v n xs) (hne : v2.ownBlock ≠ v.ownBlock) (hw : v3.ownBlock = v2.ownBlock ∨ v3.ownBlock = some (w.heap.size + 1)) : v3.ownBlock ≠ v.ownBlock := by
  rcases hw with h1 | h1
  · rw [h1]; exact hne
  · rw [h1]; intro e1; have := (h.lt _ e1.symm).2; omega

theorem grown_size {w w' : World} {row : Option Nat} (h : w.grownBy w' row) : w.heap.size ≤ w'.heap.size := h.size

/-- the shared words -/
noncomputable def shR (k k2 : Kn) : List ByteArray := shS (kwR k) (kwR k2)
theorem shS_nil (x : List ByteArray) : shS x [] = [] := by
  have : ∀ l : List ByteArray, l.foldl (fun out s => if shQ [] out s = true then out ++ [s] else out) [] = [] := by
    intro l
    induction l with
    | nil => rfl
    | cons a l ih => rw [List.foldl_cons, if_neg (by simp [shQ])]; exact ih
  exact this x
theorem shR_len (k k2 : Kn) : (shR k k2).length ≤ 1048576 := by
  have := shS_len (kwR k) (kwR k2) (kwR k).length (Nat.le_refl _)
  rw [List.take_length] at this
  exact Nat.le_trans this (kwR_len k)

set_option maxHeartbeats 1000000 in
set_option maxRecDepth 100000 in
theorem c_sShared_no1 (k k2 : Kn) (A A2 : Option Addr) (cap cap2 L : Nat) (w : World) (hps : PsAt w L A cap k.ps) (hps2 : PsAt w L A2 cap2 k2.ps) (hL : L ≤ w.heap.size) (hw : k.Wf) (hw2 : k2.Wf) (h : ¬ k.Ok) : Calls Try.prog 6 #[.agg #[.int .i64 k.o, .int .i64 k.l, .int .i64 k.m, .slice A k.ps.length cap, .int .i64 k.base, .int .i64 k.last], .agg #[.int .i64 k2.o, .int .i64 k2.l, .int .i64 k2.m, .slice A2 k2.ps.length cap2, .int .i64 k2.base, .int .i64 k2.last]] w fun e w' => ∃ A' c', e = .returned (.slice A' (([] : List ByteArray)).length c') ∧ w'.ownsRow w.heap.size 9 1 (.slice A' (([] : List ByteArray)).length c') (([] : List ByteArray)).length ((([] : List ByteArray)).map sv) ∧ Below w.heap.size w w' := by
  have HV := hid (fun (v : World) (hb : Below w.heap.size w v) => c_sKnownValid_no k A cap L v (hps.below hb hL) (Nat.le_trans hL hb.size) h hw)
  have HKA := hid ((Blk.new w 33 #[.int .i64 k.o, .int .i64 k.l, .int .i64 k.m, .slice A k.ps.length cap, .int .i64 k.base, .int .i64 k.last]).alloc (.cells #[.int .i64 k2.o, .int .i64 k2.l, .int .i64 k2.m, .slice A2 k2.ps.length cap2, .int .i64 k2.base, .int .i64 k2.last] 33))
  have HKB := hid (show Blk ((w.alloc (.cells #[.int .i64 k.o, .int .i64 k.l, .int .i64 k.m, .slice A k.ps.length cap, .int .i64 k.base, .int .i64 k.last] 33)).alloc (.cells #[.int .i64 k2.o, .int .i64 k2.l, .int .i64 k2.m, .slice A2 k2.ps.length cap2, .int .i64 k2.base, .int .i64 k2.last] 33)) (w.heap.size + 1) 33 #[.int .i64 k2.o, .int .i64 k2.l, .int .i64 k2.m, .slice A2 k2.ps.length cap2, .int .i64 k2.base, .int .i64 k2.last] by have h1 := Blk.new (w.alloc (.cells #[.int .i64 k.o, .int .i64 k.l, .int .i64 k.m, .slice A k.ps.length cap, .int .i64 k.base, .int .i64 k.last] 33)) 33 #[.int .i64 k2.o, .int .i64 k2.l, .int .i64 k2.m, .slice A2 k2.ps.length cap2, .int .i64 k2.base, .int .i64 k2.last]; rw [World.size_alloc] at h1; exact h1)
  have hbV := bel_alloc (bel_alloc (Below.refl _ w) (.cells #[.int .i64 k.o, .int .i64 k.l, .int .i64 k.m, .slice A k.ps.length cap, .int .i64 k.base, .int .i64 k.last] 33)) (.cells #[.int .i64 k2.o, .int .i64 k2.l, .int .i64 k2.m, .slice A2 k2.ps.length cap2, .int .i64 k2.base, .int .i64 k2.last] 33)
  have hzV : ((w.alloc (.cells #[.int .i64 k.o, .int .i64 k.l, .int .i64 k.m, .slice A k.ps.length cap, .int .i64 k.base, .int .i64 k.last] 33)).alloc (.cells #[.int .i64 k2.o, .int .i64 k2.l, .int .i64 k2.m, .slice A2 k2.ps.length cap2, .int .i64 k2.base, .int .i64 k2.last] 33)).heap.size = w.heap.size + 2 := by rw [World.size_alloc, World.size_alloc]
  clear hps hps2 h hw hw2
  obtain ⟨V, hV⟩ : ∃ V, V = (w.alloc (.cells #[.int .i64 k.o, .int .i64 k.l, .int .i64 k.m, .slice A k.ps.length cap, .int .i64 k.base, .int .i64 k.last] 33)).alloc (.cells #[.int .i64 k2.o, .int .i64 k2.l, .int .i64 k2.m, .slice A2 k2.ps.length cap2, .int .i64 k2.base, .int .i64 k2.last] 33) := ⟨_, rfl⟩
  rw [← hV] at HKA HKB hbV hzV
  have hown0 : (V.alloc (.cells #[] 9)).ownsRow (w.heap.size + 2) 9 1 (.slice (some ⟨w.heap.size + 2, 0, none⟩) 0 0) 0 (([] : List ByteArray).map sv) := by
    have h1 := World.ownsRow_made (e := 9) (size := 1) (base := w.heap.size + 2) V #[] 0 (by omega) (by simp [maxLen]) rfl
    rw [hzV] at h1; exact h1
  have hb0 : Below w.heap.size w (V.alloc (.cells #[] 9)) := bel_alloc hbV _
  have hz0 : (V.alloc (.cells #[] 9)).heap.size = w.heap.size + 3 := by rw [World.size_alloc]; omega
  have HKA0 := hid (HKA.out.alloc (.cells #[] 9))
  have HKB0 := hid (HKB.out.alloc (.cells #[] 9))
  obtain ⟨q1, q2, q3, q4, q5, q6⟩ := HKA0.out.cells6
  go_enter Try.func6, Try.ntmps6
  go_wp2_with fail
  rw [← hV]
  obtain ⟨W0, hW0⟩ : ∃ W0, W0 = V.alloc (.cells #[] 9) := ⟨_, rfl⟩
  rw [← hW0] at hown0 hb0 hz0 HKA0 HKB0 q1 q2 q3 q4 q5 q6
  rw [← hW0]
  clear hW0 hV
  refine (HV.out _ hb0).mono ?_
  rintro e w1 ⟨rfl, hb1⟩
  have hB1 := hb0.trans (hb1.mono hb0.size)
  have ho1 := own_on hown0 hb1
  obtain ⟨p1, p2, p3, p4, p5, p6⟩ := (HKB0.out.on hb1).cells6
  have ho9 := own_mono (B' := w.heap.size) ho1 (by omega)
  clear hown0 ho1
  go_wp2
  go_ret
  exact ⟨_, _, rfl, ho9, hB1⟩

set_option maxHeartbeats 1000000 in
set_option maxRecDepth 100000 in
theorem c_sShared_no2 (k k2 : Kn) (A A2 : Option Addr) (cap cap2 L : Nat) (w : World) (hps : PsAt w L A cap k.ps) (hps2 : PsAt w L A2 cap2 k2.ps) (hL : L ≤ w.heap.size) (hw : k.Wf) (hw2 : k2.Wf) (h : k.Ok) (h2 : ¬ k2.Ok) : Calls Try.prog 6 #[.agg #[.int .i64 k.o, .int .i64 k.l, .int .i64 k.m, .slice A k.ps.length cap, .int .i64 k.base, .int .i64 k.last], .agg #[.int .i64 k2.o, .int .i64 k2.l, .int .i64 k2.m, .slice A2 k2.ps.length cap2, .int .i64 k2.base, .int .i64 k2.last]] w fun e w' => ∃ A' c', e = .returned (.slice A' (([] : List ByteArray)).length c') ∧ w'.ownsRow w.heap.size 9 1 (.slice A' (([] : List ByteArray)).length c') (([] : List ByteArray)).length ((([] : List ByteArray)).map sv) ∧ Below w.heap.size w w' := by
  have HV := hid (fun (v : World) (hb : Below w.heap.size w v) => c_sKnownValid_yes k A cap L v (hps.below hb hL) (Nat.le_trans hL hb.size) h hw)
  have HV2 := hid (fun (v : World) (hb : Below w.heap.size w v) => c_sKnownValid_no k2 A2 cap2 L v (hps2.below hb hL) (Nat.le_trans hL hb.size) h2 hw2)
  have HKA := hid ((Blk.new w 33 #[.int .i64 k.o, .int .i64 k.l, .int .i64 k.m, .slice A k.ps.length cap, .int .i64 k.base, .int .i64 k.last]).alloc (.cells #[.int .i64 k2.o, .int .i64 k2.l, .int .i64 k2.m, .slice A2 k2.ps.length cap2, .int .i64 k2.base, .int .i64 k2.last] 33))
  have HKB := hid (show Blk ((w.alloc (.cells #[.int .i64 k.o, .int .i64 k.l, .int .i64 k.m, .slice A k.ps.length cap, .int .i64 k.base, .int .i64 k.last] 33)).alloc (.cells #[.int .i64 k2.o, .int .i64 k2.l, .int .i64 k2.m, .slice A2 k2.ps.length cap2, .int .i64 k2.base, .int .i64 k2.last] 33)) (w.heap.size + 1) 33 #[.int .i64 k2.o, .int .i64 k2.l, .int .i64 k2.m, .slice A2 k2.ps.length cap2, .int .i64 k2.base, .int .i64 k2.last] by have h1 := Blk.new (w.alloc (.cells #[.int .i64 k.o, .int .i64 k.l, .int .i64 k.m, .slice A k.ps.length cap, .int .i64 k.base, .int .i64 k.last] 33)) 33 #[.int .i64 k2.o, .int .i64 k2.l, .int .i64 k2.m, .slice A2 k2.ps.length cap2, .int .i64 k2.base, .int .i64 k2.last]; rw [World.size_alloc] at h1; exact h1)
  have hbV := bel_alloc (bel_alloc (Below.refl _ w) (.cells #[.int .i64 k.o, .int .i64 k.l, .int .i64 k.m, .slice A k.ps.length cap, .int .i64 k.base, .int .i64 k.last] 33)) (.cells #[.int .i64 k2.o, .int .i64 k2.l, .int .i64 k2.m, .slice A2 k2.ps.length cap2, .int .i64 k2.base, .int .i64 k2.last] 33)
  have hzV : ((w.alloc (.cells #[.int .i64 k.o, .int .i64 k.l, .int .i64 k.m, .slice A k.ps.length cap, .int .i64 k.base, .int .i64 k.last] 33)).alloc (.cells #[.int .i64 k2.o, .int .i64 k2.l, .int .i64 k2.m, .slice A2 k2.ps.length cap2, .int .i64 k2.base, .int .i64 k2.last] 33)).heap.size = w.heap.size + 2 := by rw [World.size_alloc, World.size_alloc]
  clear hps hps2 h hw hw2 h2
  obtain ⟨V, hV⟩ : ∃ V, V = (w.alloc (.cells #[.int .i64 k.o, .int .i64 k.l, .int .i64 k.m, .slice A k.ps.length cap, .int .i64 k.base, .int .i64 k.last] 33)).alloc (.cells #[.int .i64 k2.o, .int .i64 k2.l, .int .i64 k2.m, .slice A2 k2.ps.length cap2, .int .i64 k2.base, .int .i64 k2.last] 33) := ⟨_, rfl⟩
  rw [← hV] at HKA HKB hbV hzV
  have hown0 : (V.alloc (.cells #[] 9)).ownsRow (w.heap.size + 2) 9 1 (.slice (some ⟨w.heap.size + 2, 0, none⟩) 0 0) 0 (([] : List ByteArray).map sv) := by
    have h1 := World.ownsRow_made (e := 9) (size := 1) (base := w.heap.size + 2) V #[] 0 (by omega) (by simp [maxLen]) rfl
    rw [hzV] at h1; exact h1
  have hb0 : Below w.heap.size w (V.alloc (.cells #[] 9)) := bel_alloc hbV _
  have hz0 : (V.alloc (.cells #[] 9)).heap.size = w.heap.size + 3 := by rw [World.size_alloc]; omega
  have HKA0 := hid (HKA.out.alloc (.cells #[] 9))
  have HKB0 := hid (HKB.out.alloc (.cells #[] 9))
  obtain ⟨q1, q2, q3, q4, q5, q6⟩ := HKA0.out.cells6
  go_enter Try.func6, Try.ntmps6
  go_wp2_with fail
  rw [← hV]
  obtain ⟨W0, hW0⟩ : ∃ W0, W0 = V.alloc (.cells #[] 9) := ⟨_, rfl⟩
  rw [← hW0] at hown0 hb0 hz0 HKA0 HKB0 q1 q2 q3 q4 q5 q6
  rw [← hW0]
  clear hW0 hV
  refine (HV.out _ hb0).mono ?_
  rintro e w1 ⟨rfl, hb1⟩
  have hB1 := hb0.trans (hb1.mono hb0.size)
  have ho1 := own_on hown0 hb1
  obtain ⟨p1, p2, p3, p4, p5, p6⟩ := (HKB0.out.on hb1).cells6
  go_wp2_with fail
  refine (HV2.out _ hB1).mono ?_
  rintro e w2 ⟨rfl, hb2⟩
  have hB2 := hB1.trans (hb2.mono hB1.size)
  have ho2 := own_on ho1 hb2
  have ho9 := own_mono (B' := w.heap.size) ho2 (by omega)
  clear hown0 ho1 ho2
  go_wp2
  go_ret
  exact ⟨_, _, rfl, ho9, hB2⟩

set_option maxHeartbeats 4000000 in
set_option maxRecDepth 100000 in
theorem c_sShared_yes (k k2 : Kn) (A A2 : Option Addr) (cap cap2 L : Nat) (w : World) (hps : PsAt w L A cap k.ps) (hps2 : PsAt w L A2 cap2 k2.ps) (hL : L ≤ w.heap.size) (hw : k.Wf) (hw2 : k2.Wf) (h : k.Ok) (h2 : k2.Ok) : Calls Try.prog 6 #[.agg #[.int .i64 k.o, .int .i64 k.l, .int .i64 k.m, .slice A k.ps.length cap, .int .i64 k.base, .int .i64 k.last], .agg #[.int .i64 k2.o, .int .i64 k2.l, .int .i64 k2.m, .slice A2 k2.ps.length cap2, .int .i64 k2.base, .int .i64 k2.last]] w fun e w' => ∃ A' c', e = .returned (.slice A' (shS (kwS k) (kwS k2)).length c') ∧ w'.ownsRow w.heap.size 9 1 (.slice A' (shS (kwS k) (kwS k2)).length c') (shS (kwS k) (kwS k2)).length ((shS (kwS k) (kwS k2)).map sv) ∧ Below w.heap.size w w' := by
  have HV := hid (fun (v : World) (hb : Below w.heap.size w v) => c_sKnownValid_yes k A cap L v (hps.below hb hL) (Nat.le_trans hL hb.size) h hw)
  have HV2 := hid (fun (v : World) (hb : Below w.heap.size w v) => c_sKnownValid_yes k2 A2 cap2 L v (hps2.below hb hL) (Nat.le_trans hL hb.size) h2 hw2)
  have HF := hid (fun (v : World) (hb : Below w.heap.size w v) => c_l4Words k A cap L v h (hps.below hb hL) (Nat.le_trans hL hb.size))
  have HF2 := hid (fun (v : World) (hb : Below w.heap.size w v) => c_l4Words k2 A2 cap2 L v h2 (hps2.below hb hL) (Nat.le_trans hL hb.size))
  have hlx : (kwS k).length ≤ 1048576 := by rw [kwS_len]; have := (kn_len h).1; omega
  have hly : (kwS k2).length ≤ 1048576 := by rw [kwS_len]; have := (kn_len h2).1; omega
  obtain ⟨x, hx⟩ : ∃ x, x = kwS k := ⟨_, rfl⟩
  obtain ⟨y, hy⟩ : ∃ y, y = kwS k2 := ⟨_, rfl⟩
  rw [← hx] at HF hlx ⊢
  rw [← hy] at HF2 hly ⊢
  clear hx hy
  obtain ⟨N, hN⟩ : ∃ N, N = x.length := ⟨_, rfl⟩
  obtain ⟨M, hM⟩ : ∃ M, M = y.length := ⟨_, rfl⟩
  rw [← hN] at HF hlx
  rw [← hM] at HF2 hly
  have HN := hid hN
  have HM := hid hM
  clear hN hM
  have HKA := hid ((Blk.new w 33 #[.int .i64 k.o, .int .i64 k.l, .int .i64 k.m, .slice A k.ps.length cap, .int .i64 k.base, .int .i64 k.last]).alloc (.cells #[.int .i64 k2.o, .int .i64 k2.l, .int .i64 k2.m, .slice A2 k2.ps.length cap2, .int .i64 k2.base, .int .i64 k2.last] 33))
  have HKB := hid (show Blk ((w.alloc (.cells #[.int .i64 k.o, .int .i64 k.l, .int .i64 k.m, .slice A k.ps.length cap, .int .i64 k.base, .int .i64 k.last] 33)).alloc (.cells #[.int .i64 k2.o, .int .i64 k2.l, .int .i64 k2.m, .slice A2 k2.ps.length cap2, .int .i64 k2.base, .int .i64 k2.last] 33)) (w.heap.size + 1) 33 #[.int .i64 k2.o, .int .i64 k2.l, .int .i64 k2.m, .slice A2 k2.ps.length cap2, .int .i64 k2.base, .int .i64 k2.last] by have h1 := Blk.new (w.alloc (.cells #[.int .i64 k.o, .int .i64 k.l, .int .i64 k.m, .slice A k.ps.length cap, .int .i64 k.base, .int .i64 k.last] 33)) 33 #[.int .i64 k2.o, .int .i64 k2.l, .int .i64 k2.m, .slice A2 k2.ps.length cap2, .int .i64 k2.base, .int .i64 k2.last]; rw [World.size_alloc] at h1; exact h1)
  have hbV := bel_alloc (bel_alloc (Below.refl _ w) (.cells #[.int .i64 k.o, .int .i64 k.l, .int .i64 k.m, .slice A k.ps.length cap, .int .i64 k.base, .int .i64 k.last] 33)) (.cells #[.int .i64 k2.o, .int .i64 k2.l, .int .i64 k2.m, .slice A2 k2.ps.length cap2, .int .i64 k2.base, .int .i64 k2.last] 33)
  have hzV : ((w.alloc (.cells #[.int .i64 k.o, .int .i64 k.l, .int .i64 k.m, .slice A k.ps.length cap, .int .i64 k.base, .int .i64 k.last] 33)).alloc (.cells #[.int .i64 k2.o, .int .i64 k2.l, .int .i64 k2.m, .slice A2 k2.ps.length cap2, .int .i64 k2.base, .int .i64 k2.last] 33)).heap.size = w.heap.size + 2 := by rw [World.size_alloc, World.size_alloc]
  clear hps hps2 h hw hw2 h2
  obtain ⟨V, hV⟩ : ∃ V, V = (w.alloc (.cells #[.int .i64 k.o, .int .i64 k.l, .int .i64 k.m, .slice A k.ps.length cap, .int .i64 k.base, .int .i64 k.last] 33)).alloc (.cells #[.int .i64 k2.o, .int .i64 k2.l, .int .i64 k2.m, .slice A2 k2.ps.length cap2, .int .i64 k2.base, .int .i64 k2.last] 33) := ⟨_, rfl⟩
  rw [← hV] at HKA HKB hbV hzV
  have hown0 : (V.alloc (.cells #[] 9)).ownsRow (w.heap.size + 2) 9 1 (.slice (some ⟨w.heap.size + 2, 0, none⟩) 0 0) 0 (([] : List ByteArray).map sv) := by
    have h1 := World.ownsRow_made (e := 9) (size := 1) (base := w.heap.size + 2) V #[] 0 (by omega) (by simp [maxLen]) rfl
    rw [hzV] at h1; exact h1
  have hb0 : Below w.heap.size w (V.alloc (.cells #[] 9)) := bel_alloc hbV _
  have hz0 : (V.alloc (.cells #[] 9)).heap.size = w.heap.size + 3 := by rw [World.size_alloc]; omega
  have HKA0 := hid (HKA.out.alloc (.cells #[] 9))
  have HKB0 := hid (HKB.out.alloc (.cells #[] 9))
  obtain ⟨q1, q2, q3, q4, q5, q6⟩ := HKA0.out.cells6
  go_enter Try.func6, Try.ntmps6
  go_wp2_with fail
  rw [← hV]
  obtain ⟨W0, hW0⟩ : ∃ W0, W0 = V.alloc (.cells #[] 9) := ⟨_, rfl⟩
  rw [← hW0] at hown0 hb0 hz0 HKA0 HKB0 q1 q2 q3 q4 q5 q6
  rw [← hW0]
  clear hW0 hV
  refine (HV.out _ hb0).mono ?_
  rintro e w1 ⟨rfl, hb1⟩
  have hB1 := hb0.trans (hb1.mono hb0.size)
  have ho1 := own_on hown0 hb1
  have HKA1 := hid (HKA0.out.on hb1)
  have HKB1 := hid (HKB0.out.on hb1)
  have hz1 := hb1.size
  rw [hz0] at hz1
  clear hown0 hb1 hb0 q1 q2 q3 q4 q5 q6
  obtain ⟨p1, p2, p3, p4, p5, p6⟩ := HKB1.out.cells6
  go_wp2_with fail
  refine (HV2.out _ hB1).mono ?_
  rintro e w2 ⟨rfl, hb2⟩
  have hB2 := hB1.trans (hb2.mono hB1.size)
  have ho2 := own_on ho1 hb2
  have HKA2 := hid (HKA1.out.on hb2)
  have HKB2 := hid (HKB1.out.on hb2)
  have hz2 := Nat.le_trans hz1 hb2.size
  clear ho1 hb2 hB1 p1 p2 p3 p4 p5 p6
  obtain ⟨p1, p2, p3, p4, p5, p6⟩ := HKA2.out.cells6
  go_wp2_with fail
  refine (HF.out _ hB2).mono ?_
  rintro e w3 ⟨A3, c3, rfl, hx3, hb3⟩
  have hB3 := hB2.trans (hb3.mono hB2.size)
  have ho3 := own_on ho2 hb3
  have HKB3 := hid (HKB2.out.on hb3)
  have hz3 := Nat.le_trans hz2 hb3.size
  clear ho2 hb3 hB2 p1 p2 p3 p4 p5 p6
  obtain ⟨p1, p2, p3, p4, p5, p6⟩ := HKB3.out.cells6
  go_wp2_with fail
  refine (HF2.out _ hB3).mono ?_
  rintro e w4 ⟨A4, c4, rfl, hy4, hb4⟩
  have hB4 := hB3.trans (hb4.mono hB3.size)
  have ho4 := own_on ho3 hb4
  have hx4 := own_on hx3 hb4
  have hz4 := Nat.le_trans hz3 hb4.size
  have hnx : (Value.slice (some ⟨w.heap.size + 2, 0, none⟩) 0 0).ownBlock ≠ (Value.slice A3 N c3).ownBlock := fun e => by have h9 := (hx4.lt (w.heap.size + 2) e.symm).1; omega
  have hny : (Value.slice (some ⟨w.heap.size + 2, 0, none⟩) 0 0).ownBlock ≠ (Value.slice A4 M c4).ownBlock := fun e => by have h9 := (hy4.lt (w.heap.size + 2) e.symm).1; omega
  have hx5 := own_mono (B' := w.heap.size + 2) hx4 (by omega)
  have hy5 := own_mono (B' := w.heap.size + 2) hy4 (by omega)
  clear ho3 hb4 hB3 p1 p2 p3 p4 p5 p6 hx3 hx4 hy4
  go_wp2_with fail
  go_loopw [5, 8] (fun v i wr => ∃ j : Nat, j ≤ N ∧ i = .int .i64 j ∧ wr.ownsRow (w.heap.size + 2) 9 1 v (shS (x.take j) y).length ((shS (x.take j) y).map sv) ∧ wr.ownsRow (w.heap.size + 2) 9 1 (.slice A3 N c3) N (x.map sv) ∧ wr.ownsRow (w.heap.size + 2) 9 1 (.slice A4 M c4) M (y.map sv) ∧ v.ownBlock ≠ (Value.slice A3 N c3).ownBlock ∧ v.ownBlock ≠ (Value.slice A4 M c4).ownBlock ∧ w.heap.size + 3 ≤ wr.heap.size ∧ Below w.heap.size w wr) (fun _ i _ => N - (intOf i).toNat)
  case atStart => exact ⟨0, Nat.zero_le _, rfl, ho4, hx5, hy5, hnx, hny, hz4, hB4⟩
  case round =>
    clear ho4 hx5 hy5 hnx hny hz4 hB4
    obtain ⟨j, hj, rfl, hO, hX, hY, hnx, hny, hzr, hbl⟩ := hrel
    obtain ⟨A0, c0, rfl, hat0, -, -⟩ := own_strs hO
    by_cases hlt : j < N
    · have hlt2 : j < x.length := by have := HN.out; omega
      have hlti : (j : Int) < (N : Int) := by omega
      have hql := shS_len x y j (by omega)
      obtain ⟨b, off, rfl, hb, hc0⟩ := txt_at (own_strs_at hX) j hlt2
      obtain ⟨s, hs⟩ : ∃ s, s = x[j] := ⟨_, rfl⟩
      rw [← hs] at hc0
      have HYY := hid (fun (e : shQ y (shS (x.take j) y) s = true) => shS_yes hlt2 hs e)
      have HNO := hid (fun (e : shQ y (shS (x.take j) y) s = false) => shS_no hlt2 hs e)
      clear hs
      obtain ⟨q, hq⟩ : ∃ q, q = shS (x.take j) y := ⟨_, rfl⟩
      rw [← hq] at HYY HNO hat0 hO hql hnx hny ⊢
      clear hq
      have HY := c_l4Has A4 c4 y _ s _ (own_strs_at hY) (by have := HM.out; omega)
      rw [← HM.out] at HY
      have HO := c_l4Has A0 c0 q _ s _ hat0 (by omega)
      by_cases h1 : s ∈ y
      · rw [decide_eq_true h1] at HY
        by_cases h2 : s ∈ q
        · rw [decide_eq_true h2] at HO
          have HT := hid (HNO.out (by simp [shQ, h1, h2]))
          have HO := hid HO
          have HY := hid HY
          clear h1 h2 HYY HNO hat0
          go_wp2_with fail
          refine HY.out.mono ?_
          rintro e w5 ⟨rfl, rfl⟩
          go_wp2_with fail
          refine HO.out.mono ?_
          rintro e w5 ⟨rfl, rfl⟩
          go_wp2_with fail
          go_roundw
          case rel => exact ⟨j + 1, by omega, by go_num, by rw [HT.out]; exact hO, hX, hY, hnx, hny, hzr, hbl⟩
          case measure => simp [intOf]; omega
        · rw [decide_eq_false h2] at HO
          have HT := hid (HYY.out (by simp [shQ, h1, h2]))
          have HO := hid HO
          have HY := hid HY
          clear h1 h2 HYY HNO hat0
          go_wp2_with fail
          refine HY.out.mono ?_
          rintro e w5 ⟨rfl, rfl⟩
          go_wp2_with fail
          refine HO.out.mono ?_
          rintro e w5 ⟨rfl, rfl⟩
          obtain ⟨v, hv⟩ : ∃ v, v = Value.slice A0 q.length c0 := ⟨_, rfl⟩
          go_wp2_with (at_builtin; refine app_txt2O rfl _ _ 28 rfl (w.heap.size + 2) 9 Try.underlying28 Try.info_txt _ q.length q rfl hO s 1 rfl (by omega) (by omega) ?_; intro v7 w7 hown7 hb7 hg7 hw7)
          have hX7 := hX.kept hg7 (.inr (Ne.symm hnx))
          have hY7 := hY.kept hg7 (.inr (Ne.symm hny))
          have hnx7 := apart_ofO hX hnx hw7
          have hny7 := apart_ofO hY hny hw7
          have hz7 := Nat.le_trans hzr hb7.size
          have hB7 : Below w.heap.size w w7 := hbl.trans (hb7.mono (by omega))
          clear hX hY hO hb7 hg7 hw7 hnx hny hzr hbl hv
          go_roundw
          case rel => exact ⟨j + 1, by omega, by go_num, by rw [HT.out, List.length_append]; exact hown7, hX7, hY7, hnx7, hny7, hz7, hB7⟩
          case measure => simp [intOf]; omega
      · rw [decide_eq_false h1] at HY
        have HT := hid (HNO.out (by simp [shQ, h1]))
        have HY := hid HY
        clear h1 HYY HNO hat0 HO
        go_wp2_with fail
        refine HY.out.mono ?_
        rintro e w5 ⟨rfl, rfl⟩
        go_wp2_with fail
        go_roundw
        case rel => exact ⟨j + 1, by omega, by go_num, by rw [HT.out]; exact hO, hX, hY, hnx, hny, hzr, hbl⟩
        case measure => simp [intOf]; omega
    · have hjN : j = N := by omega
      have hall : x.take j = x := List.take_of_length_le (by have := HN.out; omega)
      rw [hall] at hO ⊢
      have ho9 := own_mono (B' := w.heap.size) hO (by omega)
      clear hO hX hY hnx hny hall hat0
      go_wp2
      go_ret
      exact ⟨_, _, rfl, ho9, hbl⟩

theorem c_sSharedWords (k k2 : Kn) (A A2 : Option Addr) (cap cap2 L : Nat) (w : World) (hps : PsAt w L A cap k.ps) (hps2 : PsAt w L A2 cap2 k2.ps) (hL : L ≤ w.heap.size) (hw : k.Wf) (hw2 : k2.Wf) : Calls Try.prog 6 #[.agg #[.int .i64 k.o, .int .i64 k.l, .int .i64 k.m, .slice A k.ps.length cap, .int .i64 k.base, .int .i64 k.last], .agg #[.int .i64 k2.o, .int .i64 k2.l, .int .i64 k2.m, .slice A2 k2.ps.length cap2, .int .i64 k2.base, .int .i64 k2.last]] w fun e w' => ∃ A' c', e = .returned (.slice A' (shR k k2).length c') ∧ w'.ownsRow w.heap.size 9 1 (.slice A' (shR k k2).length c') (shR k k2).length ((shR k k2).map sv) ∧ Below w.heap.size w w' := by
  by_cases h : k.Ok
  · by_cases h2 : k2.Ok
    · have := c_sShared_yes k k2 A A2 cap cap2 L w hps hps2 hL hw hw2 h h2
      unfold shR; rw [kwR_yes h, kwR_yes h2]; exact this
    · have := c_sShared_no2 k k2 A A2 cap cap2 L w hps hps2 hL hw hw2 h h2
      unfold shR; rw [kwR_no h2, shS_nil]; exact this
  · have := c_sShared_no1 k k2 A A2 cap cap2 L w hps hps2 hL hw hw2 h
    unfold shR; rw [kwR_no h, show shS [] (kwR k2) = [] from rfl]; exact this

set_option maxHeartbeats 4000000 in
set_option maxRecDepth 100000 in
theorem c_SharedWords (k k2 : Kn) (A A2 : Option Addr) (cap cap2 L : Nat) (w : World) (hps : PsAt w L A cap k.ps) (hps2 : PsAt w L A2 cap2 k2.ps) (hL : L ≤ w.heap.size) (hw : k.Wf) (hw2 : k2.Wf) : Calls Try.prog 8 #[.agg #[.int .i64 k.o, .int .i64 k.l, .int .i64 k.m, .slice A k.ps.length cap, .int .i64 k.base, .int .i64 k.last], .agg #[.int .i64 k2.o, .int .i64 k2.l, .int .i64 k2.m, .slice A2 k2.ps.length cap2, .int .i64 k2.base, .int .i64 k2.last]] w fun e w' => ∃ A' c', e = .returned (.slice A' (shR k k2).length c') ∧ w'.ownsRow w.heap.size 9 1 (.slice A' (shR k k2).length c') (shR k k2).length ((shR k k2).map sv) ∧ Below w.heap.size w w' := by
  have HF := hid (fun (v : World) (hb : Below w.heap.size w v) => c_KnownWords k A cap L v (hps.below hb hL) (Nat.le_trans hL hb.size) hw)
  have HF2 := hid (fun (v : World) (hb : Below w.heap.size w v) => c_KnownWords k2 A2 cap2 L v (hps2.below hb hL) (Nat.le_trans hL hb.size) hw2)
  have hlx := kwR_len k
  have hly := kwR_len k2
  have HSX := hid (kwR_size k)
  have HSY := hid (kwR_size k2)
  unfold shR
  obtain ⟨x, hx⟩ : ∃ x, x = kwR k := ⟨_, rfl⟩
  obtain ⟨y, hy⟩ : ∃ y, y = kwR k2 := ⟨_, rfl⟩
  rw [← hx] at HF hlx HSX ⊢
  rw [← hy] at HF2 hly HSY ⊢
  clear hx hy
  obtain ⟨N, hN⟩ : ∃ N, N = x.length := ⟨_, rfl⟩
  obtain ⟨M, hM⟩ : ∃ M, M = y.length := ⟨_, rfl⟩
  rw [← hN] at HF hlx
  rw [← hM] at HF2 hly
  have HN := hid hN
  have HM := hid hM
  clear hN hM
  have HKA := hid ((Blk.new w 33 #[.int .i64 k.o, .int .i64 k.l, .int .i64 k.m, .slice A k.ps.length cap, .int .i64 k.base, .int .i64 k.last]).alloc (.cells #[.int .i64 k2.o, .int .i64 k2.l, .int .i64 k2.m, .slice A2 k2.ps.length cap2, .int .i64 k2.base, .int .i64 k2.last] 33))
  have HKB := hid (show Blk ((w.alloc (.cells #[.int .i64 k.o, .int .i64 k.l, .int .i64 k.m, .slice A k.ps.length cap, .int .i64 k.base, .int .i64 k.last] 33)).alloc (.cells #[.int .i64 k2.o, .int .i64 k2.l, .int .i64 k2.m, .slice A2 k2.ps.length cap2, .int .i64 k2.base, .int .i64 k2.last] 33)) (w.heap.size + 1) 33 #[.int .i64 k2.o, .int .i64 k2.l, .int .i64 k2.m, .slice A2 k2.ps.length cap2, .int .i64 k2.base, .int .i64 k2.last] by have h1 := Blk.new (w.alloc (.cells #[.int .i64 k.o, .int .i64 k.l, .int .i64 k.m, .slice A k.ps.length cap, .int .i64 k.base, .int .i64 k.last] 33)) 33 #[.int .i64 k2.o, .int .i64 k2.l, .int .i64 k2.m, .slice A2 k2.ps.length cap2, .int .i64 k2.base, .int .i64 k2.last]; rw [World.size_alloc] at h1; exact h1)
  have hbV := bel_alloc (bel_alloc (Below.refl _ w) (.cells #[.int .i64 k.o, .int .i64 k.l, .int .i64 k.m, .slice A k.ps.length cap, .int .i64 k.base, .int .i64 k.last] 33)) (.cells #[.int .i64 k2.o, .int .i64 k2.l, .int .i64 k2.m, .slice A2 k2.ps.length cap2, .int .i64 k2.base, .int .i64 k2.last] 33)
  have hzV : ((w.alloc (.cells #[.int .i64 k.o, .int .i64 k.l, .int .i64 k.m, .slice A k.ps.length cap, .int .i64 k.base, .int .i64 k.last] 33)).alloc (.cells #[.int .i64 k2.o, .int .i64 k2.l, .int .i64 k2.m, .slice A2 k2.ps.length cap2, .int .i64 k2.base, .int .i64 k2.last] 33)).heap.size = w.heap.size + 2 := by rw [World.size_alloc, World.size_alloc]
  clear hps hps2 hw hw2
  obtain ⟨V, hV⟩ : ∃ V, V = (w.alloc (.cells #[.int .i64 k.o, .int .i64 k.l, .int .i64 k.m, .slice A k.ps.length cap, .int .i64 k.base, .int .i64 k.last] 33)).alloc (.cells #[.int .i64 k2.o, .int .i64 k2.l, .int .i64 k2.m, .slice A2 k2.ps.length cap2, .int .i64 k2.base, .int .i64 k2.last] 33) := ⟨_, rfl⟩
  rw [← hV] at HKA HKB hbV hzV
  have hS0 := SetS.new V
  rw [hzV] at hS0
  have hb0 : Below w.heap.size w (V.alloc (.map #[] 0)) := bel_alloc hbV _
  have hz0 : (V.alloc (.map #[] 0)).heap.size = w.heap.size + 3 := by rw [World.size_alloc]; omega
  have HKA0 := hid (HKA.out.alloc (.map #[] 0))
  have HKB0 := hid (HKB.out.alloc (.map #[] 0))
  have hmk : (Instr.makeMap 50 none).run Try.prog V = .ok (.map (some (w.heap.size + 2))) (V.alloc (.map #[] 0)) := by rw [← hzV]; rfl
  obtain ⟨q1, q2, q3, q4, q5, q6⟩ := HKB0.out.cells6
  rw [hV] at hmk q1 q2 q3 q4 q5 q6
  go_enter Try.func8, Try.ntmps8
  go_wp2_with fail
  clear hmk
  rw [← hV] at q1 q2 q3 q4 q5 q6 ⊢
  obtain ⟨W0, hW0⟩ : ∃ W0, W0 = V.alloc (.map #[] 0) := ⟨_, rfl⟩
  rw [← hW0] at hS0 hb0 hz0 HKA0 HKB0 q1 q2 q3 q4 q5 q6 ⊢
  clear hW0 hV
  refine (HF2.out _ hb0).mono ?_
  rintro e w1 ⟨A4, c4, rfl, hy1, hb1⟩
  have hB1 := hb0.trans (hb1.mono hb0.size)
  have hS1 := hS0.on hb1
  have HKA1 := hid (HKA0.out.on hb1)
  have hy2 := own_mono (B' := w.heap.size + 3) hy1 (by omega)
  have hz1 := hb1.size
  rw [hz0] at hz1
  clear hb1 hb0 hy1 hS0 q1 q2 q3 q4 q5 q6
  go_wp2_with fail
  go_loopw [15] (fun i wr => ∃ j n : Nat, j ≤ M ∧ n ≤ j ∧ i = .int .i64 j ∧ SetS wr (w.heap.size + 2) n (fun t => decide (t ∈ y.take j)) ∧ wr.ownsRow (w.heap.size + 3) 9 1 (.slice A4 M c4) M (y.map sv) ∧ Hid (Blk wr w.heap.size 33 #[.int .i64 k.o, .int .i64 k.l, .int .i64 k.m, .slice A k.ps.length cap, .int .i64 k.base, .int .i64 k.last]) ∧ w.heap.size + 3 ≤ wr.heap.size ∧ Below w.heap.size w wr) (fun i _ => M - (intOf i).toNat)
  case atStart => exact ⟨0, 0, Nat.zero_le _, Nat.le_refl _, rfl, hS1.same (fun s => by simp), hy2, HKA1, hz1, hB1⟩
  case round =>
    clear hS1 hy2 HKA1 hz1 hB1
    obtain ⟨j, n, hj, hn, rfl, hS, hY, HKr, hzr, hbl⟩ := hrel
    by_cases hlt : j < M
    · have hlt2 : j < y.length := by have := HM.out; omega
      have hlti : (j : Int) < (M : Int) := by omega
      obtain ⟨b, off, rfl, hb, hc0⟩ := txt_at (own_strs_at hY) j hlt2
      have hss := HSY.out y[j] (List.getElem_mem _)
      have HQ := hid (mem_take y j hlt2)
      obtain ⟨s, hs⟩ : ∃ s, s = y[j] := ⟨_, rfl⟩
      rw [← hs] at hc0 HQ hss
      clear hs
      obtain ⟨w5, hst, hS5, hg5⟩ := hS.store (s := s) (by unfold maxLen; omega) (by omega)
      have hS6 := hid (hS5.same (Q' := fun t => decide (t ∈ y.take (j + 1))) (fun t => HQ.out t))
      have hY5 := hid (hY.kept hg5 (.inr (fun e => by have := (hY.lt _ e).1; omega)))
      have HK5 := hid (HKr.out.grown hg5 (fun e => by injection e with e2; omega))
      have hz5 : w.heap.size + 3 ≤ w5.heap.size := Nat.le_trans hzr (grown_size hg5)
      have hB5 : Below w.heap.size w w5 := hbl.trans (below_of_grown hg5 hbl.size (fun g e => by injection e with e2; omega))
      clear hS hS5 hg5
      go_wp2_with fail
      go_roundw
      case rel => exact ⟨j + 1, n + 1, by omega, by omega, by go_num, hS6.out, hY5.out, HK5, hz5, hB5⟩
      case measure => simp [intOf]; omega
    · have hall : y.take j = y := List.take_of_length_le (by have := HM.out; omega)
      rw [hall] at hS
      have hS := hid (hS.same (Q' := fun t => shQ y (shS (x.take 0) y) t) (fun t => shQ_nil y t))
      obtain ⟨q1, q2, q3, q4, q5, q6⟩ := HKr.out.cells6
      clear hY hall
      go_wp2_with fail
      refine (HF.out _ hbl).mono ?_
      rintro e w2 ⟨A3, c3, rfl, hx2, hb2⟩
      have hB2 := hbl.trans (hb2.mono hbl.size)
      have hS2 := hS.out.on hb2
      have hz2 := Nat.le_trans hzr hb2.size
      have hX2 := own_mono (B' := w.heap.size + 3) hx2 (by omega)
      have HU := hid (own_upto hX2)
      clear hb2 hx2 hS HKr q1 q2 q3 q4 q5 q6 hbl hzr
      obtain ⟨S, hS⟩ : ∃ S, S = w2.heap.size := ⟨_, rfl⟩
      rw [← hS] at HU
      have hSle : S ≤ w2.heap.size := by omega
      have hS3 : w.heap.size + 3 ≤ S := by omega
      clear hS hz2
      go_wp2_with fail
      go_loopw [8, 25] (fun v i wr => ∃ j : Nat, j ≤ N ∧ i = .int .i64 j ∧ SetS wr (w.heap.size + 2) n (fun t => shQ y (shS (x.take j) y) t) ∧ wr.ownsRow S 9 1 v (shS (x.take j) y).length ((shS (x.take j) y).map sv) ∧ wr.ownsRow (w.heap.size + 3) 9 1 (.slice A3 N c3) N (x.map sv) ∧ S ≤ wr.heap.size ∧ Below w.heap.size w wr) (fun _ i _ => N - (intOf i).toNat)
      case atStart => exact ⟨0, Nat.zero_le _, rfl, hS2, World.ownsRow_nil _ _ _ _, hX2, hSle, hB2⟩
      case round =>
        clear hS2 hX2 hSle hB2
        obtain ⟨j, hj, rfl, hS, hO, hX, hzr, hbl⟩ := hrel
        by_cases hlt : j < N
        · have hlt2 : j < x.length := by have := HN.out; omega
          have hlti : (j : Int) < (N : Int) := by omega
          have hql := shS_len x y j (by omega)
          obtain ⟨b, off, rfl, hb, hc0⟩ := txt_at (own_strs_at hX) j hlt2
          have hss := HSX.out x[j] (List.getElem_mem _)
          obtain ⟨s, hs⟩ : ∃ s, s = x[j] := ⟨_, rfl⟩
          rw [← hs] at hc0 hss
          have HYY := hid (fun (e : shQ y (shS (x.take j) y) s = true) => shS_yes hlt2 hs e)
          have HNO := hid (fun (e : shQ y (shS (x.take j) y) s = false) => shS_no hlt2 hs e)
          clear hs
          obtain ⟨q, hq⟩ : ∃ q, q = shS (x.take j) y := ⟨_, rfl⟩
          rw [← hq] at HYY HNO hO hql hS
          clear hq
          have hlk := hS.look (s := s) (by unfold maxLen; omega)
          cases hQ : shQ y q s with
          | true =>
            rw [hQ] at hlk
            have HT := hid (HYY.out hQ)
            clear HYY HNO
            obtain ⟨A0, c0, rfl, -, -, -⟩ := own_strs hO
            have hap := sep_old HU.out hO (Nat.le_refl _)
            go_wp2_with (at_builtin; refine app_txt rfl _ _ 28 rfl S 9 Try.underlying28 Try.info_txt _ q.length q rfl hO s s rfl 1 rfl (by omega) hzr ?_; intro v7 w7 hown7 hb7 hg7; have hS7 := hS.kept hg7 (fun e => by have := (hO.lt _ e.symm).1; omega); obtain ⟨A7, c7, rfl, -, -, -⟩ := own_strs hown7; obtain ⟨w8, hdl, hS8, hg8⟩ := hS7.del (s := s) (by unfold maxLen; omega) 0)
            have hX7 := hX.kept hg7 hap
            have hz7 := Nat.le_trans hzr hb7.size
            have hB7 : Below w.heap.size w w7 := hbl.trans (hb7.mono (by omega))
            clear hX hO hb7 hg7 hbl hzr hap hS hlk
            have hS9 := hS8.same (Q' := fun t => shQ y (q ++ [s]) t) (fun t => shQ_next y q s t)
            have hX8 := hX7.kept hg8 (.inr (fun e => by have := (hX7.lt _ e).1; omega))
            have hO8 := hown7.kept hg8 (.inr (fun e => by have := (hown7.lt _ e).1; omega))
            have hz8 : S ≤ w8.heap.size := Nat.le_trans hz7 (grown_size hg8)
            have hB8 : Below w.heap.size w w8 := hB7.trans (below_of_grown hg8 hB7.size (fun g e => by injection e with e2; omega))
            clear hX7 hown7 hS7 hS8 hg8 hB7 hz7 hdl
            go_roundw
            case rel => exact ⟨j + 1, by omega, by go_num, by rw [HT.out]; exact hS9, by rw [HT.out, List.length_append]; rw [List.length_append] at hO8; exact hO8, hX8, hz8, hB8⟩
            case measure => simp [intOf]; omega
          | false =>
            rw [hQ] at hlk
            have HT := hid (HNO.out hQ)
            clear HYY HNO hQ
            go_wp2_with fail
            go_roundw
            case rel => exact ⟨j + 1, by omega, by go_num, by rw [HT.out]; exact hS, by rw [HT.out]; exact hO, hX, hzr, hbl⟩
            case measure => simp [intOf]; omega
        · have hall : x.take j = x := List.take_of_length_le (by have := HN.out; omega)
          rw [hall] at hO
          obtain ⟨A0, c0, rfl, -, -, -⟩ := own_strs hO
          have ho9 := own_mono (B' := w.heap.size) hO (by omega)
          clear hO hX hall hS
          go_wp2
          go_ret
          exact ⟨_, _, rfl, ho9, hbl⟩

end Go.Proofs.Ytgaihfmopenfeaa
