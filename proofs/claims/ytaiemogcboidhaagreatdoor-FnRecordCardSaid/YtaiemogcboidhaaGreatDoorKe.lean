/- The fields of an operation's text, and FormatOp in the program. -/
import Derived.Test.YtaiemogcboidhaaGreatDoorKd
namespace Go.Proofs.YtaiemogcboidhaaGreatDoor
open Go.ChangeShapes Go.WideShapes Go.ChangeAt Go.RowKit Go.Joins
set_option linter.unusedVariables false
set_option linter.unusedSimpArgs false

/-- a row of two texts that a literal makes -/
theorem own_two_txt (w : World) (a b : ByteArray) : (w.alloc (.cells #[.string a, .string b] 9)).ownsRow w.heap.size 9 1 (.slice (some ⟨w.heap.size, 0, none⟩) 2 2) 2 ([a, b].map sv) :=
  ⟨by simp, .inr ⟨w.heap.size, 2, #[.string a, .string b], rfl, Nat.le_refl _, heap_alloc_new w _, Nat.le_refl _, by simp [maxLen], rfl, by simp [sv]⟩⟩

/-- 'append(s, texts...)' where the texts lie at the beginning of a block, as a step of a drawn region -/
theorem step_txts {P : Program} {w : World} {ops : Array Oper} {o : Oper} {a : Act} {K : Act → World → Prop} {Q : Exit → Act → World → Prop} {E : Prop} (hgd : o.guard = none) (s x : Operand) (t : TypeId)
    (ho : o.op = .call { callee := .builtin .append, args := #[s, x], argTypes := #[t, t] }) (B : Nat) (e : TypeId) (ht : P.underlying t = some (.slice e))
    (hinfo : (P.info? e).map (fun i => (i.zero, i.size, i.bytes)) = some (some (.string ByteArray.empty), 1, 16)) (v : Value) (n : Nat) (l : List ByteArray) (hs : a.eval s = v) (hown : w.ownsRow B e 1 v n (l.map sv)) (ps : List ByteArray) (m : Nat) (hm : m = ps.length) (g cp : Nat) (T : TypeId) (cs : Array Value) (hg : Blk w g T cs) (hcs : cs.toList = ps.map sv)
    (hx : a.eval x = .slice (some ⟨g, 0, none⟩) m cp) (hn : n + ps.length ≤ 1000000000) (hB : B ≤ w.heap.size)
    (h : ∀ v' w', w'.ownsRow B e 1 v' (n + ps.length) ((l ++ ps).map sv) → Below B w w' → w.grownBy w' v.ownBlock → K (a.put o.dst v') w') : if Region.wanted o (yielded ops a.tmps) = true then Oper.wp P o a w K Q else E := by
  have hw : Region.wanted o (yielded ops a.tmps) = true := by simp [Region.wanted, hgd]
  rw [if_pos hw]
  subst hm
  obtain ⟨i0, hi, hz0, hz1, hz2⟩ := info_parts hinfo
  refine wp_append_own w s x t ho B e i0 (.string ByteArray.empty) 1 16 ht hi hz0 hz1 hz2 rfl (by decide) v n (l.map sv) hs hown ⟨g, 0, none⟩ ps.length cp (ps.map sv) hx (by simp) ?_ (by intro u hu; obtain ⟨q, _, rfl⟩ := List.mem_map.1 hu; rfl) ?_ (by omega) hB ?_
  · intro j u hj
    have e2 : ((⟨g, 0, none⟩ : Addr).add j) = ⟨g, j, none⟩ := by simp [Addr.add]; intro h; exact h.symm
    rw [e2, hg.cell j]
    rw [← hcs] at hj
    simpa using hj
  · unfold maxLen; omega
  · intro v' w' hown' hg' _
    exact h v' w' (by rw [List.map_append]; exact hown') (below_of_grown hg' hB (fun g hg => (hown.lt g hg).1)) hg'

set_option maxHeartbeats 8000000 in
set_option maxRecDepth 100000 in
theorem c_fields_4 (wd nm : ByteArray) (k f t z : Int) (d : ByteArray) (w : World) :
    Calls Tryz.prog 19 #[.agg #[.string wd, .bool false, .bool false, .bool false], .agg #[.int .i64 k, .string nm, .int .i64 f, .int .i64 t, .int .i64 z, .string d]] w fun e w' => ∃ A cap, e = .returned (.slice A 2 cap) ∧ StrsAt w' w'.heap.size A cap [wd, nm] ∧ Below w.heap.size w w' := by
  have kF := Blk.new w 40 #[.string wd, .bool false, .bool false, .bool false]
  have kF2 := kF.alloc (.cells #[.int .i64 k, .string nm, .int .i64 f, .int .i64 t, .int .i64 z, .string d] 24)
  have kO := Blk.new (w.alloc (.cells #[.string wd, .bool false, .bool false, .bool false] 40)) 24 #[.int .i64 k, .string nm, .int .i64 f, .int .i64 t, .int .i64 z, .string d]
  obtain ⟨s0, s1, s2, s3⟩ := kF2.cells4y
  obtain ⟨y0, y1, y2, y3, y4, y5⟩ := kO.cells6
  have hB0 : Below w.heap.size w ((w.alloc (.cells #[.string wd, .bool false, .bool false, .bool false] 40)).alloc (.cells #[.int .i64 k, .string nm, .int .i64 f, .int .i64 t, .int .i64 z, .string d] 24)) := bel_alloc (bel_alloc (Below.refl _ _) _) _
  obtain ⟨V, hV⟩ : ∃ V, V = (w.alloc (.cells #[.string wd, .bool false, .bool false, .bool false] 40)).alloc (.cells #[.int .i64 k, .string nm, .int .i64 f, .int .i64 t, .int .i64 z, .string d] 24) := ⟨_, rfl⟩
  have hzV : V.heap.size = w.heap.size + 2 := by rw [hV, World.size_alloc, World.size_alloc]
  rw [World.size_alloc] at y0 y1 y2 y3 y4 y5
  have kF3 := (hV ▸ kF2 : Blk V w.heap.size _ _)
  have kF4 := kF3.alloc (.cells #[.string wd, .string nm] 9)
  obtain ⟨u0, u1, u2, u3⟩ := kF4.cells4y
  have HR := hid (own_two_txt V wd nm)
  have hB1 := hid (bel_alloc (hV ▸ hB0 : Below w.heap.size w V) (.cells #[.string wd, .string nm] 9))
  clear kF kF2 kO kF3 kF4 hB0
  go_enter Tryz.func19, Tryz.ntmps19
  go_wp2_with fail
  rw [← hV]
  clear hV
  have hz2 : w.heap.size + 1 + 1 = V.heap.size := by omega
  go_ret
  refine ⟨some ⟨V.heap.size, 0, none⟩, 2, ?_, own_strs_at HR.out, hB1.out⟩
  simp [hz2]

set_option maxHeartbeats 8000000 in
set_option maxRecDepth 100000 in
theorem c_fields_3 (wd nm : ByteArray) (k f t z : Int) (d : ByteArray) (w : World) (hz : 0 ≤ z ∧ z ≤ 64) (hT : Tab w) :
    Calls Tryz.prog 19 #[.agg #[.string wd, .bool false, .bool true, .bool false], .agg #[.int .i64 k, .string nm, .int .i64 f, .int .i64 t, .int .i64 z, .string d]] w fun e w' => ∃ A cap, e = .returned (.slice A 3 cap) ∧ StrsAt w' w'.heap.size A cap [wd, nm, str (dec z)] ∧ Below w.heap.size w w' := by
  have HZ := hid (fun v (hb : Below w.heap.size w v) => c_itoaT z v hz.1 (by omega) (hT.on hb))
  obtain ⟨Z1, hZ1⟩ : ∃ Z1, Z1 = str (dec z) := ⟨_, rfl⟩
  rw [← hZ1] at HZ ⊢
  clear hZ1 hT hz
  have kF := Blk.new w 40 #[.string wd, .bool false, .bool true, .bool false]
  have kF2 := kF.alloc (.cells #[.int .i64 k, .string nm, .int .i64 f, .int .i64 t, .int .i64 z, .string d] 24)
  have kO := Blk.new (w.alloc (.cells #[.string wd, .bool false, .bool true, .bool false] 40)) 24 #[.int .i64 k, .string nm, .int .i64 f, .int .i64 t, .int .i64 z, .string d]
  obtain ⟨s0, s1, s2, s3⟩ := kF2.cells4y
  obtain ⟨y0, y1, y2, y3, y4, y5⟩ := kO.cells6
  have hB0 : Below w.heap.size w ((w.alloc (.cells #[.string wd, .bool false, .bool true, .bool false] 40)).alloc (.cells #[.int .i64 k, .string nm, .int .i64 f, .int .i64 t, .int .i64 z, .string d] 24)) := bel_alloc (bel_alloc (Below.refl _ _) _) _
  obtain ⟨V, hV⟩ : ∃ V, V = (w.alloc (.cells #[.string wd, .bool false, .bool true, .bool false] 40)).alloc (.cells #[.int .i64 k, .string nm, .int .i64 f, .int .i64 t, .int .i64 z, .string d] 24) := ⟨_, rfl⟩
  have hzV : V.heap.size = w.heap.size + 2 := by rw [hV, World.size_alloc, World.size_alloc]
  rw [World.size_alloc] at y0 y1 y2 y3 y4 y5
  have kF3 := (hV ▸ kF2 : Blk V w.heap.size _ _)
  have kF4 := kF3.alloc (.cells #[.string wd, .string nm] 9)
  obtain ⟨u0, u1, u2, u3⟩ := kF4.cells4y
  have HR := hid (own_two_txt V wd nm)
  have hB1 := hid (bel_alloc (hV ▸ hB0 : Below w.heap.size w V) (.cells #[.string wd, .string nm] 9))
  have HKF := hid kF4
  clear kF kF2 kO kF3 kF4 hB0
  go_enter Tryz.func19, Tryz.ntmps19
  go_wp2_with fail
  rw [← hV]
  clear hV
  have hz2 : w.heap.size + 1 + 1 = V.heap.size := by omega
  rw [hz2]
  have HzV := hid hzV
  clear hz2 hzV u0 u1 u2 u3 s0 s1 s2 s3
  have k9 := HKF.out
  refine (HZ.out _ hB1.out).mono ?_
  rintro e w2 ⟨rfl, hb2⟩
  have hB2 := hid (hB1.out.trans (hb2.mono hB1.out.size))
  have hR2 := own_on HR.out hb2
  have k2 := k9.on hb2
  clear k9
  obtain ⟨u0, u1, u2, u3⟩ := k2.cells4y
  go_wp2_with (at_builtin; refine app_txt rfl _ _ 38 rfl V.heap.size 9 Tryz.underlying38 Tryz.info_txt _ 2 [wd, nm] rfl hR2 Z1 Z1 rfl 1 rfl (by omega) (by have := hb2.size; rw [World.size_alloc] at this; omega) ?_; intro v3 w3 hown3 hb3 hg3; have k3 := k2.grown hg3 (by have e9 := HzV.out; intro e8; have e7 : w.heap.size = V.heap.size := Option.some.inj e8; omega); obtain ⟨x0, x1, x2, x3⟩ := k3.cells4y; have hB3 := hid (hB2.out.trans (hb3.mono (by have e9 := HzV.out; omega))); clear hb3 hg3)
  go_ret
  obtain ⟨A3, c3, rfl, hA3, _, _⟩ := own_strs hown3
  exact ⟨A3, c3, rfl, hA3, hB3.out⟩
set_option maxHeartbeats 8000000 in
set_option maxRecDepth 100000 in
theorem c_fields_0 (wd nm : ByteArray) (k f t z : Int) (d : ByteArray) (w : World) (hz : 0 ≤ z ∧ z ≤ 64) (hd : d.size ≤ 2000) (hT : Tab w) :
    Calls Tryz.prog 19 #[.agg #[.string wd, .bool false, .bool true, .bool true], .agg #[.int .i64 k, .string nm, .int .i64 f, .int .i64 t, .int .i64 z, .string d]] w fun e w' => ∃ A cap, e = .returned (.slice A 4 cap) ∧ StrsAt w' w'.heap.size A cap [wd, nm, str (dec z), dashI (str (M.fmtHex d.data.toList))] ∧ Below w.heap.size w w' := by
  have HZ := hid (fun v (hb : Below w.heap.size w v) => c_itoaT z v hz.1 (by omega) (hT.on hb))
  have HH := hid (fun v => c_FormatHex_yes d v (by omega))
  obtain ⟨X1, hX1⟩ : ∃ X1, X1 = str (M.fmtHex d.data.toList) := ⟨_, rfl⟩
  have HD := hid (fun v => c_dashIfEmptyI X1 v)
  rw [← hX1] at HH ⊢
  obtain ⟨H1, hH1⟩ : ∃ H1, H1 = dashI X1 := ⟨_, rfl⟩
  rw [← hH1] at HD ⊢
  clear hH1 hX1 hd
  obtain ⟨Z1, hZ1⟩ : ∃ Z1, Z1 = str (dec z) := ⟨_, rfl⟩
  rw [← hZ1] at HZ ⊢
  clear hZ1 hT hz
  have kF := Blk.new w 40 #[.string wd, .bool false, .bool true, .bool true]
  have kF2 := kF.alloc (.cells #[.int .i64 k, .string nm, .int .i64 f, .int .i64 t, .int .i64 z, .string d] 24)
  have kO := Blk.new (w.alloc (.cells #[.string wd, .bool false, .bool true, .bool true] 40)) 24 #[.int .i64 k, .string nm, .int .i64 f, .int .i64 t, .int .i64 z, .string d]
  obtain ⟨s0, s1, s2, s3⟩ := kF2.cells4y
  obtain ⟨y0, y1, y2, y3, y4, y5⟩ := kO.cells6
  have hB0 : Below w.heap.size w ((w.alloc (.cells #[.string wd, .bool false, .bool true, .bool true] 40)).alloc (.cells #[.int .i64 k, .string nm, .int .i64 f, .int .i64 t, .int .i64 z, .string d] 24)) := bel_alloc (bel_alloc (Below.refl _ _) _) _
  obtain ⟨V, hV⟩ : ∃ V, V = (w.alloc (.cells #[.string wd, .bool false, .bool true, .bool true] 40)).alloc (.cells #[.int .i64 k, .string nm, .int .i64 f, .int .i64 t, .int .i64 z, .string d] 24) := ⟨_, rfl⟩
  have hzV : V.heap.size = w.heap.size + 2 := by rw [hV, World.size_alloc, World.size_alloc]
  rw [World.size_alloc] at y0 y1 y2 y3 y4 y5
  have kF3 := (hV ▸ kF2 : Blk V w.heap.size _ _)
  have kF4 := kF3.alloc (.cells #[.string wd, .string nm] 9)
  obtain ⟨u0, u1, u2, u3⟩ := kF4.cells4y
  have HR := hid (own_two_txt V wd nm)
  have hB1 := hid (bel_alloc (hV ▸ hB0 : Below w.heap.size w V) (.cells #[.string wd, .string nm] 9))
  have HKF := hid kF4
  have HKO := hid (((World.size_alloc w (.cells #[.string wd, .bool false, .bool true, .bool true] 40)) ▸ (hV ▸ kO : Blk V _ _ _) : Blk V (w.heap.size + 1) _ _).alloc (.cells #[.string wd, .string nm] 9))
  clear kF kF2 kO kF3 kF4 hB0
  go_enter Tryz.func19, Tryz.ntmps19
  go_wp2_with fail
  rw [← hV]
  clear hV
  have hz2 : w.heap.size + 1 + 1 = V.heap.size := by omega
  rw [hz2]
  have HzV := hid hzV
  clear hz2 hzV u0 u1 u2 u3 s0 s1 s2 s3
  have k9 := HKF.out
  have kP0 := HKO.out
  refine (HZ.out _ hB1.out).mono ?_
  rintro e w2 ⟨rfl, hb2⟩
  have hB2 := hid (hB1.out.trans (hb2.mono hB1.out.size))
  have hR2 := own_on HR.out hb2
  have k2 := k9.on hb2
  have kP2 := kP0.on hb2
  clear k9 kP0
  obtain ⟨u0, u1, u2, u3⟩ := k2.cells4y
  go_wp2_with (at_builtin; refine app_txt rfl _ _ 38 rfl V.heap.size 9 Tryz.underlying38 Tryz.info_txt _ 2 [wd, nm] rfl hR2 Z1 Z1 rfl 1 rfl (by omega) (by have := hb2.size; rw [World.size_alloc] at this; omega) ?_; intro v3 w3 hown3 hb3 hg3; have k3 := k2.grown hg3 (by have e9 := HzV.out; intro e8; have e7 : w.heap.size = V.heap.size := Option.some.inj e8; omega); have kP3 := kP2.grown hg3 (by have e9 := HzV.out; intro e8; have e7 : w.heap.size + 1 = V.heap.size := Option.some.inj e8; omega); obtain ⟨p0, p1, p2, p3, p4, p5⟩ := kP3.cells6; obtain ⟨x0, x1, x2, x3⟩ := k3.cells4y; have HV3 := hid (show V.heap.size ≤ w3.heap.size from by have e6 := hb2.size; rw [World.size_alloc] at e6; have e5 := hb3.size; omega); have hB3 := hid (hB2.out.trans (hb3.mono (by have e9 := HzV.out; omega))); clear hb3 hg3)
  refine (HH.out _).mono ?_
  rintro e w4 ⟨rfl, hb4⟩
  have hB4 := hid (hB3.out.trans (hb4.mono hB3.out.size))
  have hR4v : V.heap.size ≤ w4.heap.size := Nat.le_trans HV3.out hb4.size
  have hR4 := own_on hown3 hb4
  go_wp2_with fail
  refine (HD.out _).mono ?_
  rintro e w5 ⟨rfl, rfl⟩
  go_wp2_with (at_builtin; refine app_txt rfl _ _ 38 rfl V.heap.size 9 Tryz.underlying38 Tryz.info_txt _ 3 ([wd, nm] ++ [Z1]) rfl hR4 H1 H1 rfl 1 rfl (by omega) (by have e9 := HzV.out; have e8 := hB4.out.size; have e7 := hR4v; omega) ?_; intro v6 w6 hown6 hb6 hg6; have hB6 := hid (hB4.out.trans (hb6.mono (by have e9 := HzV.out; omega))); clear hb6 hg6)
  go_ret
  obtain ⟨A6, c6, rfl, hA6, _, _⟩ := own_strs hown6
  exact ⟨A6, c6, rfl, hA6, hB6.out⟩

set_option maxHeartbeats 8000000 in
set_option maxRecDepth 100000 in
theorem c_fields_2 (wd nm : ByteArray) (k f t z : Int) (d : ByteArray) (w : World) (hf : 0 ≤ f ∧ f ≤ 2000) (ht : 0 ≤ t ∧ t ≤ 2000) (hz : 0 ≤ z ∧ z ≤ 64) (hd : d.size ≤ 2000) (hT : Tab w) :
    Calls Tryz.prog 19 #[.agg #[.string wd, .bool true, .bool true, .bool true], .agg #[.int .i64 k, .string nm, .int .i64 f, .int .i64 t, .int .i64 z, .string d]] w fun e w' => ∃ A cap, e = .returned (.slice A 6 cap) ∧ StrsAt w' w'.heap.size A cap [wd, nm, str (dec f), str (dec t), str (dec z), dashI (str (M.fmtHex d.data.toList))] ∧ Below w.heap.size w w' := by
  have HZ := hid (fun v (hb : Below w.heap.size w v) => c_itoaT z v hz.1 (by omega) (hT.on hb))
  have HF := hid (fun v (hb : Below w.heap.size w v) => c_itoaT f v hf.1 (by omega) (hT.on hb))
  have HT := hid (fun v (hb : Below w.heap.size w v) => c_itoaT t v ht.1 (by omega) (hT.on hb))
  have HH := hid (fun v => c_FormatHex_yes d v (by omega))
  obtain ⟨X1, hX1⟩ : ∃ X1, X1 = str (M.fmtHex d.data.toList) := ⟨_, rfl⟩
  have HD := hid (fun v => c_dashIfEmptyI X1 v)
  rw [← hX1] at HH ⊢
  obtain ⟨H1, hH1⟩ : ∃ H1, H1 = dashI X1 := ⟨_, rfl⟩
  rw [← hH1] at HD ⊢
  obtain ⟨Z1, hZ1⟩ : ∃ Z1, Z1 = str (dec z) := ⟨_, rfl⟩
  obtain ⟨F1, hF1⟩ : ∃ F1, F1 = str (dec f) := ⟨_, rfl⟩
  obtain ⟨T1, hT1⟩ : ∃ T1, T1 = str (dec t) := ⟨_, rfl⟩
  rw [← hZ1] at HZ ⊢
  rw [← hF1] at HF ⊢
  rw [← hT1] at HT ⊢
  clear hH1 hX1 hd hZ1 hF1 hT1 hT hz hf ht
  have kF := Blk.new w 40 #[.string wd, .bool true, .bool true, .bool true]
  have kF2 := kF.alloc (.cells #[.int .i64 k, .string nm, .int .i64 f, .int .i64 t, .int .i64 z, .string d] 24)
  have kO := Blk.new (w.alloc (.cells #[.string wd, .bool true, .bool true, .bool true] 40)) 24 #[.int .i64 k, .string nm, .int .i64 f, .int .i64 t, .int .i64 z, .string d]
  obtain ⟨s0, s1, s2, s3⟩ := kF2.cells4y
  obtain ⟨y0, y1, y2, y3, y4, y5⟩ := kO.cells6
  have hB0 : Below w.heap.size w ((w.alloc (.cells #[.string wd, .bool true, .bool true, .bool true] 40)).alloc (.cells #[.int .i64 k, .string nm, .int .i64 f, .int .i64 t, .int .i64 z, .string d] 24)) := bel_alloc (bel_alloc (Below.refl _ _) _) _
  obtain ⟨V, hV⟩ : ∃ V, V = (w.alloc (.cells #[.string wd, .bool true, .bool true, .bool true] 40)).alloc (.cells #[.int .i64 k, .string nm, .int .i64 f, .int .i64 t, .int .i64 z, .string d] 24) := ⟨_, rfl⟩
  have hzV : V.heap.size = w.heap.size + 2 := by rw [hV, World.size_alloc, World.size_alloc]
  rw [World.size_alloc] at y0 y1 y2 y3 y4 y5
  have kF3 := (hV ▸ kF2 : Blk V w.heap.size _ _)
  have kO3 : Blk V (w.heap.size + 1) _ _ := ((World.size_alloc w (.cells #[.string wd, .bool true, .bool true, .bool true] 40)) ▸ (hV ▸ kO : Blk V _ _ _) : Blk V (w.heap.size + 1) _ _)
  have kF4 := kF3.alloc (.cells #[.string wd, .string nm] 9)
  obtain ⟨u0, u1, u2, u3⟩ := kF4.cells4y
  have HK := hid (kF4.on (bel_drew (Below.refl _ _)))
  have HO := hid ((kO3.alloc (.cells #[.string wd, .string nm] 9)).on (bel_drew (Below.refl _ _)))
  have HS := hid (kO3.alloc (.cells #[.string wd, .string nm] 9))
  have HR := hid (own_on (own_two_txt V wd nm) (bel_drew (Below.refl _ _)))
  have HB := hid (bel_drew (bel_alloc (hV ▸ hB0 : Below w.heap.size w V) (.cells #[.string wd, .string nm] 9)))
  clear kF kF2 kO kF3 kO3 kF4 hB0
  go_enter Tryz.func19, Tryz.ntmps19
  go_wp2_with fail
  rw [← hV]
  clear hV
  have hz2 : w.heap.size + 1 + 1 = V.heap.size := by omega
  rw [hz2]
  have HzV := hid hzV
  obtain ⟨V1, hV1⟩ : ∃ V1, V1 = V.alloc (.cells #[.string wd, .string nm] 9) := ⟨_, rfl⟩
  have HZV := hid (show V.heap.size ≤ V1.drew.heap.size from by rw [hV1]; show V.heap.size ≤ (V.alloc _).heap.size; rw [World.size_alloc]; omega)
  have hS0 := HS.out
  rw [← hV1] at HK HO HR HB hS0 ⊢
  have hS : V1.cell? ⟨w.heap.size + 1, 2, none⟩ = some (.int .i64 f) ∧ V1.cell? ⟨w.heap.size + 1, 3, none⟩ = some (.int .i64 t) ∧ True := ⟨hS0.cell 2, hS0.cell 3, trivial⟩
  clear hz2 hzV u0 u1 u2 u3 s0 s1 s2 s3 y0 y1 y2 y3 y4 y5 hS0 HS hV1
  refine wp_region_noPanic ?_
  refine wp_region_held_drew (S := (fun v => v.cell? ⟨w.heap.size + 1, 2, none⟩ = some (.int .i64 f) ∧ v.cell? ⟨w.heap.size + 1, 3, none⟩ = some (.int .i64 t) ∧ True)) (by kernel_rfl) (t2_drew hS) (fun hHeld => ?_)
  refine tk 0 ?_
  refine tk 1 ?_
  refine tk 2 ?_
  refine tk 4 ?_
  refine tk 5 ?_
  refine wpAnyH_ready (rs := [3]) (by kernel_rfl) (by simp) ?_
  refine AllReadyH.cons (o := ?or1_3) ?ir1_3 (fun K hK => ?sr1_3) AllReadyH.nil
  case ir1_3 => (simp only [List.getElem?_toArray, List.getElem?_cons_succ, List.getElem?_cons_zero]; rfl)
  (go_simp; (go_at_call 47; refine (HF.out _ HB.out).mono ?_; rintro e wA ⟨rfl, hbA⟩; replace HK := hid (HK.out.on hbA); replace HO := hid (HO.out.on hbA); replace HR := hid (own_on HR.out hbA); replace HB := hid (HB.out.trans (hbA.mono HB.out.size)); replace HZV := hid (Nat.le_trans HZV.out hbA.size); clear hbA; have twA : wA.cell? ⟨w.heap.size + 1, 2, none⟩ = some (.int .i64 f) ∧ wA.cell? ⟨w.heap.size + 1, 3, none⟩ = some (.int .i64 t) ∧ True := ⟨HO.out.cell 2, HO.out.cell 3, trivial⟩))
  refine hK.out _ _ ?kr1_3 (fun hHeld => ?_)
  case kr1_3 => (try dsimp only); (first | with_reducible assumption | exact t2_bel (by assumption) (by assumption) | assumption | exact t2_alloc (by assumption) _)
  clear hK K
  try simp only [Act.put, List.setIfInBounds_toArray, List.set_cons_zero, List.set_cons_succ]
  refine wpAnyH_ready (rs := [6]) (by kernel_rfl) (by simp) ?_
  refine AllReadyH.cons (o := ?or1_6) ?ir1_6 (fun K hK => ?sr1_6) AllReadyH.nil
  case ir1_6 => (simp only [List.getElem?_toArray, List.getElem?_cons_succ, List.getElem?_cons_zero]; rfl)
  (go_simp; (go_at_call 47; refine (HT.out _ HB.out).mono ?_; rintro e wB ⟨rfl, hbA⟩; replace HK := hid (HK.out.on hbA); replace HO := hid (HO.out.on hbA); replace HR := hid (own_on HR.out hbA); replace HB := hid (HB.out.trans (hbA.mono HB.out.size)); replace HZV := hid (Nat.le_trans HZV.out hbA.size); clear hbA; have twB : wB.cell? ⟨w.heap.size + 1, 2, none⟩ = some (.int .i64 f) ∧ wB.cell? ⟨w.heap.size + 1, 3, none⟩ = some (.int .i64 t) ∧ True := ⟨HO.out.cell 2, HO.out.cell 3, trivial⟩))
  refine hK.out _ _ ?kr1_6 (fun hHeld => ?_)
  case kr1_6 => (try dsimp only); (first | with_reducible assumption | exact t2_bel (by assumption) (by assumption) | assumption | exact t2_alloc (by assumption) _)
  clear hK K
  try simp only [Act.put, List.setIfInBounds_toArray, List.set_cons_zero, List.set_cons_succ]
  refine wpAnyH_ready (rs := [7]) (by kernel_rfl) (by simp) ?_
  refine AllReadyH.cons (o := ?or1_7) ?ir1_7 (fun K hK => ?sr1_7) AllReadyH.nil
  case ir1_7 => (simp only [List.getElem?_toArray, List.getElem?_cons_succ, List.getElem?_cons_zero]; rfl)
  ((go_simp))
  refine hK.out _ _ ?kr1_7 (fun hHeld => ?_)
  case kr1_7 => (try dsimp only); (first | with_reducible assumption | exact t2_bel (by assumption) (by assumption) | assumption | exact t2_alloc (by assumption) _)
  clear hK K
  try simp only [Act.put, List.setIfInBounds_toArray, List.set_cons_zero, List.set_cons_succ]
  refine wpAnyH_ready (rs := [8]) (by kernel_rfl) (by simp) ?_
  refine AllReadyH.cons (o := ?or1_8) ?ir1_8 (fun K hK => ?sr1_8) AllReadyH.nil
  case ir1_8 => (simp only [List.getElem?_toArray, List.getElem?_cons_succ, List.getElem?_cons_zero]; rfl)
  ((refine step_txts (by rfl) _ _ 38 (by rfl) V.heap.size 9 Tryz.underlying38 Tryz.info_txt _ 2 [wd, nm] (by rfl) (HR.out.alloc _) [F1, T1] 2 (by rfl) _ 2 9 _ (Blk.new _ _ _) (by rfl) (by rfl) (by simp) (by rw [World.size_alloc]; have e9 := HZV.out; omega) ?_; intro v7 w7 hown7 hb7 hg7; replace HK := hid ((HK.out.alloc _).grown hg7 (by have e9 := HzV.out; intro e8; have e7 : w.heap.size = V.heap.size := Option.some.inj e8; omega)); replace HO := hid ((HO.out.alloc _).grown hg7 (by have e9 := HzV.out; intro e8; have e7 : w.heap.size + 1 = V.heap.size := Option.some.inj e8; omega)); replace HB := hid ((bel_alloc HB.out _).trans (hb7.mono (by have e9 := HzV.out; omega))); replace HZV := hid (show V.heap.size ≤ w7.heap.size from by have e6 := hb7.size; have e5 := HZV.out; rw [World.size_alloc] at e6; omega); clear hb7 hg7; have tC : w7.cell? ⟨w.heap.size + 1, 2, none⟩ = some (.int .i64 f) ∧ w7.cell? ⟨w.heap.size + 1, 3, none⟩ = some (.int .i64 t) ∧ True := ⟨HO.out.cell 2, HO.out.cell 3, trivial⟩))
  refine hK.out _ _ ?kr1_8 (fun hHeld => ?_)
  case kr1_8 => (try dsimp only); (first | with_reducible assumption | exact t2_bel (by assumption) (by assumption) | assumption | exact t2_alloc (by assumption) _)
  clear hK K
  try simp only [Act.put, List.setIfInBounds_toArray, List.set_cons_zero, List.set_cons_succ]
  refine tk 9 ?_
  refine wpAnyH_done (by kernel_rfl) ?_ _
  refine NoPanic.normal ?_
  all_goals
    obtain ⟨x0, x1, x2, x3⟩ := HK.out.cells4y
    obtain ⟨p0, p1, p2, p3, p4, p5⟩ := HO.out.cells6
    go_wp2_with fail
    refine (HZ.out _ HB.out).mono ?_
    rintro e w8 ⟨rfl, hb8⟩
    have hR8 := own_on hown7 hb8
    have kK8 := HK.out.on hb8
    have kO8 := HO.out.on hb8
    have HB8 := hid (HB.out.trans (hb8.mono HB.out.size))
    have HV8 := hid (Nat.le_trans HZV.out hb8.size)
    clear hb8 x0 x1 x2 x3 p0 p1 p2 p3 p4 p5
    obtain ⟨x0, x1, x2, x3⟩ := kK8.cells4y
    go_wp2_with (at_builtin; refine app_txt rfl _ _ 38 rfl V.heap.size 9 Tryz.underlying38 Tryz.info_txt _ (2 + [F1, T1].length) ([wd, nm] ++ [F1, T1]) rfl hR8 Z1 Z1 rfl 1 rfl (by simp) HV8.out ?_; intro v3 w3 hown3 hb3 hg3; have k3 := kK8.grown hg3 (by intro e8; have e7 := (hR8.lt _ e8.symm).1; have e9 := HzV.out; omega); have kP3 := kO8.grown hg3 (by intro e8; have e7 := (hR8.lt _ e8.symm).1; have e9 := HzV.out; omega); obtain ⟨p0, p1, p2, p3, p4, p5⟩ := kP3.cells6; obtain ⟨x0, x1, x2, x3⟩ := k3.cells4y; have HV3 := hid (Nat.le_trans HV8.out hb3.size); have HB3 := hid (HB8.out.trans (hb3.mono (by have e9 := HzV.out; omega))); clear hb3 hg3)
    refine (HH.out _).mono ?_
    rintro e w4 ⟨rfl, hb4⟩
    have HB4 := hid (HB3.out.trans (hb4.mono HB3.out.size))
    have HV4 := hid (Nat.le_trans HV3.out hb4.size)
    have hR4 := own_on hown3 hb4
    clear hb4
    go_wp2_with fail
    refine (HD.out _).mono ?_
    rintro e w5 ⟨rfl, rfl⟩
    go_wp2_with (at_builtin; refine app_txt rfl _ _ 38 rfl V.heap.size 9 Tryz.underlying38 Tryz.info_txt _ (2 + [F1, T1].length + 1) ([wd, nm] ++ [F1, T1] ++ [Z1]) rfl hR4 H1 H1 rfl 1 rfl (by simp) HV4.out ?_; intro v6 w6 hown6 hb6 hg6; have HB6 := hid (HB4.out.trans (hb6.mono (by have e9 := HzV.out; omega))); clear hb6 hg6)
    go_ret
    obtain ⟨A6, c6, rfl, hA6, _, _⟩ := own_strs hown6
    exact ⟨A6, c6, rfl, hA6, HB6.out⟩
end Go.Proofs.YtaiemogcboidhaaGreatDoor
