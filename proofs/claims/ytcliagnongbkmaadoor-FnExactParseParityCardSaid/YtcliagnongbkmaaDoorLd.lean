/- ParsePatch in both programs and the walk of its law. -/
import Derived.Test.YtcliagnongbkmaaDoorLc
import Derived.Test.YtcliagnongbkmaaDoorIa
namespace Go.Proofs.YtcliagnongbkmaaDoor
open Go.ChangeShapes Go.WideShapes Go.ChangeAt Go.RowKit Go.Joins
set_option linter.unusedVariables false
set_option linter.unusedSimpArgs false

theorem pp_len_three {l : List ByteArray} (h : l.length = 3) : ∃ a b c, l = [a, b, c] := by
  match l, h with
  | [a, b, c], _ => exact ⟨a, b, c, rfl⟩
theorem dec_no32 (n : Int) : ∀ x ∈ (str (dec n)).data.toList, x ≠ (32 : UInt8) := by
  intro x hx e
  rw [str_list] at hx
  have := (dig_dec _ x hx).1
  subst e
  exact absurd this (by decide)
theorem hex_ge (s : List UInt8) : ∀ x ∈ M.hex s, 48 ≤ x.toNat := by
  intro x hx
  unfold M.hex at hx
  rw [List.mem_flatMap] at hx
  obtain ⟨c, _, hc⟩ := hx
  have hc2 := c.toNat_lt
  have key : ∀ n : Fin 16, 48 ≤ (M.hexd n.val).toNat := by decide
  simp only [List.mem_cons, List.not_mem_nil, or_false] at hc
  rcases hc with rfl | rfl
  · exact key ⟨c.toNat / 16, by omega⟩
  · exact key ⟨c.toNat % 16, by omega⟩
theorem fmtHex_ge (s : List UInt8) : ∀ x ∈ M.fmtHex s, 48 ≤ x.toNat := by
  unfold M.fmtHex
  split
  · exact hex_ge s
  · simp
theorem dashH_no32 (d : ByteArray) : ∀ x ∈ (dashI (str (M.fmtHex d.data.toList))).data.toList, x ≠ (32 : UInt8) := by
  intro x hx e
  subst e
  unfold dashI at hx
  split at hx
  · rw [str_list] at hx; simp at hx
  · rw [str_list] at hx
    exact absurd (fmtHex_ge _ _ hx) (by decide)
theorem und_dash (d : ByteArray) (hd : d.size ≤ 4000) : M.parseHex (undI (dashI (str (M.fmtHex d.data.toList)))).data.toList = some d.data.toList := by
  have hl : d.data.toList.length ≤ 4000 := by simpa using hd
  have h2 : M.parseHex (M.fmtHex d.data.toList) = some d.data.toList := by
    rw [M.fmtHex, if_pos hl, M.parseHex, if_pos (by rw [M.hex_length]; omega), M.unhex_hex]
  by_cases hz : (str (M.fmtHex d.data.toList)).size = 0
  · rw [dashI, if_pos hz, undI, if_pos rfl]
    have e0 : M.fmtHex d.data.toList = [] := by rw [str_size] at hz; exact List.length_eq_zero_iff.1 hz
    rw [e0] at h2
    exact h2
  · rw [dashI, if_neg hz]
    have hne : ¬ str (M.fmtHex d.data.toList) = str [45] := by
      intro e
      have e2 : M.fmtHex d.data.toList = [45] := by
        have := congrArg (fun x : ByteArray => x.data.toList) e
        simpa [str_list] using this
      have := fmtHex_ge d.data.toList 45 (by rw [e2]; simp)
      exact absurd this (by decide)
    rw [undI, if_neg hne, str_list]
    exact h2

theorem fpT_join {f t : Int} {d : ByteArray} (h : pvOk f t d) : (fpT f t d).data.toList = joinL 32 ((fpF f t d).map (·.data.toList)) := by
  unfold fpT fpF
  rw [if_pos h]
  have e32 : (str [32]).data.toList = [32] := str_list _
  simp [joinL, e32]
theorem fpF_no32 (f t : Int) (d : ByteArray) : ∀ x ∈ fpF f t d, ∀ c ∈ x.data.toList, c ≠ (32 : UInt8) := by
  intro x hx
  simp only [fpF, List.mem_cons, List.not_mem_nil, or_false] at hx
  rcases hx with rfl | rfl | rfl
  · exact dec_no32 f
  · exact dec_no32 t
  · exact dashH_no32 d
/-- a row is the fields of the text, if the text is a patch's -/
def PPl (T : ByteArray) (l : List ByteArray) : Prop := ∀ f t d, pvOk f t d → fpT f t d = T → l = fpF f t d
theorem ppl_cut {T : ByteArray} {l : List ByteArray} (h : CutAs 32 4 T l) : PPl T l := fun f t d hv hT =>
  h (fpF f t d) (by simp [fpF]) (by simp [fpF]) (fpF_no32 f t d) (by rw [← hT]; exact fpT_join hv)
theorem ppl_cutL {T : ByteArray} {l : List ByteArray} (h : l.map (·.data.toList) = cutL 32 T.data.toList) : PPl T l := fun f t d hv hT => by
  refine bytes_back ?_
  rw [h, ← hT, fpT_join hv]
  refine cutL_join 32 _ (by simp [fpF]) ?_
  intro g hg x hx
  obtain ⟨y, hy, rfl⟩ := List.mem_map.1 hg
  exact fpF_no32 f t d y hy x hx

/-- a number read from a field -/
def NumOf (x : ByteArray) (n : Int) : Prop := ∀ k : Int, 0 ≤ k → k ≤ 1000000000000000 → x = str (dec k) → n = k
/-- data read from a field -/
def DatOf (x D : ByteArray) : Prop := D.size ≤ 4000 ∧ ∀ d : ByteArray, d.size ≤ 4000 → x = dashI (str (M.fmtHex d.data.toList)) → D = d
theorem dat_of {x : ByteArray} {e : Ending} (h : PH (undI x) e) : ∃ (D : ByteArray) (b : Bool), e = .returned (.tuple #[.string D, .bool b]) ∧ DatOf x D := by
  rcases h with ⟨h1, rfl⟩ | ⟨d, h1, rfl⟩
  · refine ⟨_, _, rfl, Nat.zero_le _, fun d hd hx => ?_⟩
    rw [hx, und_dash d hd] at h1
    cases h1
  · have hl : d.length ≤ 4000 := by
      unfold M.parseHex at h1
      split at h1
      · have := M.unhex_length _ _ h1; omega
      · cases h1
    refine ⟨_, _, rfl, by rw [str_size]; exact hl, fun d2 hd hx => ?_⟩
    rw [hx, und_dash d2 hd] at h1
    injection h1 with h1
    rw [← h1, str_self]

theorem bytes_neI {a b : ByteArray} (h : ¬ a = b) : (a.toList == b.toList) = false := by
  rw [ByteArray.toList_eq, ByteArray.toList_eq, beq_eq_false_iff_ne]
  intro e
  exact h (ByteArray.ext (Array.toList_inj.1 e))
theorem Blk.set_farI {w : World} {g R : Nat} {t : TypeId} {cs : Array Value} (h : Blk w g t cs) (i : Nat) (a : Value) (hn : g ≠ R) : Blk (w.setCell ⟨R, i, none⟩ a) g t cs :=
  h.grown (grown_set (grown_refl w (some R)) i a) (by simp; omega)
theorem cutL_len (c : UInt8) : ∀ (T : List UInt8) (x : List UInt8), x ∈ cutL c T → x.length ≤ T.length
  | [], x, h => by simp [cutL] at h; subst h; simp
  | b :: r, x, h => by
    have ih := cutL_len c r
    rw [cutL] at h
    split at h
    · rcases List.mem_cons.1 h with rfl | h
      · simp
      · have := ih x h; simp; omega
    · split at h
      · simp at h; subst h; simp
      · rename_i p q e
        rw [e] at ih
        rcases List.mem_cons.1 h with rfl | h
        · have := ih p (by simp); simp; omega
        · have := ih x (by simp [h]); simp; omega
theorem cut_sizes {c : UInt8} {T : ByteArray} {l : List ByteArray} (h : l.map (·.data.toList) = cutL c T.data.toList) (x : ByteArray) (hx : x ∈ l) : x.size ≤ T.size := by
  have h1 := cutL_len c T.data.toList x.data.toList (by rw [← h]; exact List.mem_map_of_mem hx)
  simpa using h1
theorem cut_one {T : ByteArray} {l : List ByteArray} (h : l.map (·.data.toList) = cutL 32 T.data.toList) (h3 : 2 ≤ l.length) : ¬ T = ByteArray.empty := by
  rintro rfl
  have h1 := congrArg List.length h
  rw [List.length_map] at h1
  have h2 : (cutL 32 (ByteArray.empty.data.toList)).length = 1 := rfl
  omega

/-- what ParsePatch returns -/
def PPat (T : ByteArray) (e : Ending) : Prop :=
  (∃ (f t : Int) (d : ByteArray), pvOk f t d ∧ fpT f t d = T ∧ e = .returned (.tuple #[.agg #[.int .i64 f, .int .i64 t, .string d], .bool true])) ∨
  ((∀ (f t : Int) (d : ByteArray), pvOk f t d → fpT f t d = T → False) ∧ e = .returned (.tuple #[.agg #[.int .i64 0, .int .i64 0, .string ⟨#[]⟩], .bool false]))
theorem ppat_len {T : ByteArray} {l : List ByteArray} (h : PPl T l) (hn : ¬ l.length = 3) : PPat T (.returned (.tuple #[.agg #[.int .i64 0, .int .i64 0, .string ⟨#[]⟩], .bool false])) :=
  .inr ⟨fun f t d hv hT => hn (by rw [h f t d hv hT]; rfl), rfl⟩
theorem ppat_no {T x0 x1 x2 : ByteArray} {n0 n1 : Int} {D : ByteArray} (h : PPl T [x0, x1, x2]) (h0 : NumOf x0 n0) (h1 : NumOf x1 n1) (h2 : DatOf x2 D) (hne : ¬ fpT n0 n1 D = T) : PPat T (.returned (.tuple #[.agg #[.int .i64 0, .int .i64 0, .string ⟨#[]⟩], .bool false])) := by
  refine .inr ⟨fun f t d hv hT => hne ?_, rfl⟩
  have hl := h f t d hv hT
  simp only [fpF, List.cons.injEq, and_true] at hl
  obtain ⟨⟨v1, v2⟩, v3, v4⟩ := id hv
  rw [h0 f v1 (by omega) hl.1, h1 t (by omega) (by omega) hl.2.1, h2.2 d (by omega) hl.2.2]
  exact hT
theorem ppat_yes {T : ByteArray} {n0 n1 : Int} {D : ByteArray} (hT0 : ¬ T = ByteArray.empty) (he : fpT n0 n1 D = T) : PPat T (.returned (.tuple #[.agg #[.int .i64 n0, .int .i64 n1, .string D], .bool true])) := by
  refine .inl ⟨n0, n1, D, ?_, he, rfl⟩
  by_cases h : pvOk n0 n1 D
  · exact h
  · exact absurd (by rw [← he, fpT, if_neg h]) hT0
theorem ppat_one {T : ByteArray} {e e2 : Ending} (h : PPat T e) (h2 : PPat T e2) : e = e2 := by
  rcases h with ⟨f, t, d, hv, hT, rfl⟩ | ⟨hn, rfl⟩
  · rcases h2 with ⟨f2, t2, d2, hv2, hT2, rfl⟩ | ⟨hn, rfl⟩
    · have hF : PPl T (fpF f2 t2 d2) := by
        refine ppl_cut (fun fs h1 h2 h3 h4 => ?_)
        have e1 := cutL_join 32 (fs.map (·.data.toList)) (by simpa using h1) (by intro g hg x hx; obtain ⟨y, hy, rfl⟩ := List.mem_map.1 hg; exact h3 y hy x hx)
        have e2 := cutL_join 32 ((fpF f2 t2 d2).map (·.data.toList)) (by simp [fpF]) (by intro g hg x hx; obtain ⟨y, hy, rfl⟩ := List.mem_map.1 hg; exact fpF_no32 f2 t2 d2 y hy x hx)
        rw [← fpT_join hv2, hT2, h4, e1] at e2
        exact bytes_back e2.symm
      have hl := hF f t d hv hT
      simp only [fpF, List.cons.injEq, and_true] at hl
      obtain ⟨⟨v1, v2⟩, v3, v4⟩ := id hv
      obtain ⟨⟨u1, u2⟩, u3, u4⟩ := id hv2
      have inj : ∀ a b : Int, 0 ≤ a → 0 ≤ b → str (dec a) = str (dec b) → a = b := by
        intro a b ha hb e
        have e9 := congrArg (fun x : ByteArray => valL x.data.toList) e
        simp only [str_list] at e9
        unfold dec at e9
        rw [val_dec, val_dec] at e9
        omega
      have q1 := inj f2 f u1 v1 hl.1
      have q2 := inj t2 t (by omega) (by omega) hl.2.1
      have q3 : d2 = d := by
        have r1 := und_dash d2 (by omega)
        rw [hl.2.2, und_dash d (by omega)] at r1
        injection r1 with r1
        exact (ByteArray.ext (Array.toList_inj.1 r1)).symm
      rw [q1, q2, q3]
    · exact (hn f t d hv hT).elim
  · rcases h2 with ⟨f2, t2, d2, hv2, hT2, rfl⟩ | ⟨_, rfl⟩
    · exact (hn f2 t2 d2 hv2 hT2).elim
    · rfl

theorem c_readHex (x : ByteArray) (w : World) (hx : x.size ≤ maxLen) : Calls Tryd.prog 26 #[.string (undI x)] w fun e w' => (∃ (D : ByteArray) (b : Bool), e = .returned (.tuple #[.string D, .bool b]) ∧ DatOf x D) ∧ Below w.heap.size w w' :=
  (c_ParseHex (undI x) w (Nat.le_trans (undI_size x) hx)).mono fun _ _ h => ⟨dat_of h.1, h.2⟩
theorem c_sreadHex (x : ByteArray) (w : World) (hx : x.size ≤ 1048576) : Calls Tryd.prog 21 #[.string (undI x)] w fun e w' => (∃ (D : ByteArray) (b : Bool), e = .returned (.tuple #[.string D, .bool b]) ∧ DatOf x D) ∧ Below w.heap.size w w' :=
  (c_sParseHex (undI x) w (Nat.le_trans (undI_size x) hx)).mono fun _ _ h => ⟨dat_of h.1, h.2⟩

set_option maxHeartbeats 8000000 in
set_option maxRecDepth 100000 in
theorem c_ParsePatch (T : ByteArray) (w : World) (ht : T.size ≤ 1048576) (hE : ErrAt w) (mm : Int) (hm : w.cell? ⟨2, 0, none⟩ = some (.int .i64 mm)) (hTab : Tab w) : Calls Tryd.prog 7 #[.string T] w fun e w' => PPat T e ∧ Below w.heap.size w w' := by
  go_enter Tryd.func7, Tryd.ntmps7
  go_wp2_with fail
  obtain ⟨N, hN⟩ : ∃ N, N = w.heap.size := ⟨_, rfl⟩
  have hNw : w.heap.size ≤ N := by omega
  obtain ⟨W1, hW1⟩ : ∃ W1, W1 = w.alloc (.cells #[.int .i64 0, .int .i64 0, .string ⟨#[]⟩] 23) := ⟨_, rfl⟩
  rw [← hN, ← hW1]
  have k1 : Blk W1 N 23 #[.int .i64 0, .int .i64 0, .string ⟨#[]⟩] := by rw [hW1, hN]; exact Blk.new w _ _
  have c1 : Below w.heap.size w W1 := by rw [hW1]; exact bel_alloc (Below.refl _ _) _
  clear hN hW1
  refine (c_SplitN 32 4 T W1 ht (by omega) (by omega) mm (cell_kept hm c1)).mono ?_
  rintro e W2 ⟨l, cap, hl1, hl4, hlc, hc4, hsz, hcut, hemp, rfl, hW2⟩
  obtain ⟨F, hF⟩ : ∃ F, F = W1.heap.size := ⟨_, rfl⟩
  have hNF : N < F := by rw [hF]; exact k1.lt
  rw [← hF]
  have KN : Blk W2 N 23 #[.int .i64 0, .int .i64 0, .string ⟨#[]⟩] := by rw [hW2]; exact k1.alloc _
  have kf : Blk W2 F 9 (Lib.cellsOf l cap) := by rw [hW2, hF]; exact Blk.new W1 _ _
  have c2 : Below w.heap.size w W2 := by rw [hW2]; exact bel_alloc c1 _
  have HP := hid (ppl_cut hcut)
  clear hW2 hF k1 c1 hcut
  by_cases h3 : l.length = 3
  · obtain ⟨x0, x1, x2, rfl⟩ := pp_len_three h3
    have HNE := hid (show ¬ T = ByteArray.empty from fun e => by have := hemp e; simp at this)
    obtain ⟨cs, hcs⟩ : ∃ cs, cs = Lib.cellsOf [x0, x1, x2] cap := ⟨_, rfl⟩
    have v0 : cs[0]? = some (.string x0) := by rw [hcs]; exact cells_of_at _ _ 0 _ rfl
    have v1 : cs[1]? = some (.string x1) := by rw [hcs]; exact cells_of_at _ _ 1 _ rfl
    have v2 : cs[2]? = some (.string x2) := by rw [hcs]; exact cells_of_at _ _ 2 _ rfl
    have s0 : x0.size ≤ 1048576 := Nat.le_trans (hsz x0 (by simp)) ht
    have s1 : x1.size ≤ 1048576 := Nat.le_trans (hsz x1 (by simp)) ht
    have s2 : x2.size ≤ 1048576 := Nat.le_trans (hsz x2 (by simp)) ht
    rw [← hcs] at kf
    simp only [List.length_cons, List.length_nil, Nat.zero_add, Nat.reduceAdd] at hlc ⊢
    clear hcs hemp hsz h3 hl1 hl4
    have y0 : (W2.alloc (.cells #[.int .i64 0, .int .i64 0, .string ⟨#[]⟩] 23)).cell? ⟨F, 0, none⟩ = some (.string x0) := ((kf.alloc _).cell 0).trans v0
    go_wp2_with fail
    obtain ⟨M, hM⟩ : ∃ M, M = W2.heap.size := ⟨_, rfl⟩
    obtain ⟨W3, hW3⟩ : ∃ W3, W3 = W2.alloc (.cells #[.int .i64 0, .int .i64 0, .string ⟨#[]⟩] 23) := ⟨_, rfl⟩
    have hFM : F < M := by rw [hM]; exact kf.lt
    rw [← hM, ← hW3]
    have kM : Blk W3 M 23 #[.int .i64 0, .int .i64 0, .string ⟨#[]⟩] := by rw [hW3, hM]; exact Blk.new W2 _ _
    have kN3 : Blk W3 N 23 #[.int .i64 0, .int .i64 0, .string ⟨#[]⟩] := by rw [hW3]; exact KN.alloc _
    have kF3 : Blk W3 F 9 cs := by rw [hW3]; exact kf.alloc _
    have c3 : Below w.heap.size w W3 := by rw [hW3]; exact bel_alloc c2 _
    clear y0 hM hW3 KN kf c2
    refine (c_Atoi x0 W3 (by omega) (hE.kept c3)).mono ?_
    rintro e W4 ⟨⟨n0, ev0, rfl, hr0, hn0⟩, hb4⟩
    have Hn0 := hid (show NumOf x0 n0 from fun k a0 a1 h => hn0 k (by rw [h, str_list]; exact atoi_decI k a0 a1))
    have kM4 := kM.on hb4
    have kN4 := kN3.on hb4
    have kF4 := kF3.on hb4
    have c4 := bel_trans c3 hb4
    obtain ⟨m0, m1, m2⟩ := kM4.cells3
    have fr0 := kM4.frozen 0
    have y1 : (W4.setCell ⟨M, 0, none⟩ (.int .i64 n0)).cell? ⟨F, 1, none⟩ = some (.string x1) := ((kF4.set_farI (R := M) 0 _ (by omega)).cell 1).trans v1
    clear kM kN3 kF3 c3 hb4 hn0
    go_wp2_with fail
    obtain ⟨W5, hW5⟩ : ∃ W5, W5 = W4.setCell ⟨M, 0, none⟩ (.int .i64 n0) := ⟨_, rfl⟩
    rw [← hW5]
    have kM5 : Blk W5 M 23 #[.int .i64 n0, .int .i64 0, .string ⟨#[]⟩] := by rw [hW5]; exact kM4.set_ 0 _
    have kN5 : Blk W5 N 23 #[.int .i64 0, .int .i64 0, .string ⟨#[]⟩] := by rw [hW5]; exact kN4.set_farI _ _ (by omega)
    have kF5 : Blk W5 F 9 cs := by rw [hW5]; exact kF4.set_farI _ _ (by omega)
    have c5 : Below w.heap.size w W5 := by rw [hW5]; exact bel_set c4 (by show w.heap.size ≤ M; omega) _
    clear y1 hW5 kM4 kN4 kF4 c4 m0 m1 m2 fr0
    refine (c_Atoi x1 W5 (by omega) (hE.kept c5)).mono ?_
    rintro e W6 ⟨⟨n1, ev1, rfl, hr1, hn1⟩, hb6⟩
    have Hn1 := hid (show NumOf x1 n1 from fun k a0 a1 h => hn1 k (by rw [h, str_list]; exact atoi_decI k a0 a1))
    have kM6 := kM5.on hb6
    have kN6 := kN5.on hb6
    have kF6 := kF5.on hb6
    have c6 := bel_trans c5 hb6
    obtain ⟨m0, m1, m2⟩ := kM6.cells3
    have fr1 := kM6.frozen 1
    have y2 : (W6.setCell ⟨M, 1, none⟩ (.int .i64 n1)).cell? ⟨F, 2, none⟩ = some (.string x2) := ((kF6.set_farI (R := M) 1 _ (by omega)).cell 2).trans v2
    clear kM5 kN5 kF5 c5 hb6 hn1
    go_wp2_with fail
    obtain ⟨W7, hW7⟩ : ∃ W7, W7 = W6.setCell ⟨M, 1, none⟩ (.int .i64 n1) := ⟨_, rfl⟩
    rw [← hW7]
    have kM7 : Blk W7 M 23 #[.int .i64 n0, .int .i64 n1, .string ⟨#[]⟩] := by rw [hW7]; exact kM6.set_ 1 _
    have kN7 : Blk W7 N 23 #[.int .i64 0, .int .i64 0, .string ⟨#[]⟩] := by rw [hW7]; exact kN6.set_farI _ _ (by omega)
    have c7 : Below w.heap.size w W7 := by rw [hW7]; exact bel_set c6 (by show w.heap.size ≤ M; omega) _
    clear y2 hW7 kM6 kN6 kF6 c6 m0 m1 m2 fr1
    refine (c_emptyIfDash x2 W7).mono ?_
    rintro e W8 ⟨rfl, rfl⟩
    go_wp2_with fail
    refine (c_readHex x2 W7 (by unfold maxLen; omega)).mono ?_
    rintro e W8 ⟨⟨D, bD, rfl, hD⟩, hb8⟩
    have hDz := hD.1
    have HD := hid hD
    have kM8 := kM7.on hb8
    have kN8 := kN7.on hb8
    have c8 := bel_trans c7 hb8
    obtain ⟨m0, m1, m2⟩ := kM8.cells3
    have fr2 := kM8.frozen 2
    clear kM7 kN7 c7 hb8 hD
    obtain ⟨V, hV⟩ : ∃ V, V = fpT n0 n1 D := ⟨_, rfl⟩
    have HFm := hid (fun (v : World) (hb : Below w.heap.size w v) => c_FormatPatch n0 n1 D v hr0 hr1 (by unfold maxLen; omega) (hTab.on hb))
    rw [← hV] at HFm
    have HV := hid hV
    clear hV
    go_wp2_with fail
    obtain ⟨W9, hW9⟩ : ∃ W9, W9 = W8.setCell ⟨M, 2, none⟩ (.string D) := ⟨_, rfl⟩
    rw [← hW9]
    have kM9 : Blk W9 M 23 #[.int .i64 n0, .int .i64 n1, .string D] := by rw [hW9]; exact kM8.set_ 2 _
    have kN9 : Blk W9 N 23 #[.int .i64 0, .int .i64 0, .string ⟨#[]⟩] := by rw [hW9]; exact kN8.set_farI _ _ (by omega)
    have c9 : Below w.heap.size w W9 := by rw [hW9]; exact bel_set c8 (by show w.heap.size ≤ M; omega) _
    clear hW9 kM8 kN8 c8 m0 m1 m2 fr2
    refine (HFm.out _ c9).mono ?_
    rintro e Wa ⟨rfl, hba⟩
    have kMa := kM9.on hba
    have KNa := kN9.on hba
    have ca := bel_trans c9 hba
    obtain ⟨m0, m1, m2⟩ := kMa.cells3
    clear kM9 kN9 c9 hba
    obtain ⟨q0, q1, q2⟩ := KNa.cells3
    have g0 := KNa.frozen 0
    have g1 := KNa.frozen 1
    have g2 := KNa.frozen 2
    by_cases he : V = T
    · have he1 : (V.toList == T.toList) = true := by rw [he]; simp
      have HR := hid (ppat_yes HNE.out (HV.out.symm.trans he))
      clear he
      have k9 : Blk (((Wa.setCell ⟨N, 0, none⟩ (.int .i64 n0)).setCell ⟨N, 1, none⟩ (.int .i64 n1)).setCell ⟨N, 2, none⟩ (.string D)) N 23 #[.int .i64 n0, .int .i64 n1, .string D] := ((KNa.set_ 0 _).set_ 1 _).set_ 2 _
      obtain ⟨j0, j1, j2⟩ := k9.cells3
      clear k9
      go_wp2
      (try simp only [Exit.inBlock, Exit.then])
      exact bodyPost_ret (v := .tuple #[.agg #[.int .i64 n0, .int .i64 n1, .string D], .bool true]) (by simp [results, Tryd.results7, go_sem, j0, j1, j2]) rfl ⟨HR.out, by (repeat (first | with_reducible (first | assumption | exact Below.refl _ _ | refine bel_alloc ?_ _ | refine bel_drew ?_ | refine bel_drewN ?_ _ | refine bel_set ?_ (by first | omega | (simp; done) | (simp; omega)) _ | refine bel_trans ?_ (by assumption)) | assumption | refine bel_trans ?_ (by assumption)))⟩
    · have he1 : (V.toList == T.toList) = false := bytes_neI he
      have HR := hid (ppat_no HP.out Hn0.out Hn1.out HD.out (fun h => he (HV.out.trans h)))
      clear he
      have k9 : Blk (((Wa.setCell ⟨N, 0, none⟩ (.int .i64 0)).setCell ⟨N, 1, none⟩ (.int .i64 0)).setCell ⟨N, 2, none⟩ (.string ⟨#[]⟩)) N 23 #[.int .i64 0, .int .i64 0, .string ⟨#[]⟩] := ((KNa.set_ 0 _).set_ 1 _).set_ 2 _
      obtain ⟨j0, j1, j2⟩ := k9.cells3
      clear k9
      go_wp2
      (try simp only [Exit.inBlock, Exit.then])
      exact bodyPost_ret (v := .tuple #[.agg #[.int .i64 0, .int .i64 0, .string ⟨#[]⟩], .bool false]) (by simp [results, Tryd.results7, go_sem, j0, j1, j2]) rfl ⟨HR.out, by (repeat (first | with_reducible (first | assumption | exact Below.refl _ _ | refine bel_alloc ?_ _ | refine bel_drew ?_ | refine bel_drewN ?_ _ | refine bel_set ?_ (by first | omega | (simp; done) | (simp; omega)) _ | refine bel_trans ?_ (by assumption)) | assumption | refine bel_trans ?_ (by assumption)))⟩
  · have HR := hid (ppat_len HP.out h3)
    have h3i : (l.length : Int) < 3 ∨ 3 < (l.length : Int) := by omega
    have h3b : ((l.length : Int) != 3) = true := ne_yes h3i
    clear h3i h3 hemp hsz
    obtain ⟨q0, q1, q2⟩ := KN.cells3
    have g0 := KN.frozen 0
    have g1 := KN.frozen 1
    have g2 := KN.frozen 2
    have k9 : Blk (((W2.setCell ⟨N, 0, none⟩ (.int .i64 0)).setCell ⟨N, 1, none⟩ (.int .i64 0)).setCell ⟨N, 2, none⟩ (.string ⟨#[]⟩)) N 23 #[.int .i64 0, .int .i64 0, .string ⟨#[]⟩] := ((KN.set_ 0 _).set_ 1 _).set_ 2 _
    obtain ⟨j0, j1, j2⟩ := k9.cells3
    clear k9
    go_wp2
    (try simp only [Exit.inBlock, Exit.then])
    exact bodyPost_ret (v := .tuple #[.agg #[.int .i64 0, .int .i64 0, .string ⟨#[]⟩], .bool false]) (by simp [results, Tryd.results7, go_sem, j0, j1, j2]) rfl ⟨HR.out, by (repeat (first | with_reducible (first | assumption | exact Below.refl _ _ | refine bel_alloc ?_ _ | refine bel_drew ?_ | refine bel_drewN ?_ _ | refine bel_set ?_ (by first | omega | (simp; done) | (simp; omega)) _ | refine bel_trans ?_ (by assumption)) | assumption | refine bel_trans ?_ (by assumption)))⟩

set_option maxHeartbeats 8000000 in
set_option maxRecDepth 100000 in
theorem c_sParsePatch (T : ByteArray) (w : World) (ht : T.size ≤ 1048576) : Calls Tryd.prog 6 #[.string T] w fun e w' => PPat T e ∧ Below w.heap.size w w' := by
  go_enter Tryd.func6, Tryd.ntmps6
  go_wp2_with fail
  obtain ⟨N, hN⟩ : ∃ N, N = w.heap.size := ⟨_, rfl⟩
  have hNw : w.heap.size ≤ N := by omega
  obtain ⟨W1, hW1⟩ : ∃ W1, W1 = w.alloc (.cells #[.int .i64 0, .int .i64 0, .string ⟨#[]⟩] 23) := ⟨_, rfl⟩
  rw [← hN, ← hW1]
  have k1 : Blk W1 N 23 #[.int .i64 0, .int .i64 0, .string ⟨#[]⟩] := by rw [hW1, hN]; exact Blk.new w _ _
  have c1 : Below w.heap.size w W1 := by rw [hW1]; exact bel_alloc (Below.refl _ _) _
  clear hN hW1
  refine (c_l9Cut 32 T W1 ht).mono ?_
  rintro e W2 ⟨l, AA, cap, hmap, hll, rfl, hown, hb2⟩
  have KN := k1.on hb2
  have c2 := bel_trans c1 hb2
  have hat := own_strs_at hown
  have HP := hid (ppl_cutL hmap)
  clear k1 c1 hb2 hown
  by_cases h3 : l.length = 3
  · have HNE := hid (cut_one hmap (by omega))
    have hsz := cut_sizes hmap
    obtain ⟨x0, x1, x2, rfl⟩ := pp_len_three h3
    have s0 : x0.size ≤ 1048576 := Nat.le_trans (hsz x0 (by simp)) ht
    have s1 : x1.size ≤ 1048576 := Nat.le_trans (hsz x1 (by simp)) ht
    have s2 : x2.size ≤ 1048576 := Nat.le_trans (hsz x2 (by simp)) ht
    obtain ⟨b, off, hA0, hb0, y0⟩ := txt_at hat 0 (by simp)
    obtain ⟨b', off', hA1, _, y1⟩ := txt_at hat 1 (by simp)
    obtain ⟨b'', off'', hA2, _, y2⟩ := txt_at hat 2 (by simp)
    subst hA0
    obtain ⟨rfl, rfl⟩ : b = b' ∧ off = off' := by simpa using hA1
    obtain ⟨rfl, rfl⟩ : b = b'' ∧ off = off'' := by simpa using hA2
    have hcap := hat.1
    simp only [List.length_cons, List.length_nil, Nat.zero_add, Nat.add_zero, Nat.reduceAdd, List.getElem_cons_zero, List.getElem_cons_succ] at hcap y0 y1 y2 ⊢
    clear hsz hmap hat hA1 hA2 h3 hll
    go_wp2_with fail
    refine (c_l9Num x0 W2 s0).mono ?_
    rintro e W4 ⟨⟨n0, bb0, rfl, hr0, hn0⟩, hb4⟩
    have Hn0 := hid (show NumOf x0 n0 from fun k a0 a1 h => hn0 k a0 a1 h)
    have KN4 := KN.on hb4
    have c4 := bel_trans c2 hb4
    have z1 := cell_kept y1 hb4
    have z2 := cell_kept y2 hb4
    clear KN c2 hb4 hn0 y0 y1 y2
    go_wp2_with fail
    refine (c_l9Num x1 W4 s1).mono ?_
    rintro e W6 ⟨⟨n1, bb1, rfl, hr1, hn1⟩, hb6⟩
    have Hn1 := hid (show NumOf x1 n1 from fun k a0 a1 h => hn1 k a0 a1 h)
    have KN6 := KN4.on hb6
    have c6 := bel_trans c4 hb6
    have y2 := cell_kept z2 hb6
    clear KN4 c4 hb6 hn1 z1 z2
    go_wp2_with fail
    refine (c_l3None x2 W6).mono ?_
    rintro e W7 ⟨rfl, rfl⟩
    go_wp2_with fail
    refine (c_sreadHex x2 W6 s2).mono ?_
    rintro e W8 ⟨⟨D, bD, rfl, hD⟩, hb8⟩
    have hDz := hD.1
    have HD := hid hD
    have KN8 := KN6.on hb8
    have c8 := bel_trans c6 hb8
    clear KN6 c6 hb8 hD y2
    obtain ⟨V, hV⟩ : ∃ V, V = fpT n0 n1 D := ⟨_, rfl⟩
    have HFm := hid (fun (v : World) => c_sFormatPatch n0 n1 D v (by unfold maxLen; omega))
    rw [← hV] at HFm
    have HV := hid hV
    clear hV
    go_wp2_with fail
    obtain ⟨M, hM⟩ : ∃ M, M = W8.heap.size := ⟨_, rfl⟩
    obtain ⟨W9, hW9⟩ : ∃ W9, W9 = W8.alloc (.cells #[.int .i64 n0, .int .i64 n1, .string D] 23) := ⟨_, rfl⟩
    have hNM : N < M := by rw [hM]; exact KN8.lt
    rw [← hM, ← hW9]
    have kM9 : Blk W9 M 23 #[.int .i64 n0, .int .i64 n1, .string D] := by rw [hW9, hM]; exact Blk.new W8 _ _
    have kN9 : Blk W9 N 23 #[.int .i64 0, .int .i64 0, .string ⟨#[]⟩] := by rw [hW9]; exact KN8.alloc _
    have c9 : Below w.heap.size w W9 := by rw [hW9]; exact bel_alloc c8 _
    clear hW9 hM KN8 c8
    refine (HFm.out _).mono ?_
    rintro e Wa ⟨rfl, hba⟩
    have kMa := kM9.on hba
    have KNa := kN9.on hba
    have ca := bel_trans c9 hba
    obtain ⟨m0, m1, m2⟩ := kMa.cells3
    clear kM9 kN9 c9 hba
    obtain ⟨q0, q1, q2⟩ := KNa.cells3
    have g0 := KNa.frozen 0
    have g1 := KNa.frozen 1
    have g2 := KNa.frozen 2
    by_cases he : V = T
    · have he1 : (V.toList == T.toList) = true := by rw [he]; simp
      have HR := hid (ppat_yes HNE.out (HV.out.symm.trans he))
      clear he
      have k9 : Blk (((Wa.setCell ⟨N, 0, none⟩ (.int .i64 n0)).setCell ⟨N, 1, none⟩ (.int .i64 n1)).setCell ⟨N, 2, none⟩ (.string D)) N 23 #[.int .i64 n0, .int .i64 n1, .string D] := ((KNa.set_ 0 _).set_ 1 _).set_ 2 _
      obtain ⟨j0, j1, j2⟩ := k9.cells3
      clear k9
      go_wp2
      (try simp only [Exit.inBlock, Exit.then])
      exact bodyPost_ret (v := .tuple #[.agg #[.int .i64 n0, .int .i64 n1, .string D], .bool true]) (by simp [results, Tryd.results6, go_sem, j0, j1, j2]) rfl ⟨HR.out, by (repeat (first | with_reducible (first | assumption | exact Below.refl _ _ | refine bel_alloc ?_ _ | refine bel_drew ?_ | refine bel_drewN ?_ _ | refine bel_set ?_ (by first | omega | (simp; done) | (simp; omega)) _ | refine bel_trans ?_ (by assumption)) | assumption | refine bel_trans ?_ (by assumption)))⟩
    · have he1 : (V.toList == T.toList) = false := bytes_neI he
      have HR := hid (ppat_no HP.out Hn0.out Hn1.out HD.out (fun h => he (HV.out.trans h)))
      clear he
      have k9 : Blk (((Wa.setCell ⟨N, 0, none⟩ (.int .i64 0)).setCell ⟨N, 1, none⟩ (.int .i64 0)).setCell ⟨N, 2, none⟩ (.string ⟨#[]⟩)) N 23 #[.int .i64 0, .int .i64 0, .string ⟨#[]⟩] := ((KNa.set_ 0 _).set_ 1 _).set_ 2 _
      obtain ⟨j0, j1, j2⟩ := k9.cells3
      clear k9
      go_wp2
      (try simp only [Exit.inBlock, Exit.then])
      exact bodyPost_ret (v := .tuple #[.agg #[.int .i64 0, .int .i64 0, .string ⟨#[]⟩], .bool false]) (by simp [results, Tryd.results6, go_sem, j0, j1, j2]) rfl ⟨HR.out, by (repeat (first | with_reducible (first | assumption | exact Below.refl _ _ | refine bel_alloc ?_ _ | refine bel_drew ?_ | refine bel_drewN ?_ _ | refine bel_set ?_ (by first | omega | (simp; done) | (simp; omega)) _ | refine bel_trans ?_ (by assumption)) | assumption | refine bel_trans ?_ (by assumption)))⟩
  · have HR := hid (ppat_len HP.out h3)
    have h3i : (l.length : Int) < 3 ∨ 3 < (l.length : Int) := by omega
    have h3b : ((l.length : Int) != 3) = true := ne_yes h3i
    clear h3i h3
    obtain ⟨q0, q1, q2⟩ := KN.cells3
    have g0 := KN.frozen 0
    have g1 := KN.frozen 1
    have g2 := KN.frozen 2
    have k9 : Blk (((W2.setCell ⟨N, 0, none⟩ (.int .i64 0)).setCell ⟨N, 1, none⟩ (.int .i64 0)).setCell ⟨N, 2, none⟩ (.string ⟨#[]⟩)) N 23 #[.int .i64 0, .int .i64 0, .string ⟨#[]⟩] := ((KN.set_ 0 _).set_ 1 _).set_ 2 _
    obtain ⟨j0, j1, j2⟩ := k9.cells3
    clear k9
    go_wp2
    (try simp only [Exit.inBlock, Exit.then])
    exact bodyPost_ret (v := .tuple #[.agg #[.int .i64 0, .int .i64 0, .string ⟨#[]⟩], .bool false]) (by simp [results, Tryd.results6, go_sem, j0, j1, j2]) rfl ⟨HR.out, by (repeat (first | with_reducible (first | assumption | exact Below.refl _ _ | refine bel_alloc ?_ _ | refine bel_drew ?_ | refine bel_drewN ?_ _ | refine bel_set ?_ (by first | omega | (simp; done) | (simp; omega)) _ | refine bel_trans ?_ (by assumption)) | assumption | refine bel_trans ?_ (by assumption)))⟩

theorem c_eqPatchI (f t : Int) (D : ByteArray) (w : World) : Calls Tryd.prog 8 #[.agg #[.int .i64 f, .int .i64 t, .string D], .agg #[.int .i64 f, .int .i64 t, .string D]] w fun e w' => e = .returned (.bool true) ∧ Below w.heap.size w w' := by
  go_enter Tryd.func8, Tryd.ntmps8
  go_wp2
  go_ret
  exact ⟨rfl, by (repeat (first | with_reducible (first | assumption | exact Below.refl _ _ | refine bel_alloc ?_ _ | refine bel_drew ?_ | refine bel_drewN ?_ _ | refine bel_set ?_ (by first | omega | (simp; done) | (simp; omega)) _ | refine bel_trans ?_ (by assumption)) | assumption | refine bel_trans ?_ (by assumption)))⟩

theorem ppat_form {T : ByteArray} {e : Ending} (h : PPat T e) : ∃ (f t : Int) (D : ByteArray) (b : Bool), e = .returned (.tuple #[.agg #[.int .i64 f, .int .i64 t, .string D], .bool b]) := by
  rcases h with ⟨f, t, d, _, _, rfl⟩ | ⟨_, rfl⟩
  · exact ⟨f, t, d, true, rfl⟩
  · exact ⟨0, 0, ⟨#[]⟩, false, rfl⟩
theorem ppat_ex (T : ByteArray) : ∃ (f t : Int) (D : ByteArray) (b : Bool), ∀ e, PPat T e → e = .returned (.tuple #[.agg #[.int .i64 f, .int .i64 t, .string D], .bool b]) := by
  by_cases hx : ∃ (f t : Int) (d : ByteArray), pvOk f t d ∧ fpT f t d = T
  · obtain ⟨f, t, d, hv, hT⟩ := hx
    exact ⟨f, t, d, true, fun e h => ppat_one h (.inl ⟨f, t, d, hv, hT, rfl⟩)⟩
  · exact ⟨0, 0, ⟨#[]⟩, false, fun e h => ppat_one h (.inr ⟨fun f t d hv hT => hx ⟨f, t, d, hv, hT⟩, rfl⟩)⟩

set_option maxRecDepth 100000 in
theorem walk_FnExactParsePatch (t : ByteArray) (w : World) (h_t : t.size ≤ maxLen) (hE : ErrAt w) (mm : Int) (hm : w.cell? ⟨2, 0, none⟩ = some (.int .i64 mm)) (hTab : Tab w) :
    Calls Tryd.prog 3 #[.string t] w fun e w' => e = .returned (.bool true) ∧ Below w.heap.size w w' := by
  by_cases big : 1048576 < t.size
  · unfold maxLen at *
    go_enter Tryd.func3, Tryd.ntmps3
    go_wp2_with fail
    go_ret
    exact ⟨rfl, by (repeat (first | with_reducible (first | assumption | exact Below.refl _ _ | refine bel_alloc ?_ _ | refine bel_drew ?_ | refine bel_drewN ?_ _ | refine bel_set ?_ (by first | omega | (simp; done) | (simp; omega)) _ | refine bel_trans ?_ (by assumption)) | assumption | refine bel_trans ?_ (by assumption)))⟩
  · obtain ⟨f, u, D, b, hone⟩ := ppat_ex t
    have H1 := hid (fun (v : World) => (c_sParsePatch t v (by omega)).mono fun _ _ h => (⟨hone _ h.1, h.2⟩ : _ ∧ _))
    have H2 := hid (fun (v : World) (hb : Below w.heap.size w v) => (c_ParsePatch t v (by omega) (hE.kept hb) mm (cell_kept hm hb) (hTab.on hb)).mono fun _ _ h => (⟨hone _ h.1, h.2⟩ : _ ∧ _))
    have hbb : (b != b) = false := by simp
    clear hone hE hm hTab
    go_enter Tryd.func3, Tryd.ntmps3
    go_wp2_with fail
    refine (H1.out _).mono ?_
    rintro e W1 ⟨rfl, hb1⟩
    go_wp2_with fail
    have k2 := Blk.new W1 23 #[.int .i64 f, .int .i64 u, .string D]
    obtain ⟨M, hM⟩ : ∃ M, M = W1.heap.size := ⟨_, rfl⟩
    obtain ⟨W2, hW2⟩ : ∃ W2, W2 = W1.alloc (.cells #[.int .i64 f, .int .i64 u, .string D] 23) := ⟨_, rfl⟩
    have c2 : Below w.heap.size w W2 := by rw [hW2]; exact bel_alloc hb1 _
    rw [← hM, ← hW2] at k2 ⊢
    clear hM hW2 hb1
    refine (H2.out _ c2).mono ?_
    rintro e W3 ⟨rfl, hb3⟩
    have k3 := k2.on hb3
    have c3 := bel_trans c2 hb3
    obtain ⟨x3, y3, z3⟩ := k3.cells3
    have hlt := k3.lt
    clear k2 c2 hb3
    go_wp2_with fail
    refine (c_eqPatchI f u D _).mono ?_
    rintro e W4 ⟨rfl, hb4⟩
    go_wp2
    go_ret
    exact ⟨by simp_all, by (repeat (first | with_reducible (first | assumption | exact Below.refl _ _ | refine bel_alloc ?_ _ | refine bel_drew ?_ | refine bel_drewN ?_ _ | refine bel_set ?_ (by first | omega | (simp; done) | (simp; omega)) _ | refine bel_trans ?_ (by assumption)) | assumption | refine bel_trans ?_ (by assumption)))⟩
end Go.Proofs.YtcliagnongbkmaaDoor
