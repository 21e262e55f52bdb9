/- ParseKnown in the model. No condition but the text's length. -/
import Derived.Test.YtmfnfheahehpcaaGreatDoorRh
import Derived.Test.YtmfnfheahehpcaaGreatDoorGo
import Derived.Test.YtmfnfheahehpcaaGreatDoorQz
namespace Go.Proofs.YtmfnfheahehpcaaGreatDoor
open Go.ChangeShapes Go.WideShapes Go.ChangeAt Go.RowKit Go.Joins
set_option linter.unusedVariables false
set_option linter.unusedSimpArgs false

theorem step_pairsK {P : Program} {w : World} {ops : Array Oper} {o : Oper} {a : Act} {K : Act → World → Prop} {Q : Exit → Act → World → Prop} {E : Prop} (hgd : o.guard = none) (s x : Operand) (t : TypeId)
    (ho : o.op = .call { callee := .builtin .append, args := #[s, x], argTypes := #[t, t] }) (B : Nat) (e : TypeId) (ht : P.underlying t = some (.slice e))
    (hinfo : (P.info? e).map (fun i => (i.zero, i.size, i.bytes)) = some (some (.agg #[.int .i64 0, .int .i64 0]), 2, 16)) (v : Value) (n : Nat) (l : List Pr) (hs : a.eval s = v) (hown : w.ownsRow B e 2 v n (prs l)) (A : Option Addr) (cap L m : Nat) (ps : List Pr) (hA : PsAt w L A cap ps) (hm : m = ps.length)
    (hx : a.eval x = .slice A m cap) (hn : n + ps.length ≤ 1000000000000) (hB : B ≤ w.heap.size)
    (h : ∀ v' w', w'.ownsRow B e 2 v' (n + ps.length) (prs (l ++ ps)) → Below B w w' → w.grownBy w' v.ownBlock → K (a.put o.dst v') w') : if Region.wanted o (yielded ops a.tmps) = true then Oper.wp P o a w K Q else E := by
  have hw : Region.wanted o (yielded ops a.tmps) = true := by simp [Region.wanted, hgd]
  rw [if_pos hw]
  subst hm
  obtain ⟨i0, hi, hz0, hz1, hz2⟩ := info_parts hinfo
  cases A with
  | none =>
    have hc := hA.2.2.1 rfl
    subst hc
    have h0 : ps = [] := List.length_eq_zero_iff.1 (by have := hA.1; omega)
    subst h0
    have hrun := run_append_owned_none (P := P) (w := w) B t o.type e i0 2 ht hi v n (prs l) hown
    simp only [List.length_nil] at hx
    unfold Oper.wp
    simp [execOp, ho, resolve, invoke, builtin, hs, hx, hrun, Result.andThen]
    exact h v w (by simpa using hown) (Below.refl _ _) (grown_refl _ _)
  | some ad =>
    refine wp_append_own w s x t ho B e i0 (.agg #[.int .i64 0, .int .i64 0]) 2 16 ht hi hz0 hz1 hz2 rfl (by decide) v n (prs l) hs hown ad ps.length cap (prs ps) hx (prs_len _) ?_ (prs_one _) ?_ (by omega) hB ?_
    · intro j u hj
      have hjl := get_lt hj
      rw [prs_len] at hjl
      obtain ⟨b, off, e1, _, hc⟩ := hA.2.2.2 (by omega)
      simp at e1
      subst e1
      have hg : ps[j / 2]? = some ps[j / 2] := List.getElem?_eq_getElem (by omega)
      have h1 := hc _ _ hg
      have h2 := prs_get ps _ _ hg
      have e2 : ((⟨b, off, none⟩ : Addr).add j) = ⟨b, off + j, none⟩ := by unfold Addr.add; split <;> simp_all
      rw [e2]
      rcases (show j = j / 2 * 2 ∨ j = j / 2 * 2 + 1 from by omega) with h3 | h3
      · rw [h3] at hj ⊢
        rw [h2.1] at hj
        rw [h1.1, hj]
      · rw [h3] at hj ⊢
        rw [h2.2] at hj
        rw [← Nat.add_assoc, h1.2, hj]
    · unfold maxLen; omega
    · intro v' w' hown' hg _
      refine h v' w' ?_ (below_of_grown hg hB (fun g hg => (hown.lt g hg).1)) hg
      rw [prs_append]; exact hown'

/-- one new pair, as a slice -/
theorem ps_newK (w : World) (x y : Int) (t : TypeId) : PsAt (w.alloc (.cells #[.int .i64 x, .int .i64 y] t)) (w.heap.size + 1) (some ⟨w.heap.size, 0, none⟩) 1 [(x, y)] := by
  have hb := (Blk.new w t #[.int .i64 x, .int .i64 y]).cells2
  refine ⟨by simp, by simp [maxLen], by simp, fun _ => ⟨w.heap.size, 0, rfl, by omega, fun i p hp => ?_⟩⟩
  match i, hp with
  | 0, hp => simp at hp; subst hp; exact hb

theorem cutL_num (c : UInt8) : ∀ t : List UInt8, (cutL c t).length ≤ t.length + 1
  | [] => by simp [cutL]
  | b :: r => by
    have ih := cutL_num c r
    rw [cutL]
    split
    · simp; omega
    · split
      · simp
      · rename_i h; rw [h] at ih; simp at ih ⊢; omega
theorem cutL_leK (c : UInt8) : ∀ t : List UInt8, ∀ f ∈ cutL c t, f.length ≤ t.length
  | [], f, hf => by simp [cutL] at hf; subst hf; simp
  | b :: r, f, hf => by
    have ih := cutL_leK c r
    rw [cutL] at hf
    split at hf
    · rcases List.mem_cons.1 hf with rfl | hf
      · simp
      · have := ih f hf; simp; omega
    · split at hf
      · rename_i hq
        simp at hf; subst hf; simp
      · rename_i p q hq
        rw [hq] at ih
        rcases List.mem_cons.1 hf with rfl | hf
        · have := ih p (by simp); simp; omega
        · have := ih f (by simp [hf]); simp; omega
theorem cutL_lt (c : UInt8) : ∀ t : List UInt8, 2 ≤ (cutL c t).length → ∀ f ∈ cutL c t, f.length + 1 ≤ t.length
  | [], h => by simp [cutL] at h
  | b :: r, h => by
    have ih := cutL_lt c r
    have hle : ∀ t : List UInt8, ∀ f ∈ cutL c t, f.length ≤ t.length := cutL_leK c
    rw [cutL] at h ⊢
    split at h
    · rename_i hb
      rw [if_pos hb]
      intro f hf
      rcases List.mem_cons.1 hf with rfl | hf
      · simp
      · have := hle r f hf; simp; omega
    · rename_i hb
      rw [if_neg hb]
      split at h
      · simp at h
      · rename_i p q hq
        rw [hq] at ih
        intro f hf
        have h2 : 2 ≤ (p :: q).length := by simpa using h
        have ih := ih h2
        rcases List.mem_cons.1 hf with rfl | hf
        · have := ih p (by simp); simp; omega
        · have := ih f (by simp [hf]); simp; omega
theorem c_sFormatKnown_any (k : Kn) (A : Option Addr) (cap L : Nat) (w : World) (h : PsAt w L A cap k.ps) (hL : L ≤ w.heap.size) (hw : k.Wf) : Calls Tryz.prog 8 #[.agg #[.int .i64 k.o, .int .i64 k.l, .int .i64 k.m, .slice A k.ps.length cap, .int .i64 k.base, .int .i64 k.last]] w fun e w' => e = .returned (.string (knV k)) ∧ Below w.heap.size w w' := by
  by_cases hk : k.Ok
  · rw [knV, if_pos hk]; exact c_sFormatKnown_yes k A cap L w h hL hk hw
  · rw [knV, if_neg hk]; exact c_sFormatKnown_no k A cap L w h hL hk hw

/-- what a loop keeps: the box of what is known, the texts of the pairs, the result's box -/
def SK (Z N B : Nat) (C : Array Value) (A : Option Addr) (c : Nat) (l : List ByteArray) (w0 w : World) : Prop := (Blk w N 27 C ∧ StrsAt w B A c l ∧ Blk w Z 27 #[.int .i64 0, .int .i64 0, .int .i64 0, .slice none 0 0, .int .i64 0, .int .i64 0]) ∧ (N < B ∧ Z < B ∧ B ≤ w.heap.size ∧ w0.heap.size ≤ B) ∧ Below w0.heap.size w0 w
theorem SK.go {Z N B c : Nat} {C : Array Value} {A : Option Addr} {l : List ByteArray} {w0 w w' : World} (h : SK Z N B C A c l w0 w) (hb : Below B w w') : SK Z N B C A c l w0 w' := by
  obtain ⟨⟨a, b, d⟩, ⟨e, f, g, i⟩, j⟩ := h
  exact ⟨⟨a.below hb e, b.below hb (Nat.le_refl _), d.below hb f⟩, ⟨e, f, Nat.le_trans g hb.size, i⟩, j.trans (hb.mono i)⟩
theorem SK.on {Z N B c : Nat} {C : Array Value} {A : Option Addr} {l : List ByteArray} {w0 w w' : World} (h : SK Z N B C A c l w0 w) (hb : Below w.heap.size w w') : SK Z N B C A c l w0 w' := h.go (hb.mono h.2.1.2.2.1)
theorem SK.al {Z N B c : Nat} {C : Array Value} {A : Option Addr} {l : List ByteArray} {w0 w : World} (h : SK Z N B C A c l w0 w) (o : Obj) : SK Z N B C A c l w0 (w.alloc o) := h.on (bel_alloc (Below.refl _ _) o)
theorem SK.dr {Z N B c : Nat} {C : Array Value} {A : Option Addr} {l : List ByteArray} {w0 w : World} (h : SK Z N B C A c l w0 w) : SK Z N B C A c l w0 w.drew := h.on (bel_drew (Below.refl _ _))
theorem SK.put {Z N B c : Nat} {C : Array Value} {A : Option Addr} {l : List ByteArray} {w0 w : World} (h : SK Z N B C A c l w0 w) (hZN : Z ≠ N) (hN : w0.heap.size ≤ N) (hA : ∀ b off, A = some ⟨b, off, none⟩ → b ≠ N) (i : Nat) (v : Value) : SK Z N B (C.setIfInBounds i v) A c l w0 (w.setCell ⟨N, i, none⟩ v) := by
  obtain ⟨⟨a, b, d⟩, ⟨e, f, g, i2⟩, j⟩ := h
  have hg := grown_set (grown_refl w (some N)) i v
  refine ⟨⟨a.set_ i v, ⟨b.1, b.2.1, b.2.2.1, fun hn => ?_⟩, d.grown hg (by simp; omega)⟩, ⟨e, f, by rw [World.size_setCell]; exact g, i2⟩, j.trans (below_of_grown hg j.size (fun g e => by cases e; exact hN))⟩
  obtain ⟨b0, off, rfl, hb, hc⟩ := b.2.2.2 hn
  exact ⟨b0, off, rfl, hb, fun q p hq => hg.cell (hc q p hq) (by simp; exact hA b0 off rfl)⟩

theorem cut_sizesK {c : UInt8} {T : ByteArray} {l : List ByteArray} (h : l.map (·.data.toList) = cutL c T.data.toList) (x : ByteArray) (hx : x ∈ l) : x.size ≤ T.size := by
  have h1 := cutL_leK c T.data.toList x.data.toList (by rw [← h]; exact List.mem_map_of_mem hx)
  simpa using h1

set_option maxHeartbeats 8000000 in
set_option maxRecDepth 100000 in
theorem c_sParseKnown (T : ByteArray) (w : World) (ht : T.size ≤ 1048576) : Calls Tryz.prog 13 #[.string T] w fun e w' => ∃ (k : Kn) (b : Bool) (A : Option Addr) (cap : Nat), (PKn T k b ∧ k.ps.length ≤ 1048576) ∧ e = .returned (.tuple #[.agg #[.int .i64 k.o, .int .i64 k.l, .int .i64 k.m, .slice A k.ps.length cap, .int .i64 k.base, .int .i64 k.last], .bool b]) ∧ w'.ownsRow w.heap.size 53 2 (.slice A k.ps.length cap) k.ps.length (prs k.ps) ∧ Below w.heap.size w w' := by
  obtain ⟨V0, hV0⟩ : ∃ V0, V0 = w.alloc (.cells #[.int .i64 0, .int .i64 0, .int .i64 0, .slice none 0 0, .int .i64 0, .int .i64 0] 27) := ⟨_, rfl⟩
  have kZ0 : Blk V0 w.heap.size 27 #[.int .i64 0, .int .i64 0, .int .i64 0, .slice none 0 0, .int .i64 0, .int .i64 0] := by rw [hV0]; exact Blk.new w _ _
  have c0 : Below w.heap.size w V0 := by rw [hV0]; exact bel_alloc (Below.refl _ _) _
  have hz0 : w.heap.size + 1 ≤ V0.heap.size := by rw [hV0, World.size_alloc]; omega
  go_enter Tryz.func13, Tryz.ntmps13
  go_wp2_with fail
  rw [← hV0]
  clear hV0
  refine (c_l9Cut 59 T V0 ht).mono ?_
  rintro e W2 ⟨l, A1, cap, hmap, hll, rfl, hown, hb2⟩
  have kZ2 := kZ0.on hb2
  have c2 := c0.trans (hb2.mono c0.size)
  have hz2 := Nat.le_trans hz0 hb2.size
  have HP := hid (knfl_cutL hmap)
  have hat := own_strs_at hown
  clear hown hb2 kZ0 c0
  by_cases h4 : l.length = 4
  case neg =>
    have HR := hid (pkn_len HP.out h4)
    have h4i : ¬ ((l.length : Int) = 4) := by omega
    have hne4 : ((l.length : Int) != 4) = true := by simpa using h4i
    clear hmap hat
    obtain ⟨zc0, zc1, zc2, zc3, zc4, zc5⟩ := kZ2.cells6
    have fz0 := kZ2.frozen 0
    have fz1 := kZ2.frozen 1
    have fz2 := kZ2.frozen 2
    have fz3 := kZ2.frozen 3
    have fz4 := kZ2.frozen 4
    have fz5 := kZ2.frozen 5
    obtain ⟨j0, j1, j2, j3, j4, j5⟩ := (blk6k kZ2 (.int .i64 0) (.int .i64 0) (.int .i64 0) (.slice none 0 0) (.int .i64 0) (.int .i64 0)).cells6
    have HG := hid (gr6k (grown_refl W2 (some w.heap.size)) (.int .i64 0) (.int .i64 0) (.int .i64 0) (.slice none 0 0) (.int .i64 0) (.int .i64 0))
    have HBB := hid (c2.trans (below_of_grown HG.out c2.size (fun g e => by cases e; exact Nat.le_refl _)))
    clear kZ2
    go_wp2
    (try simp only [Exit.inBlock, Exit.then])
    exact bodyPost_ret (v := .tuple #[.agg #[.int .i64 0, .int .i64 0, .int .i64 0, .slice none 0 0, .int .i64 0, .int .i64 0], .bool false]) (by simp [results, Tryz.results13, go_sem, j0, j1, j2, j3, j4, j5]) rfl ⟨kn0, false, none, 0, ⟨HR.out, by simp [kn0]⟩, rfl, own_ps_nil _ _ _, HBB.out⟩
  have hlt : ∀ x ∈ l, x.size + 1 ≤ T.size := fun x hx => by
    have := cutL_lt 59 T.data.toList (by rw [← hmap]; simp; omega) x.data.toList (by rw [← hmap]; exact List.mem_map_of_mem hx)
    simpa using this
  have HT0 := hid (show ¬ T = ByteArray.empty from fun h => by
    have h1 := congrArg List.length hmap
    rw [List.length_map, h] at h1
    have h2 : (cutL 59 (ByteArray.empty.data.toList)).length = 1 := rfl
    omega)
  clear hmap hll
  obtain ⟨x0, x1, x2, x3, rfl⟩ := four_of h4
  have HSZ := hid (show x0.size + 1 ≤ T.size ∧ x1.size + 1 ≤ T.size ∧ x2.size + 1 ≤ T.size ∧ x3.size + 1 ≤ T.size from ⟨hlt x0 (by simp), hlt x1 (by simp), hlt x2 (by simp), hlt x3 (by simp)⟩)
  obtain ⟨b0, off, rfl, hb0, hcells⟩ := hat.2.2.2 (by simp)
  have hcap := hat.1
  have HY := hid (show W2.cell? ⟨b0, off, none⟩ = some (.string x0) ∧ W2.cell? ⟨b0, off + 1, none⟩ = some (.string x1) ∧ W2.cell? ⟨b0, off + 2, none⟩ = some (.string x2) ∧ W2.cell? ⟨b0, off + 3, none⟩ = some (.string x3) from ⟨by simpa using hcells 0 x0 rfl, hcells 1 x1 rfl, hcells 2 x2 rfl, hcells 3 x3 rfl⟩)
  clear hcells hat hlt h4
  obtain ⟨o, l, m, bs, hbd, hSO, hone⟩ := ps_ex x0
  have HSO := hid hSO
  have HONE := hid hone
  clear hSO hone
  obtain ⟨y0, y1, y2, y3⟩ := HY.out
  go_wp2_with fail
  clear y0 y1 y2 y3
  refine (c_sParseSetting x0 W2 (by have := HSZ.out.1; omega)).mono ?_
  rintro e W4 ⟨hp, hb4⟩
  obtain rfl := HONE.out _ hp
  have d4 := hb4
  have kZ4 := kZ2.on hb4
  clear hp hb4
  obtain ⟨W5, hW5⟩ : ∃ W5, W5 = W4.alloc (.cells #[.int .i64 o, .int .i64 l, .int .i64 m] 24) := ⟨_, rfl⟩
  have kS5 : Blk W5 W4.heap.size 24 #[.int .i64 o, .int .i64 l, .int .i64 m] := by rw [hW5]; exact Blk.new W4 _ _
  have kZ5 : Blk W5 w.heap.size 27 #[.int .i64 0, .int .i64 0, .int .i64 0, .slice none 0 0, .int .i64 0, .int .i64 0] := by rw [hW5]; exact kZ4.alloc _
  have d5 : Below W2.heap.size W2 W5 := by rw [hW5]; exact bel_alloc d4 _
  have y1 : (W4.alloc (.cells #[.int .i64 o, .int .i64 l, .int .i64 m] 24)).cell? ⟨b0, off + 1, none⟩ = some (.string x1) := by rw [← hW5]; exact cell_kept HY.out.2.1 d5
  have hzs : w.heap.size + 1 ≤ W4.heap.size := Nat.le_trans hz2 d4.size
  clear d4 kZ4
  go_wp2_with fail
  rw [← hW5]
  clear hW5 y1
  refine (c_l9NumK x1 W5 (by have := HSZ.out.2.1; omega)).mono ?_
  rintro e W6 ⟨⟨n0, bb0, rfl, hr0, hn0, -⟩, hb⟩
  have HN0 := hid hn0
  have kS6 := kS5.on hb
  have kZ6 := kZ5.on hb
  have d6 := d5.trans (hb.mono d5.size)
  have y2 := cell_kept HY.out.2.2.1 d6
  clear hb hn0 kS5 kZ5 d5
  go_wp2_with fail
  clear y2
  refine (c_l9NumK x2 W6 (by have := HSZ.out.2.2.1; omega)).mono ?_
  rintro e W7 ⟨⟨n1, bb1, rfl, hr1, hn1, -⟩, hb⟩
  have HN1 := hid hn1
  have kS7 := kS6.on hb
  have kZ7 := kZ6.on hb
  have d7 := d6.trans (hb.mono d6.size)
  obtain ⟨s0, s1, s2⟩ := kS7.cells3
  clear hb hn1 kS6 kZ6 d6
  have hr0' : -9223372036854775808 ≤ n0 ∧ n0 ≤ 9223372036854775807 := by omega
  have hr1' : -9223372036854775808 ≤ n1 ∧ n1 ≤ 9223372036854775807 := by omega
  obtain ⟨W8, hW8⟩ : ∃ W8, W8 = W7.alloc (.cells #[.int .i64 o, .int .i64 l, .int .i64 m, .slice none 0 0, .int .i64 n0, .int .i64 n1] 27) := ⟨_, rfl⟩
  have kK8 : Blk W8 W7.heap.size 27 #[.int .i64 o, .int .i64 l, .int .i64 m, .slice none 0 0, .int .i64 n0, .int .i64 n1] := by rw [hW8]; exact Blk.new W7 _ _
  have kZ8 : Blk W8 w.heap.size 27 #[.int .i64 0, .int .i64 0, .int .i64 0, .slice none 0 0, .int .i64 0, .int .i64 0] := by rw [hW8]; exact kZ7.alloc _
  have d8 : Below W2.heap.size W2 W8 := by rw [hW8]; exact bel_alloc d7 _
  have hz8 : W7.heap.size + 1 ≤ W8.heap.size := by rw [hW8, World.size_alloc]; omega
  have hzN : w.heap.size + 1 ≤ W7.heap.size := Nat.le_trans hz2 d7.size
  have c8 := c2.trans (d8.mono c2.size)
  have y3 := cell_kept HY.out.2.2.2 d8
  clear d7 kZ7
  by_cases hd : x3 = str [45]
  · have hbd3 := dash_yes hd
    have HPR := hid (show PrOf x3 [] by rw [hd]; exact pr_dash)
    have HKO := hid (kn_of HP.out HSO.out HN0.out HN1.out HPR.out)
    obtain ⟨k0, k1, k2, k3, k4, k5⟩ := kK8.cells6
    rw [hW8] at y3 k0 k1 k2 k3 k4 k5
    have hat := (PsAt.nil W8 0)
    clear hd kS7
    go_wp2_with fail
    rw [← hW8]
    clear hW8 y3 k0 k1 k2 k3 k4 k5 s0 s1 s2
    refine (c_sFormatKnown_any ⟨o, l, m, [], n0, n1⟩ none 0 0 W8 hat (Nat.zero_le _) (kn_wf (fun i p h => by simp at h) hr0' hr1' (by simp))).mono ?_
    rintro e W9 ⟨rfl, hb⟩
    have kK9 := kK8.on hb
    have kZ9 := kZ8.on hb
    have c9 := c8.trans (hb.mono c8.size)
    have hne1 : ¬ W7.heap.size = w.heap.size := by omega
    have hne2 : ¬ w.heap.size = W7.heap.size := by omega
    clear hb kK8 kZ8 c8 hat
    obtain ⟨X, hX⟩ : ∃ X, X = knV ⟨o, l, m, [], n0, n1⟩ := ⟨_, rfl⟩
    rw [← hX]
    have HX := hid hX
    clear hX
    obtain ⟨k0, k1, k2, k3, k4, k5⟩ := kK9.cells6
    by_cases he : X = T
    · have he1 : (X.toList == T.toList) = true := by rw [he]; simp
      have HR := hid (pkn_yes HT0.out HKO.out (HX.out.symm.trans he))
      clear he
      obtain ⟨zc0, zc1, zc2, zc3, zc4, zc5⟩ := kZ9.cells6
      have fz0 := kZ9.frozen 0
      have fz1 := kZ9.frozen 1
      have fz2 := kZ9.frozen 2
      have fz3 := kZ9.frozen 3
      have fz4 := kZ9.frozen 4
      have fz5 := kZ9.frozen 5
      obtain ⟨j0, j1, j2, j3, j4, j5⟩ := (blk6k kZ9 (.int .i64 o) (.int .i64 l) (.int .i64 m) (.slice none 0 0) (.int .i64 n0) (.int .i64 n1)).cells6
      have HG := hid (gr6k (grown_refl W9 (some w.heap.size)) (.int .i64 o) (.int .i64 l) (.int .i64 m) (.slice none 0 0) (.int .i64 n0) (.int .i64 n1))
      have HBB := hid (c9.trans (below_of_grown HG.out c9.size (fun g e => by cases e; exact Nat.le_refl _)))
      clear kZ9
      go_wp2
      (try simp only [Exit.inBlock, Exit.then])
      exact bodyPost_ret (v := .tuple #[.agg #[.int .i64 o, .int .i64 l, .int .i64 m, .slice none 0 0, .int .i64 n0, .int .i64 n1], .bool true]) (by simp [results, Tryz.results13, go_sem, j0, j1, j2, j3, j4, j5]) rfl ⟨⟨o, l, m, [], n0, n1⟩, true, none, 0, ⟨HR.out, by simp⟩, rfl, own_ps_nil _ _ _, HBB.out⟩
    · have he1 : (X.toList == T.toList) = false := bytes_ne he
      have HR := hid (pkn_no HKO.out (fun h => he (HX.out.trans h)))
      clear he
      obtain ⟨zc0, zc1, zc2, zc3, zc4, zc5⟩ := kZ9.cells6
      have fz0 := kZ9.frozen 0
      have fz1 := kZ9.frozen 1
      have fz2 := kZ9.frozen 2
      have fz3 := kZ9.frozen 3
      have fz4 := kZ9.frozen 4
      have fz5 := kZ9.frozen 5
      obtain ⟨j0, j1, j2, j3, j4, j5⟩ := (blk6k kZ9 (.int .i64 0) (.int .i64 0) (.int .i64 0) (.slice none 0 0) (.int .i64 0) (.int .i64 0)).cells6
      have HG := hid (gr6k (grown_refl W9 (some w.heap.size)) (.int .i64 0) (.int .i64 0) (.int .i64 0) (.slice none 0 0) (.int .i64 0) (.int .i64 0))
      have HBB := hid (c9.trans (below_of_grown HG.out c9.size (fun g e => by cases e; exact Nat.le_refl _)))
      clear kZ9
      go_wp2
      (try simp only [Exit.inBlock, Exit.then])
      exact bodyPost_ret (v := .tuple #[.agg #[.int .i64 0, .int .i64 0, .int .i64 0, .slice none 0 0, .int .i64 0, .int .i64 0], .bool false]) (by simp [results, Tryz.results13, go_sem, j0, j1, j2, j3, j4, j5]) rfl ⟨kn0, false, none, 0, ⟨HR.out, by simp [kn0]⟩, rfl, own_ps_nil _ _ _, HBB.out⟩
  have hbd3 := dash_no hd
  have HD := hid hd
  rw [hW8] at y3
  clear hd
  go_wp2_with fail
  rw [← hW8]
  clear y3 s0 s1 s2 kS7
  refine (c_l9Cut 44 x3 W8 (by have := HSZ.out.2.2.2; omega)).mono ?_
  rintro e W9 ⟨lp, A2, cp, hmap, hll, rfl, hown, hb⟩
  have HFL := hid (prfl_cutL hmap)
  have hlp : lp.length ≤ 1048576 := by
    have h1 := cutL_num 44 x3.data.toList
    rw [← hmap, List.length_map] at h1
    have h2 : x3.data.toList.length = x3.size := len_toList x3
    have := HSZ.out.2.2.2; omega
  have HXS := hid (show ∀ x ∈ lp, x.size ≤ 1048576 from fun x hx => Nat.le_trans (cut_sizesK hmap x hx) (by have := HSZ.out.2.2.2; omega))
  have HA2 := hid (show ∀ b off, A2 = some ⟨b, off, none⟩ → b ≠ W7.heap.size from fun b off e => by have := (hown.lt b (by rw [e]; rfl)).1; omega)
  have HSK := hid (show SK w.heap.size W7.heap.size W9.heap.size #[.int .i64 o, .int .i64 l, .int .i64 m, .slice none 0 0, .int .i64 n0, .int .i64 n1] A2 cp lp w W9 from ⟨⟨kK8.on hb, own_strs_at hown, kZ8.on hb⟩, ⟨by have := hb.size; omega, by have := hb.size; omega, Nat.le_refl _, (c8.trans (hb.mono c8.size)).size⟩, c8.trans (hb.mono c8.size)⟩)
  obtain ⟨B, hB⟩ : ∃ B, B = W9.heap.size := ⟨_, rfl⟩
  rw [← hB] at HSK
  have HBB := hid (show B ≤ W9.heap.size by omega)
  obtain ⟨n, hn⟩ : ∃ n, n = lp.length := ⟨_, rfl⟩
  have Hn := hid hn
  rw [← hn] at hlp ⊢
  have hZN : w.heap.size ≠ W7.heap.size := by omega
  have hwN : w.heap.size ≤ W7.heap.size := by omega
  have hNB : W7.heap.size < B := HSK.out.2.1.1
  clear hmap hll hown hb hn hB hW8 kK8 kZ8 c8 d8 hz8
  go_wp2_with fail
  go_loopw [13] (fun i wr => ∃ (k : Nat) (q : List Pr) (v : Value), k ≤ n ∧ i = .int .i64 k ∧ Hid (q.length = k ∧ PksOf lp q ∧ PsB q) ∧ wr.ownsRow B 53 2 v k (prs q) ∧ Hid (SK w.heap.size W7.heap.size B #[.int .i64 o, .int .i64 l, .int .i64 m, v, .int .i64 n0, .int .i64 n1] A2 cp lp w wr)) (fun i _ => n - (intOf i).toNat)
  case atStart => exact ⟨0, [], .slice none 0 0, Nat.zero_le _, rfl, hid ⟨rfl, PksOf.nil lp, fun i p h => by simp at h⟩, own_ps_nil _ _ _, HSK⟩
  case round =>
    clear HSK
    obtain ⟨k, q, v, hk, rfl, HQ, hown, HSK⟩ := hrel
    rename_i wr _
    by_cases hlt : k < n
    · have hlt2 : k < lp.length := by have := Hn.out; omega
      have hlti : (k : Int) < (n : Int) := by omega
      obtain ⟨b, off2, rfl, hb1, y0⟩ := txt_at HSK.out.1.2.1 k hlt2
      have hcp := HSK.out.1.2.1.1
      rw [← Hn.out] at hcp
      obtain ⟨x, hx⟩ : ∃ x, x = lp[k] := ⟨_, rfl⟩
      have HX := hid hx
      rw [← hx] at y0
      have HPr := hid (fun (v : World) => c_l3Pair x v (by rw [hx]; exact HXS.out _ (List.getElem_mem _)))
      have HYC := hid (show ∀ (w' : World) (C : Array Value), SK w.heap.size W7.heap.size B C (some ⟨b, off2, none⟩) cp lp w w' → w'.cell? ⟨b, off2 + k, none⟩ = some (.string x) from fun w' C hs => by
        obtain ⟨b', off', e1, _, hc⟩ := hs.1.2.1.2.2.2 (by omega)
        cases e1
        exact hc k x (by rw [hx]; exact List.getElem?_eq_getElem hlt2))
      have HO := hid hown
      clear hx hown
      obtain ⟨A0, c0, rfl, -, -, -⟩ := own_ps HO.out
      have hS : wr.cell? ⟨W7.heap.size, 3, none⟩ = some (.slice A0 q.length c0) ∧ wr.cell? ⟨b, off2 + k, none⟩ = some (.string x) ∧ True := ⟨(HSK.out.1.1.cells6).2.2.2.1, y0, trivial⟩
      clear y0
      go_wp2_with fail
      refine wp_region_noPanic ?_
      refine zb (T := (fun v => v.cell? ⟨W7.heap.size, 3, none⟩ = some (.slice A0 q.length c0) ∧ v.cell? ⟨b, off2 + k, none⟩ = some (.string x) ∧ True)) 10 (by kernel_rfl) (t2_drew hS) (fun hHeld => ?_)
      refine zk 0 ?_
      refine zk 1 ?_
      refine zk 2 ?_
      refine zk 3 ?_
      refine zk 4 ?_
      refine zk 5 ?_
      refine zr (rs := [6]) ?_
      refine AllUp.cons (o := ?oz1_6) ?iz1_6 (fun K hK => ?sz1_6) AllUp.nil
      case iz1_6 => (simp only [List.getElem?_toArray, List.getElem?_cons_succ, List.getElem?_cons_zero]; rfl)
      (go_simp; (go_at_call 46; refine (HPr.out _).mono ?_; rintro e wP ⟨⟨p, rfl, hpb, hpk⟩, hbP⟩; replace HSK := hid (HSK.out.dr.on hbP); replace HO := hid (own_on (show wr.drew.ownsRow B 53 2 _ _ _ from HO.out) hbP)))
      refine hK.out _ _ (fun _ => ?kz1_6) (fun hHeld0 => ?_)
      case kz1_6 => (try dsimp only); (first | with_reducible assumption | with_reducible exact ⟨(HSK.out.1.1.cells6).2.2.2.1, HYC.out _ _ HSK.out, trivial⟩ | exact t2_bel (by assumption) (by assumption) | assumption | exact t2_alloc (by assumption) _ | exact ⟨(HSK.out.1.1.cells6).2.2.2.1, HYC.out _ _ HSK.out, trivial⟩)
      (try clear hHeld)
      have hHeld := hHeld0 (by decide)
      clear hHeld0 hK K
      try simp only [Act.put, List.setIfInBounds_toArray, List.set_cons_zero, List.set_cons_succ]
      refine zr (rs := [7]) ?_
      refine AllUp.cons (o := ?oz1_7) ?iz1_7 (fun K hK => ?sz1_7) AllUp.nil
      case iz1_7 => (simp only [List.getElem?_toArray, List.getElem?_cons_succ, List.getElem?_cons_zero]; rfl)
      (go_simp; (replace HSK := hid (HSK.out.al (.cells #[.int .i64 p.1, .int .i64 p.2] 53)); replace HO := hid (HO.out.alloc (.cells #[.int .i64 p.1, .int .i64 p.2] 53))))
      refine hK.out _ _ (fun _ => ?kz1_7) (fun hHeld0 => ?_)
      case kz1_7 => (try dsimp only); (first | with_reducible assumption | with_reducible exact ⟨(HSK.out.1.1.cells6).2.2.2.1, HYC.out _ _ HSK.out, trivial⟩ | exact t2_bel (by assumption) (by assumption) | assumption | exact t2_alloc (by assumption) _ | exact ⟨(HSK.out.1.1.cells6).2.2.2.1, HYC.out _ _ HSK.out, trivial⟩)
      (try clear hHeld)
      have hHeld := hHeld0 (by decide)
      clear hHeld0 hK K
      try simp only [Act.put, List.setIfInBounds_toArray, List.set_cons_zero, List.set_cons_succ]
      refine zr (rs := [8]) ?_
      refine AllUp.cons (o := ?oz1_8) ?iz1_8 (fun K hK => ?sz1_8) AllUp.nil
      case iz1_8 => (simp only [List.getElem?_toArray, List.getElem?_cons_succ, List.getElem?_cons_zero]; rfl)
      (refine step_pairsK (by rfl) (.tmp 60) (.tmp 66) 25 (by rfl) B 53 Tryz.underlying25 Tryz.info_pair _ k q (by rfl) HO.out (some ⟨wP.heap.size, 0, none⟩) 1 (wP.heap.size + 1) 1 [p] (ps_newK wP p.1 p.2 53) (by rfl) (by rfl) (by simp; omega) HSK.out.2.1.2.2.1 ?_; intro v9 w9 ho9 hb9 hg9; obtain ⟨A9, c9, hv9, -, -, -⟩ := own_ps ho9; rw [List.length_append, List.length_singleton] at hv9; subst hv9; replace HSK := hid (HSK.out.go hb9); obtain ⟨z0, z1, z2, z3, z4, z5⟩ := HSK.out.1.1.cells6; have zf := HSK.out.1.1.frozen 3)
      refine hK.out _ _ (fun _ => ?kz1_8) (fun hHeld0 => ?_)
      case kz1_8 => (try dsimp only); (first | with_reducible assumption | with_reducible exact ⟨(HSK.out.1.1.cells6).2.2.2.1, HYC.out _ _ HSK.out, trivial⟩ | exact t2_bel (by assumption) (by assumption) | assumption | exact t2_alloc (by assumption) _ | exact ⟨(HSK.out.1.1.cells6).2.2.2.1, HYC.out _ _ HSK.out, trivial⟩)
      (try clear hHeld)
      have hHeld := hHeld0 (by decide)
      clear hHeld0 hK K
      try simp only [Act.put, List.setIfInBounds_toArray, List.set_cons_zero, List.set_cons_succ]
      refine zk 9 ?_
      refine zr (rs := [10]) ?_
      refine AllUp.cons (o := ?oz1_10) ?iz1_10 (fun K hK => ?sz1_10) AllUp.nil
      case iz1_10 => (simp only [List.getElem?_toArray, List.getElem?_cons_succ, List.getElem?_cons_zero]; rfl)
      (go_simp; (skip))
      refine hK.out _ _ (fun h => absurd rfl h) (fun _ => ?_)
      (try clear hHeld)
      clear hK K
      try simp only [Act.put, List.setIfInBounds_toArray, List.set_cons_zero, List.set_cons_succ]
      refine zd (by kernel_rfl) ?_ _
      refine NoPanic.normal ?_
      have HSK9 := hid (HSK.out.put hZN hwN HA2.out 3 (.slice A9 (q.length + 1) c9))
      simp only [List.setIfInBounds_toArray, List.set_cons_zero, List.set_cons_succ] at HSK9
      have ho10 : (w9.setCell ⟨W7.heap.size, 3, none⟩ (.slice A9 (q.length + 1) c9)).ownsRow B 53 2 (.slice A9 (q.length + 1) c9) (k + 1) (prs (q ++ [p])) := (show w9.ownsRow B 53 2 (.slice A9 (q.length + 1) c9) (k + 1) (prs (q ++ [p])) from ho9).kept (grown_set (grown_refl w9 (some W7.heap.size)) 3 (.slice A9 (q.length + 1) c9)) (by
        cases hv : (Value.slice A9 (q.length + 1) c9).ownBlock with
        | none => exact .inl rfl
        | some g => exact .inr (fun e => by have := (ho9.lt g hv).1; injection e with e2; omega))
      have HQ2 := hid (show (q ++ [p]).length = k + 1 ∧ PksOf lp (q ++ [p]) ∧ PsB (q ++ [p]) from by
        obtain ⟨q1, q2, q3⟩ := HQ.out
        refine ⟨by simp; omega, ?_, psb_snoc q3 _ hpb.1 hpb.2⟩
        refine q2.snoc (by omega) _ ?_
        have e : lp[q.length]'(by omega) = x := by rw [HX.out]; congr 1
        rw [e]; exact hpk)
      clear HSK HO ho9 hb9 hg9 z0 z1 z2 z3 z4 z5 zf HQ
      go_wp2_with fail
      go_roundw
      case rel => exact ⟨k + 1, q ++ [p], _, by omega, by go_num, HQ2, ho10, HSK9⟩
      case measure => simp [intOf]; omega
    · have hkn : k = n := by omega
      obtain ⟨A0, c0, rfl, hat, hkq, _⟩ := own_ps hown
      have HPR := hid (show PrOf x3 q from pr_of HD.out HFL.out HQ.out.2.1 (by rw [HQ.out.1, hkn, Hn.out]))
      have HKO := hid (kn_of HP.out HSO.out HN0.out HN1.out HPR.out)
      have hq4 : q.length ≤ 1048576 := by omega
      have hlti : ¬ (k : Int) < (n : Int) := by omega
      obtain ⟨⟨kK8, -, kZ8⟩, -, c8⟩ := HSK.out
      obtain ⟨k0, k1, k2, k3, k4, k5⟩ := kK8.cells6
      rw [hkq] at hown
      have HLT := hid (show ∀ g, (Value.slice A0 q.length c0).ownBlock = some g → w.heap.size < g from fun g hg => by have := (hown.lt g hg).1; omega)
      clear HSK hkn hkq
      go_wp2_with fail
      clear k0 k1 k2 k3 k4 k5
      refine (c_sFormatKnown_any ⟨o, l, m, q, n0, n1⟩ A0 c0 wr.heap.size wr hat (Nat.le_refl _) (kn_wf HQ.out.2.2 hr0' hr1' hq4)).mono ?_
      rintro e W9b ⟨rfl, hb⟩
      have kK9 := kK8.on hb
      have kZ9 := kZ8.on hb
      have c9 := c8.trans (hb.mono c8.size)
      have hownF := own_mono (B' := w.heap.size) (own_on hown hb) (by omega)
      have hne1 : ¬ W7.heap.size = w.heap.size := by omega
      have hne2 : ¬ w.heap.size = W7.heap.size := by omega
      clear hb kK8 kZ8 c8 hat hown
      obtain ⟨X, hX⟩ : ∃ X, X = knV ⟨o, l, m, q, n0, n1⟩ := ⟨_, rfl⟩
      rw [← hX]
      have HX := hid hX
      clear hX
      obtain ⟨k0, k1, k2, k3, k4, k5⟩ := kK9.cells6
      by_cases he : X = T
      · have he1 : (X.toList == T.toList) = true := by rw [he]; simp
        have HR := hid (pkn_yes HT0.out HKO.out (HX.out.symm.trans he))
        have HOW := hid (hownF.kept (gr6k (grown_refl W9b (some w.heap.size)) (.int .i64 o) (.int .i64 l) (.int .i64 m) (.slice A0 q.length c0) (.int .i64 n0) (.int .i64 n1)) (by
          cases hv : (Value.slice A0 q.length c0).ownBlock with
          | none => exact .inl rfl
          | some g => exact .inr (fun e => by have := HLT.out g hv; injection e with e2; omega)))
        clear he hownF
        obtain ⟨zc0, zc1, zc2, zc3, zc4, zc5⟩ := kZ9.cells6
        have fz0 := kZ9.frozen 0
        have fz1 := kZ9.frozen 1
        have fz2 := kZ9.frozen 2
        have fz3 := kZ9.frozen 3
        have fz4 := kZ9.frozen 4
        have fz5 := kZ9.frozen 5
        obtain ⟨j0, j1, j2, j3, j4, j5⟩ := (blk6k kZ9 (.int .i64 o) (.int .i64 l) (.int .i64 m) (.slice A0 q.length c0) (.int .i64 n0) (.int .i64 n1)).cells6
        have HG := hid (gr6k (grown_refl W9b (some w.heap.size)) (.int .i64 o) (.int .i64 l) (.int .i64 m) (.slice A0 q.length c0) (.int .i64 n0) (.int .i64 n1))
        have HBB := hid (c9.trans (below_of_grown HG.out c9.size (fun g e => by cases e; exact Nat.le_refl _)))
        clear kZ9
        go_wp2
        (try simp only [Exit.inBlock, Exit.then])
        exact bodyPost_ret (v := .tuple #[.agg #[.int .i64 o, .int .i64 l, .int .i64 m, .slice A0 q.length c0, .int .i64 n0, .int .i64 n1], .bool true]) (by simp [results, Tryz.results13, go_sem, j0, j1, j2, j3, j4, j5]) rfl ⟨⟨o, l, m, q, n0, n1⟩, true, A0, c0, ⟨HR.out, hq4⟩, rfl, HOW.out, HBB.out⟩
      · have he1 : (X.toList == T.toList) = false := bytes_ne he
        have HR := hid (pkn_no HKO.out (fun h => he (HX.out.trans h)))
        clear he
        obtain ⟨zc0, zc1, zc2, zc3, zc4, zc5⟩ := kZ9.cells6
        have fz0 := kZ9.frozen 0
        have fz1 := kZ9.frozen 1
        have fz2 := kZ9.frozen 2
        have fz3 := kZ9.frozen 3
        have fz4 := kZ9.frozen 4
        have fz5 := kZ9.frozen 5
        obtain ⟨j0, j1, j2, j3, j4, j5⟩ := (blk6k kZ9 (.int .i64 0) (.int .i64 0) (.int .i64 0) (.slice none 0 0) (.int .i64 0) (.int .i64 0)).cells6
        have HG := hid (gr6k (grown_refl W9b (some w.heap.size)) (.int .i64 0) (.int .i64 0) (.int .i64 0) (.slice none 0 0) (.int .i64 0) (.int .i64 0))
        have HBB := hid (c9.trans (below_of_grown HG.out c9.size (fun g e => by cases e; exact Nat.le_refl _)))
        clear kZ9
        go_wp2
        (try simp only [Exit.inBlock, Exit.then])
        exact bodyPost_ret (v := .tuple #[.agg #[.int .i64 0, .int .i64 0, .int .i64 0, .slice none 0 0, .int .i64 0, .int .i64 0], .bool false]) (by simp [results, Tryz.results13, go_sem, j0, j1, j2, j3, j4, j5]) rfl ⟨kn0, false, none, 0, ⟨HR.out, by simp [kn0]⟩, rfl, own_ps_nil _ _ _, HBB.out⟩

end Go.Proofs.YtmfnfheahehpcaaGreatDoor
