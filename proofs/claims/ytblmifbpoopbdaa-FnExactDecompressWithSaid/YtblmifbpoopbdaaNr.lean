/- The contract of add. No condition but that what is known is valid. -/
import Derived.Test.YtblmifbpoopbdaaNq
import Derived.Test.YtblmifbpoopbdaaBh
namespace Go.Proofs.Ytblmifbpoopbdaa
open Go.ChangeShapes Go.WideShapes Go.ChangeAt Go.RowKit Go.Joins
set_option linter.unusedVariables false

theorem Try.info_ptr : (Try.prog.info? 186).map (fun i => (i.zero, i.size, i.bytes)) = some (some (.pointer none), 1, 8) := by kernel_rfl
/-- 'out = append(out, x)' of one pointer, out the call's own: ONE goal is left. -/
theorem app_ptr {P : Program} {w : World} {ops : Array Oper} {rest : List Oper} {o : Oper} {a : Act} {Q : Exit → Act → World → Prop} (hgd : o.guard = none) (s x : Operand) (t : TypeId)
    (ho : o.op = .call { callee := .builtin .append, args := #[s, x], argTypes := #[t, t] }) (B : Nat) (e : TypeId) (ht : P.underlying t = some (.slice e))
    (hinfo : (P.info? e).map (fun i => (i.zero, i.size, i.bytes)) = some (some (.pointer none), 1, 8)) (v : Value) (n : Nat) (xs : List Value) (hs : a.eval s = v) (hown : w.ownsRow B e 1 v n xs) (X : Option Addr) (cp : Nat)
    (hx : a.eval x = .slice (some ⟨w.heap.size, 0, none⟩) 1 cp) (hn : n ≤ 1000000000000) (hB : B ≤ w.heap.size)
    (h : ∀ v' w', w'.ownsRow B e 1 v' (n + 1) (xs ++ [.pointer X]) → Below B w w' → w.grownBy w' v.ownBlock → wpList P ops Q rest (a.put o.dst v') w') : wpList P ops Q (o :: rest) a (w.alloc (.cells #[.pointer X] e)) := by
  obtain ⟨i0, hi, hz0, hz1, hz2⟩ := info_parts hinfo
  refine wpList_append_own _ hgd s x t ho B e i0 (.pointer none) 1 8 ht hi hz0 hz1 hz2 rfl (by decide) v n xs hs (hown.alloc _) ⟨w.heap.size, 0, none⟩ 1 cp [.pointer X] hx rfl (one_new w _ e) ?_ ?_ (by omega) ?_ ?_
  · intro u hu; simp at hu; subst hu; rfl
  · unfold maxLen; omega
  · have := World.size_alloc w (.cells #[.pointer X] e); omega
  · intro v' w' hown' hg _
    have hg2 : w.grownBy w' v.ownBlock := grown_trans (World.grownBy_alloc w _ _) hg
    exact h v' w' hown' (below_of_grown hg2 hB (fun g hg => (hown.lt g hg).1)) hg2

theorem Fd.away {L : Nat} {c : Int} {Q : List Pr} {m : Nat} {N : Nat → Nat} {Lo : Nat → Option Nat} {bm n : Nat} {w w' : World} {e : TypeId} {row : Option Nat} (h : Fd L c Q m N Lo bm n w) (hg : w.grownBy w' row) (hrow : ∀ g, row = some g → ∃ cs, w.heap[g]? = some (.cells cs e (0, 0))) (h1 : e ≠ 189) (h2 : e ≠ 228) : Fd L c Q m N Lo bm n w' := by
  have key : ∀ {b : Nat} {t : TypeId} {cs : Array Value}, Blk w b t cs → e ≠ t → Blk w' b t cs := fun {b t cs} hb ht => hb.grown hg (fun e1 => by
    obtain ⟨cs2, h3⟩ := hrow b e1.symm
    have := hb.symm.trans h3
    simp at this
    exact ht this.2.symm)
  refine ⟨fun r hr => key (h.node r hr) h1, h.ge, fun r g hr hl => ?_, h.bare, h.one, h.mp.kept hg (fun e1 => ?_), h.mge⟩
  · obtain ⟨a, cs, b, c, d⟩ := h.arr r g hr hl
    exact ⟨a, cs, key b h2, c, d⟩
  · obtain ⟨cs2, h3⟩ := hrow bm e1.symm
    obtain ⟨es, c, h4⟩ := h.mp.obj
    rw [h3] at h4
    cases h4
theorem own_ne_map {w : World} {B : Nat} {e : TypeId} {size m bm n : Nat} {v : Value} {xs : List Value} {M : Nat → Int → Option Nat} (h : w.ownsRow B e size v m xs) (hm : MapIs w bm n M) : v.ownBlock = none ∨ v.ownBlock ≠ some bm := by
  by_cases hv : v.ownBlock = some bm
  · obtain ⟨cs, hc⟩ := own_elem h bm hv
    obtain ⟨es, c, h4⟩ := hm.obj
    rw [hc] at h4
    cases h4
  · exact Or.inr hv
/-- the state ahead of the append: all but the new node's place in the row of nodes -/
structure Near1 (L fb : Nat) (k : Kn) (A : Option Addr) (cap nb cap2 : Nat) (Q : List Pr) (p : Pr) (N N' : Nat → Nat) (Lo' : Nat → Option Nat) (bm n' g : Nat) (W : World) : Prop where
  bx : Blk W fb 146 #[.int .i64 k.o, .int .i64 k.l, .int .i64 k.m, .slice A k.ps.length cap, .int .i64 k.base, .int .i64 k.last, .slice (some ⟨nb, 0, none⟩) (top k.c Q) cap2, .map (some bm)]
  row : W.ownsRow L 182 2 (.slice A k.ps.length cap) k.ps.length (prs k.ps)
  nds : W.ownsRow L 186 1 (.slice (some ⟨nb, 0, none⟩) (top k.c Q) cap2) (top k.c Q) (nodesL k.c Q N)
  fd : Fd L k.c (Q ++ [p]) k.base.toNat N' Lo' bm n' W
  lb : L ≤ fb
  nl : nodesL k.c (Q ++ [p]) N' = nodesL k.c Q N ++ [.pointer (some ⟨g, 0, none⟩)]
theorem top_snoc (c : Int) (Q : List Pr) (p : Pr) : top c (Q ++ [p]) = top c Q + 1 := by simp [top]; omega
section
variable {L fb : Nat} {k : Kn} {A : Option Addr} {cap nb cap2 : Nat} {Q : List Pr} {p : Pr} {N N' : Nat → Nat} {Lo Lo' : Nat → Option Nat} {bm n n' g : Nat} {W w7 : World}
/-- the box of the finder, behind the append -/
theorem Near1.bx7 (h : Near1 L fb k A cap nb cap2 Q p N N' Lo' bm n' g W) (hg : W.grownBy w7 (Value.slice (some ⟨nb, 0, none⟩) (top k.c Q) cap2).ownBlock) : Blk w7 fb 146 #[.int .i64 k.o, .int .i64 k.l, .int .i64 k.m, .slice A k.ps.length cap, .int .i64 k.base, .int .i64 k.last, .slice (some ⟨nb, 0, none⟩) (top k.c Q) cap2, .map (some bm)] := by
  refine h.bx.grown hg (fun e => ?_)
  rcases own_apart_blk h.nds h.bx (by decide) with h1 | h1
  · rw [h1] at e; cases e
  · exact h1 e.symm
theorem Near1.calm7 (h : Near1 L fb k A cap nb cap2 Q p N N' Lo' bm n' g W) (hg : W.grownBy w7 (Value.slice (some ⟨nb, 0, none⟩) (top k.c Q) cap2).ownBlock) : Calm W w7 := Calm.grown hg (fun b hb => by
  obtain ⟨cs, hc⟩ := own_elem h.nds b hb
  exact Or.inl ⟨cs, _, hc, by decide⟩)
theorem Near1.done (h : Near1 L fb k A cap nb cap2 Q p N N' Lo' bm n' g W) {nb' cap2' : Nat} (hown : w7.ownsRow L 186 1 (.slice (some ⟨nb', 0, none⟩) (top k.c Q + 1) cap2') (top k.c Q + 1) (nodesL k.c Q N ++ [.pointer (some ⟨g, 0, none⟩)])) (hg : W.grownBy w7 (Value.slice (some ⟨nb, 0, none⟩) (top k.c Q) cap2).ownBlock) :
    FQ L fb k A cap nb' cap2' (Q ++ [p]) N' Lo' bm n' (w7.setCell ⟨fb, 6, none⟩ (.slice (some ⟨nb', 0, none⟩) (top k.c Q + 1) cap2')) := by
  have hb := h.bx7 hg
  have hr7 := h.row.kept hg (own_apart h.row h.nds (by decide))
  have hf7 := h.fd.away hg (fun b hb => own_elem h.nds b hb) (by decide) (by decide)
  refine ⟨?_, own_store_blk hr7 hb (by decide) 6 _, ?_, hf7.away (e := 146) (grown_set (grown_refl w7 (some fb)) 6 _) (fun b e => ?_) (by decide) (by decide), h.lb⟩
  · rw [top_snoc]
    exact hb.set_ 6 _
  · rw [top_snoc, h.nl]
    exact own_store_blk hown hb (by decide) 6 _
  · obtain rfl := Option.some.inj e
    exact ⟨_, hb⟩
end
section
variable {L fb : Nat} {k : Kn} {A : Option Addr} {cap nb cap2 : Nat} {Q : List Pr} {p : Pr} {N : Nat → Nat} {Lo : Nat → Option Nat} {bm n n' G : Nat} {W w' : World}
theorem nl_new (hc : 0 ≤ k.c) (hf : fnd k.c Q (wd k.c Q p.1 ++ [byt p.2]) = none) : nodesL k.c (Q ++ [p]) (addN N (top k.c Q) G) = nodesL k.c Q N ++ [.pointer (some ⟨G, 0, none⟩)] := by
  rw [nodesL_snoc hc p (N := N) (fun r hr => addN_other (lst_ne hc hr)), nodeAt_top hc, ndAt, fnd_snoc hc hf rfl]
  show nodesL k.c Q N ++ [ptr (some (addN N (top k.c Q) G (top k.c Q)))] = _
  rw [addN_same]; rfl
theorem nl_dup {s : Nat} (hc : 0 ≤ k.c) (hf : fnd k.c Q (wd k.c Q p.1 ++ [byt p.2]) = some s) : nodesL k.c (Q ++ [p]) N = nodesL k.c Q N ++ [.pointer (some ⟨N s, 0, none⟩)] := by
  rw [nodesL_snoc hc p (N := N) (fun r hr => rfl), nodeAt_top hc, ndAt, fnd_more [p] hf]; rfl
theorem FQ.dup1 {s : Nat} (h : FQ L fb k A cap nb cap2 Q N Lo bm n W) (hc : 0 ≤ k.c) (hf : fnd k.c Q (wd k.c Q p.1 ++ [byt p.2]) = some s) : Near1 L fb k A cap nb cap2 Q p N N Lo bm n (N s) W :=
  ⟨h.bx, h.row, h.nds, h.fd.dup hc hf, h.lb, nl_dup hc hf⟩
theorem FQ.keep1 {r0 g x : Nat} (h : FQ L fb k A cap nb cap2 Q N Lo bm n W) (hc : 0 ≤ k.c) (hQ : PairsOk k.c Q) (hf : fnd k.c Q (wd k.c Q p.1 ++ [byt p.2]) = none) (h0 : fnd k.c Q (wd k.c Q p.1) = some r0) (hx : p.2 = (x : Int)) (hx2 : x ≤ 255) (hm : Q.length < k.base.toNat)
    (hG : Blk W G 189 #[.int .i64 (top k.c Q : Nat), .pointer none]) (hGL : L ≤ G) (hl : Lo r0 = some g) : Near1 L fb k A cap nb cap2 Q p N (addN N (top k.c Q) G) (fun r => if r = top k.c Q then none else Lo r) bm n G (W.setCell ⟨g, x, none⟩ (.pointer (some ⟨G, 0, none⟩))) := by
  obtain ⟨_, cs, hB, _, _⟩ := h.fd.arr r0 g (fnd_lst h0) hl
  exact ⟨h.bx.far x _ (h.bx.ne_type hB (by decide)), own_store_blk h.row hB (by decide) x _, own_store_blk h.nds hB (by decide) x _, h.fd.keep_some hc hQ hf h0 hx hx2 hm hG hGL hl, h.lb, nl_new hc hf⟩
theorem FQ.keep0 {r0 x : Nat} (h : FQ L fb k A cap nb cap2 Q N Lo bm n W) (hc : 0 ≤ k.c) (hQ : PairsOk k.c Q) (hf : fnd k.c Q (wd k.c Q p.1 ++ [byt p.2]) = none) (h0 : fnd k.c Q (wd k.c Q p.1) = some r0) (hx : p.2 = (x : Int)) (hx2 : x ≤ 255) (hm : Q.length < k.base.toNat) (hLw : L ≤ W.heap.size)
    (hG : Blk W G 189 #[.int .i64 (top k.c Q : Nat), .pointer none]) (hGL : L ≤ G) (hl : Lo r0 = none) : Near1 L fb k A cap nb cap2 Q p N (addN N (top k.c Q) G) (fun r => if r = top k.c Q then none else if r = r0 then some W.heap.size else Lo r) bm n G ((W.setCell ⟨N r0, 1, none⟩ (.pointer (some ⟨W.heap.size, 0, none⟩))).alloc (.cells (Try.zeroCells228.setIfInBounds x (.pointer (some ⟨G, 0, none⟩))) 228)) := by
  have hB := h.fd.node r0 (fnd_lst h0)
  exact ⟨(h.bx.far 1 _ (h.bx.ne_type hB (by decide))).alloc _, (own_store_blk h.row hB (by decide) 1 _).alloc _, (own_store_blk h.nds hB (by decide) 1 _).alloc _, h.fd.keep_none hc hQ hf h0 hx hx2 hm hLw hG hGL hl, h.lb, nl_new hc hf⟩
theorem FQ.learn1 {r0 : Nat} (h : FQ L fb k A cap nb cap2 Q N Lo bm n W) (hc : 0 ≤ k.c) (hQ : PairsOk k.c Q) (hf : fnd k.c Q (wd k.c Q p.1 ++ [byt p.2]) = none) (h0 : fnd k.c Q (wd k.c Q p.1) = some r0) (hp : 0 ≤ p.2 ∧ p.2 ≤ 255) (hm : k.base.toNat ≤ Q.length)
    (hG : Blk W G 189 #[.int .i64 (top k.c Q : Nat), .pointer none]) (hGL : L ≤ G) (hM : MapIs w' bm n' (fun r x => if r = r0 ∧ x = p.2 then some G else inMap k.c Q (Q.take k.base.toNat) N r x)) (hg : W.grownBy w' (some bm)) : Near1 L fb k A cap nb cap2 Q p N (addN N (top k.c Q) G) (fun r => if r = top k.c Q then none else Lo r) bm n' G w' :=
  ⟨h.bx.grown hg (fun e => h.bx.ne_map h.fd.mp (Option.some.inj e)), h.row.kept hg (own_ne_map h.row h.fd.mp), h.nds.kept hg (own_ne_map h.nds h.fd.mp), h.fd.learn hc hQ hf h0 hp hm hG hGL hM hg, h.lb, nl_new hc hf⟩
end
set_option maxHeartbeats 4000000 in
set_option maxRecDepth 100000 in
theorem c_add (L fb : Nat) (k : Kn) (A : Option Addr) (cap nb cap2 : Nat) (N : Nat → Nat) (Lo : Nat → Option Nat) (bm n j : Nat) (p : Pr) (w : World) (hk : k.Ok) (hp : k.ps[j]? = some p) (hL : L ≤ w.heap.size) (hn : n ≤ j) (h : FQ L fb k A cap nb cap2 (k.ps.take j) N Lo bm n w) :
    Calls Try.prog 210 #[.pointer (some ⟨fb, 0, none⟩), .int .i64 (j : Int)] w fun e w' => e = .returned (.tuple #[]) ∧ Below L w w' ∧ Calm w w' ∧ ∃ nb' cap2' N' Lo' n', n' ≤ j + 1 ∧ FQ L fb k A cap nb' cap2' (k.ps.take (j + 1)) N' Lo' bm n' w' := by
  have hcb := hk.cbd
  have hlen := hk.len
  have hj := get_lt hp
  have hpo := hk.pairs j p hp
  obtain ⟨p1, p2⟩ := p
  obtain ⟨hpa, hpb, hpc⟩ := hpo
  simp only at hpa hpb hpc
  obtain ⟨a, rfl⟩ : ∃ a : Nat, p1 = a := ⟨p1.toNat, by unfold HasW at hpa; omega⟩
  obtain ⟨x, rfl⟩ : ∃ x : Nat, p2 = x := ⟨p2.toNat, by omega⟩
  have hxl : x ≤ 255 := by omega
  have hQ1 := take_succ_at hp
  have hQok := hk.pairs.take j
  obtain ⟨Q, hQ⟩ : ∃ Q, Q = k.ps.take j := ⟨_, rfl⟩
  have hQl : Q.length = j := by rw [hQ]; simp; omega
  rw [← hQ] at h hQ1 hQok
  rw [hQ1]
  have hw : HasW k.c (a : Int) Q.length := by rw [hQl]; exact hpa
  obtain ⟨r0, h1, h2, h3, h4, h5, _⟩ := h.code (by omega) hw
  rw [Int.toNat_natCast] at h4 h5
  have htop : (a : Int) < ((top k.c Q : Nat) : Int) := by omega
  have htl : top k.c Q ≤ 3000 := by unfold top; omega
  have hrl : r0 ≤ 100000 := by have := h2.ltn (by omega); omega
  obtain ⟨G, rfl⟩ : ∃ G, A = some ⟨G, 0, none⟩ := by
    cases A with
    | none => have := own_none h.row; omega
    | some ad => obtain ⟨G, rfl⟩ := own_some h.row; exact ⟨G, rfl⟩
  obtain ⟨q1, q2⟩ := own_pair h.row j _ hp
  simp only at q1 q2
  have HK := hid hk
  have HX := hid hpc
  have H1 := hid h1
  have H2 := hid h2
  have H := hid h
  have HQ := hid hQok
  have HQl := hid hQl
  have hjl : (j : Int) < (k.ps.length : Nat) := by omega
  obtain ⟨p0, p1, p2, p3, p4, p5, p6, p7⟩ := h.bx.cells8
  have hW0 := h.on (bel_alloc (Below.refl _ w) (.cells #[.int .i64 (a : Int), .int .i64 (x : Int)] 182))
  have s6 := hW0.bx.cell 6
  have s4 := hW0.at_ h5
  rw [nodeAt_has hw] at s4
  have HB0 := hid (Blk.new w 182 #[.int .i64 (a : Int), .int .i64 (x : Int)])
  obtain ⟨t0, t1⟩ := HB0.out.cells2
  have hs4 : (w.alloc (.cells #[.int .i64 (a : Int), .int .i64 (x : Int)] 182)).cell? ⟨nb, a, none⟩ = some (.pointer (some ⟨N r0, 0, none⟩)) := by
    rw [s4, ndAt, h1]; rfl
  obtain ⟨R, hR⟩ : ∃ R, R = ndAt k.c Q N (wd k.c Q (a : Int) ++ [byt (x : Int)]) := ⟨_, rfl⟩
  have HLg := hid (show ∀ (v : World), Below w.heap.size w v → Calls Try.prog 182 #[.pointer (some ⟨fb, 0, none⟩), .pointer (some ⟨N r0, 0, none⟩), .int .i64 (x : Int)] v fun e w' => e = .returned (ptr R) ∧ Below v.heap.size v w' from fun v hb => by
    have := c_longer L fb bm n k.base.toNat k.c Q N Lo v (H.out.fd.on hb) ((H.out.bx.on hb).cell 7) r0 h2 hrl x hxl
    rw [(fnd_some h1).2.1, ← hR] at this
    exact this)
  have HR := hid hR
  clear hR hQ1 hQok hw h1 h2 h3 h4 hW0 s4 h hk hp hQ hpa hpb hpc hQl
  go_enter Try.func210, Try.ntmps210
  go_wp2_with fail
  go_region
  clear p0 p1 p2 p3 p4 p5 p6 p7 q1 q2 s6 hs4
  go_wp2_with fail
  refine (HLg.out _ (by (repeat (first | with_reducible (first | assumption | exact Below.refl _ _ | refine bel_alloc ?_ _ | refine bel_drew ?_ | refine bel_drewN ?_ _ | refine bel_set ?_ (by first | omega | (simp; done) | (simp; omega)) _ | refine bel_trans ?_ (by assumption)) | assumption | refine bel_trans ?_ (by assumption))))).mono ?_
  rintro e w2 ⟨rfl, hb2⟩
  have b2 : Below w.heap.size w w2 := by (repeat (first | with_reducible (first | assumption | exact Below.refl _ _ | refine bel_alloc ?_ _ | refine bel_drew ?_ | refine bel_drewN ?_ _ | refine bel_set ?_ (by first | omega | (simp; done) | (simp; omega)) _ | refine bel_trans ?_ (by assumption)) | assumption | refine bel_trans ?_ (by assumption)))
  have HB2 := hid (HB0.out.drew.on hb2)
  have HH := hid (H.out.on b2)
  clear hb2 HLg t0 t1 HB0 H
  obtain ⟨t0, t1⟩ := HB2.out.cells2
  have hz2 : L ≤ w2.heap.size := by have := b2.size; omega
  have hc0 : 0 ≤ k.c := by omega
  have hzf := HH.out.bx.lt
  have hzp : w.heap.size < w2.heap.size := HB2.out.lt
  have hbase := HK.out.base0
  cases hf : fnd k.c Q (wd k.c Q (a : Int) ++ [byt (x : Int)]) with
  | some s =>
    have e1 : R = some (N s) := by rw [HR.out, ndAt, hf]; rfl
    subst e1
    rw [ptr_some]
    have HN1 := hid (HH.out.dup1 (p := ((a : Int), (x : Int))) hc0 hf)
    have bW : Below L w w2 := b2.mono hL
    have cW : Calm w w2 := Calm.of b2
    have hzW : L ≤ w2.heap.size := hz2
    have hn1 : n ≤ j + 1 := by omega
    clear hf HR
    obtain ⟨p0, p1, p2, p3, p4, p5, p6, p7⟩ := HN1.out.bx.cells8
    go_wp2_with (at_builtin; go_loud (refine app_ptr rfl (.tmp 65) (.tmp 67) 143 rfl L 186 Try.underlying143 Try.info_ptr _ (top k.c Q) (nodesL k.c Q N) rfl HN1.out.nds (some ⟨N s, 0, none⟩) 1 rfl (by omega) hzW ?_; intro v7 w7 hown7 hb7 hg7; obtain ⟨g7, c7, rfl, hga, hgb⟩ := own_form hown7 (by omega); have f7 := (HN1.out.bx7 hg7).frozen 6; have q7 := (HN1.out.bx7 hg7).cell 6))
    go_end0
    exact ⟨rfl, (bW.trans hb7).setCell HH.out.lb _, (cW.trans (HN1.out.calm7 hg7)).trans (Calm.set_ (HN1.out.bx7 hg7) (by decide) 6 _), g7, c7, N, Lo, n, hn1, HN1.out.done hown7 hg7⟩
  | none =>
    have e1 : R = none := by rw [HR.out, ndAt, hf]; rfl
    subst e1
    rw [ptr_none]
    have HF := hid hf
    clear hf HR
    obtain ⟨p0, p1, p2, p3, p4, p5, p6, p7⟩ := HH.out.bx.cells8
    have hal := bel_alloc (Below.refl _ w2) (.cells #[.int .i64 ((top k.c Q : Nat) : Int), .pointer none] 189)
    have H4 := hid (HH.out.on hal)
    have HG := hid (Blk.new w2 189 #[.int .i64 ((top k.c Q : Nat) : Int), .pointer none])
    have hz4 : w2.heap.size < (w2.alloc (.cells #[.int .i64 ((top k.c Q : Nat) : Int), .pointer none] 189)).heap.size := HG.out.lt
    obtain ⟨u0, u1, u2, u3, u4, u5, u6, u7⟩ := H4.out.bx.cells8
    obtain ⟨v0, v1⟩ := (HB2.out.on hal).cells2
    by_cases hm : (j : Int) < k.base
    · skip
      have hm2 : Q.length < k.base.toNat := by have := HQl.out; omega
      cases hl : Lo r0 with
      | some g0 =>
        have HKp := hid (fun (v : World) (hb : Below w2.heap.size w2 v) => by
          obtain ⟨_, cs, hB, hcs, _⟩ := HH.out.fd.arr r0 g0 H2.out hl
          have hN := HH.out.fd.node r0 H2.out
          rw [hl] at hN
          exact c_keep_some (N r0) g0 r0 x w2.heap.size cs v (hN.on hb) (hB.on hb) hcs hxl)
        have hg0 : L ≤ g0 := (HH.out.fd.arr r0 g0 H2.out hl).1
        have HL := hid hl
        clear hl
        go_wp2_with fail
        refine (HKp.out _ (by (repeat (first | with_reducible (first | assumption | exact Below.refl _ _ | refine bel_alloc ?_ _ | refine bel_drew ?_ | refine bel_drewN ?_ _ | refine bel_set ?_ (by first | omega | (simp; done) | (simp; omega)) _ | refine bel_trans ?_ (by assumption)) | assumption | refine bel_trans ?_ (by assumption))))).mono ?_
        rintro e w5 ⟨rfl, hw5⟩
        have HN1 := hid (show Near1 L fb k (some ⟨G, 0, none⟩) cap nb cap2 Q ((a : Int), (x : Int)) N (addN N (top k.c Q) w2.heap.size) (fun r => if r = top k.c Q then none else Lo r) bm n w2.heap.size w5 by
          rw [hw5]; exact H4.out.keep1 hc0 HQ.out HF.out H1.out rfl hxl hm2 HG.out hz2 HL.out)
        have bW : Below L w w5 := by
          rw [hw5]; exact ((b2.mono hL).trans (hal.mono hz2)).setCell hg0 _
        have cW : Calm w w5 := by
          obtain ⟨_, cs, hB, _, _⟩ := H4.out.fd.arr r0 g0 H2.out HL.out
          rw [hw5]; exact ((Calm.of b2).trans (Calm.of hal)).trans (Calm.set_ hB (by decide) x _)
        have hzW : L ≤ w5.heap.size := Nat.le_trans hL bW.size
        have hn1 : n ≤ j + 1 := by omega
        clear hw5 p0 p1 p2 p3 p4 p5 p6 p7 u0 u1 u2 u3 u4 u5 u6 u7 v0 v1 t0 t1 hm hm2
        obtain ⟨p0, p1, p2, p3, p4, p5, p6, p7⟩ := HN1.out.bx.cells8
        go_wp2_with (at_builtin; go_loud (refine app_ptr rfl (.tmp 65) (.tmp 67) 143 rfl L 186 Try.underlying143 Try.info_ptr _ (top k.c Q) (nodesL k.c Q N) rfl HN1.out.nds (some ⟨w2.heap.size, 0, none⟩) 1 rfl (by omega) hzW ?_; intro v7 w7 hown7 hb7 hg7; obtain ⟨g7, c7, rfl, hga, hgb⟩ := own_form hown7 (by omega); have f7 := (HN1.out.bx7 hg7).frozen 6; have q7 := (HN1.out.bx7 hg7).cell 6))
        go_end0
        exact ⟨rfl, (bW.trans hb7).setCell HH.out.lb _, (cW.trans (HN1.out.calm7 hg7)).trans (Calm.set_ (HN1.out.bx7 hg7) (by decide) 6 _), g7, c7, (addN N (top k.c Q) w2.heap.size), (fun r => if r = top k.c Q then none else Lo r), n, hn1, HN1.out.done hown7 hg7⟩
      | none =>
        have HKp := hid (fun (v : World) (hb : Below w2.heap.size w2 v) => by
          have hN := HH.out.fd.node r0 H2.out
          rw [hl] at hN
          exact c_keep_none (N r0) r0 x w2.heap.size v (hN.on hb) hxl)
        have hg0 : L ≤ N r0 := HH.out.fd.ge r0 H2.out
        have HL := hid hl
        clear hl
        go_wp2_with fail
        refine (HKp.out _ (by (repeat (first | with_reducible (first | assumption | exact Below.refl _ _ | refine bel_alloc ?_ _ | refine bel_drew ?_ | refine bel_drewN ?_ _ | refine bel_set ?_ (by first | omega | (simp; done) | (simp; omega)) _ | refine bel_trans ?_ (by assumption)) | assumption | refine bel_trans ?_ (by assumption))))).mono ?_
        rintro e w5 ⟨rfl, hw5⟩
        obtain ⟨Lo5, HN1⟩ : ∃ Lo5, Hid (Near1 L fb k (some ⟨G, 0, none⟩) cap nb cap2 Q ((a : Int), (x : Int)) N (addN N (top k.c Q) w2.heap.size) Lo5 bm n w2.heap.size w5) := ⟨_, hid (by
          rw [hw5]; exact H4.out.keep0 hc0 HQ.out HF.out H1.out rfl hxl hm2 (by omega) HG.out hz2 HL.out)⟩
        have bW : Below L w w5 := by
          rw [hw5]; exact (((b2.mono hL).trans (hal.mono hz2)).setCell hg0 _).alloc (by simp [World.setCell]; omega) _
        have cW : Calm w w5 := by
          rw [hw5]; exact (((Calm.of b2).trans (Calm.of hal)).trans (Calm.set_ (H4.out.fd.node r0 H2.out) (by decide) 1 _)).trans (Calm.of (bel_alloc (Below.refl _ _) _))
        have hzW : L ≤ w5.heap.size := Nat.le_trans hL bW.size
        have hn1 : n ≤ j + 1 := by omega
        clear hw5 p0 p1 p2 p3 p4 p5 p6 p7 u0 u1 u2 u3 u4 u5 u6 u7 v0 v1 t0 t1 hm hm2
        obtain ⟨p0, p1, p2, p3, p4, p5, p6, p7⟩ := HN1.out.bx.cells8
        go_wp2_with (at_builtin; go_loud (refine app_ptr rfl (.tmp 65) (.tmp 67) 143 rfl L 186 Try.underlying143 Try.info_ptr _ (top k.c Q) (nodesL k.c Q N) rfl HN1.out.nds (some ⟨w2.heap.size, 0, none⟩) 1 rfl (by omega) hzW ?_; intro v7 w7 hown7 hb7 hg7; obtain ⟨g7, c7, rfl, hga, hgb⟩ := own_form hown7 (by omega); have f7 := (HN1.out.bx7 hg7).frozen 6; have q7 := (HN1.out.bx7 hg7).cell 6))
        go_end0
        exact ⟨rfl, (bW.trans hb7).setCell HH.out.lb _, (cW.trans (HN1.out.calm7 hg7)).trans (Calm.set_ (HN1.out.bx7 hg7) (by decide) 6 _), g7, c7, (addN N (top k.c Q) w2.heap.size), Lo5, n, hn1, HN1.out.done hown7 hg7⟩
    · skip
      have hm2 : k.base.toNat ≤ Q.length := by have := HQl.out; omega
      have HN4 := hid (H4.out.fd.node r0 H2.out)
      obtain ⟨y0, y1⟩ := HN4.out.cells2
      obtain ⟨w5, hrun, hM, hg5⟩ := H4.out.fd.mp.drew.store (by omega) hrl (show 0 ≤ (x : Int) ∧ (x : Int) ≤ 255 by omega) w2.heap.size
      have HM := hid hM
      have HG5 := hid hg5
      clear hM hg5
      go_wp2_with fail
      go_region
      all_goals
        have HN1 := hid (show Near1 L fb k (some ⟨G, 0, none⟩) cap nb cap2 Q ((a : Int), (x : Int)) N (addN N (top k.c Q) w2.heap.size) (fun r => if r = top k.c Q then none else Lo r) bm (n + 1) w2.heap.size w5 from
          FQ.learn1 (H4.out.on (bel_drew (Below.refl _ _))) hc0 HQ.out HF.out H1.out (by omega) hm2 HG.out.drew hz2 HM.out HG5.out)
        have bW : Below L w w5 := (((b2.mono hL).trans (hal.mono hz2)).drew).trans (below_of_grown HG5.out (by simp; omega) (fun g e => by obtain rfl := Option.some.inj e; exact HH.out.fd.mge))
        have cW : Calm w w5 := ((Calm.of b2).trans (Calm.of hal)).drew.trans (Calm.grown HG5.out (fun g e => Or.inr (by obtain rfl := Option.some.inj e; exact H4.out.fd.mp.obj)))
        have hzW : L ≤ w5.heap.size := Nat.le_trans hL bW.size
        have hn1 : n + 1 ≤ j + 1 := by omega
        clear hrun p0 p1 p2 p3 p4 p5 p6 p7 u0 u1 u2 u3 u4 u5 u6 u7 v0 v1 t0 t1 y0 y1 hm hm2
        obtain ⟨p0, p1, p2, p3, p4, p5, p6, p7⟩ := HN1.out.bx.cells8
        go_wp2_with (at_builtin; go_loud (refine app_ptr rfl (.tmp 65) (.tmp 67) 143 rfl L 186 Try.underlying143 Try.info_ptr _ (top k.c Q) (nodesL k.c Q N) rfl HN1.out.nds (some ⟨w2.heap.size, 0, none⟩) 1 rfl (by omega) hzW ?_; intro v7 w7 hown7 hb7 hg7; obtain ⟨g7, c7, rfl, hga, hgb⟩ := own_form hown7 (by omega); have f7 := (HN1.out.bx7 hg7).frozen 6; have q7 := (HN1.out.bx7 hg7).cell 6))
        go_end0
        exact ⟨rfl, (bW.trans hb7).setCell HH.out.lb _, (cW.trans (HN1.out.calm7 hg7)).trans (Calm.set_ (HN1.out.bx7 hg7) (by decide) 6 _), g7, c7, (addN N (top k.c Q) w2.heap.size), (fun r => if r = top k.c Q then none else Lo r), (n + 1), hn1, HN1.out.done hown7 hg7⟩
end Go.Proofs.Ytblmifbpoopbdaa
