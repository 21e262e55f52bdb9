/- The contract of the finder's follow. No condition but that what is known is valid. -/
import Derived.Test.YtblmifbpoopbdaaNt
import Derived.Test.YtblmifbpoopbdaaBg
namespace Go.Proofs.Ytblmifbpoopbdaa
open Go.ChangeShapes Go.WideShapes Go.ChangeAt Go.RowKit Go.Joins
set_option linter.unusedVariables false

theorem own1_cut {w : World} {B : Nat} {e : TypeId} {A : Option Addr} {n cap : Nat} {xs : List Value} (h : w.ownsRow B e 1 (.slice A n cap) n xs) (m : Nat) (hm : m ≤ n) : w.ownsRow B e 1 (.slice A m cap) m (xs.take m) := by
  have hl := h.1
  refine ⟨by rw [List.length_take]; omega, ?_⟩
  rcases h.2 with ⟨e1, h0⟩ | ⟨g, cap', cur, e1, hb, hh, hnc, hcm, hsz, htk⟩
  · left
    simp at e1
    obtain ⟨rfl, _, rfl⟩ := e1
    have : m = 0 := by omega
    subst this
    exact ⟨rfl, rfl⟩
  · right
    simp at e1
    obtain ⟨rfl, rfl⟩ := e1
    refine ⟨g, cap, cur, rfl, hb, hh, by omega, hcm, hsz, ?_⟩
    rw [← htk, List.take_take]
    congr 1; omega
theorem own_cap {w : World} {B : Nat} {e : TypeId} {A : Option Addr} {size n cap : Nat} {xs : List Value} (h : w.ownsRow B e size (.slice A n cap) n xs) : n ≤ cap := by
  rcases h.2 with ⟨e1, h0⟩ | ⟨g, cap', cur, e1, hb, hh, hnc, hcm, hsz, htk⟩
  · simp at e1
    omega
  · simp at e1
    obtain ⟨rfl, rfl⟩ := e1
    exact hnc
/-- 'clear(m)' at the operation -/
theorem wpList_clear {P : Program} {w : World} {ops : Array Oper} {rest : List Oper} {o : Oper} {a : Act} {Q : Exit → Act → World → Prop} (hg : o.guard = none) (m : Operand) (t : TypeId)
    (ho : o.op = .call { callee := .builtin .clear, args := #[m], argTypes := #[t] }) (v : Value) (hm : a.eval m = v) (w' : World) (hrun : ∀ ty, (Builtin.clear_ #[t] ty #[v]).run P w = .ok (.tuple #[]) w') (hK : wpList P ops Q rest (a.put o.dst (.tuple #[])) w') : wpList P ops Q (o :: rest) a w := by
  refine wpList_plain hg fun K' hK' => ?_
  unfold Oper.wp
  simp [execOp, ho, resolve, invoke, builtin, hm, hrun, Result.andThen]
  exact hK' _ _ hK
section
variable {L fb : Nat} {k k' : Kn} {c : Int} {A A' : Option Addr} {cap cap' nb cap2 : Nat} {Q : List Pr} {m : Nat} {N : Nat → Nat} {Lo : Nat → Option Nat} {bm n b : Nat} {w w' : World} {row : Option Nat}
theorem Fd.near (h : Fd L c Q m N Lo bm n w) (hn : Near w w' b row) {cs : Array Value} (hb : Blk w b 146 cs) (hr : ∀ g, row = some g → ∃ cs, w.heap[g]? = some (.cells cs 182 (0, 0))) : Fd L c Q m N Lo bm n w' := by
  have hrow : ∀ {g : Nat} {t : TypeId} {cs : Array Value}, Blk w g t cs → t ≠ 182 → some g ≠ row := fun {g t cs} h1 h2 e => by
    obtain ⟨cs2, h3⟩ := hr g e.symm
    have := h1.symm.trans h3
    simp at this
    exact h2 this.2
  have key : ∀ {g : Nat} {t : TypeId} {cs : Array Value}, Blk w g t cs → t ≠ 146 → t ≠ 182 → Blk w' g t cs := fun {g t cs} h1 h2 h3 => (hn.block g h1.lt (h1.ne_type hb h2) (hrow h1 h3)).trans h1
  refine ⟨fun r hr => key (h.node r hr) (by decide) (by decide), h.ge, fun r g hr hl => ?_, h.bare, h.one, h.mp.only (S := fun g => g = b ∨ some g = row) ⟨hn.os, hn.tape, hn.output, hn.size, fun g hg hs => hn.block g hg (fun e => hs (Or.inl e)) (fun e => hs (Or.inr e))⟩ (fun hs => ?_), h.mge⟩
  · obtain ⟨h1, cs, h2, h3, h4⟩ := h.arr r g hr hl
    exact ⟨h1, cs, key h2 (by decide) (by decide), h3, h4⟩
  · rcases hs with e | e
    · exact hb.ne_map h.mp e.symm
    · obtain ⟨cs2, h3⟩ := hr bm e.symm
      obtain ⟨es, cl, h4⟩ := h.mp.obj
      rw [h3] at h4
      cases h4
theorem FQ.known (h : FQ L fb k A cap nb cap2 Q N Lo bm n w) (hl : k'.l = k.l) (hbs : k'.base = k.base)
    (hbx : Blk w' fb 146 #[.int .i64 k'.o, .int .i64 k'.l, .int .i64 k'.m, .slice A' k'.ps.length cap', .int .i64 k'.base, .int .i64 k'.last, .slice (some ⟨nb, 0, none⟩) (top k.c Q) cap2, .map (some bm)])
    (hrow : w'.ownsRow L 182 2 (.slice A' k'.ps.length cap') k'.ps.length (prs k'.ps)) (hn : Near w w' fb (Value.slice A k.ps.length cap).ownBlock) : FQ L fb k' A' cap' nb cap2 Q N Lo bm n w' := by
  have e : k'.c = k.c := by unfold Kn.c; rw [hl]
  refine ⟨by rw [e]; exact hbx, hrow, ?_, ?_, h.lb⟩
  · rw [e]; exact own_near h.nds hn (own_apart_blk h.nds h.bx (by decide)) (own_apart h.nds h.row (by decide))
  · rw [e, hbs]; exact h.fd.near hn h.bx (fun g hg => own_elem h.row g hg)
theorem FQ.near_below (h : FQ L fb k A cap nb cap2 Q N Lo bm n w) (hn : Near w w' fb (Value.slice A k.ps.length cap).ownBlock) (hL : L ≤ w.heap.size) : Below L w w' := hn.below h.lb (fun g hg => (h.row.lt g hg).1) hL
theorem FQ.near_calm (h : FQ L fb k A cap nb cap2 Q N Lo bm n w) (hn : Near w w' fb (Value.slice A k.ps.length cap).ownBlock) : Calm w w' := fun g t cs hb ht => (hn.block g hb.lt (hb.ne_type h.bx (fun e => ht (by rw [e]; decide))) (fun e => by
  obtain ⟨cs2, h3⟩ := own_elem h.row g e.symm
  have := hb.symm.trans h3
  simp at this
  exact ht (by rw [this.2]; decide))).trans hb
theorem FQ.ne_fb (h : FQ L fb k A cap nb cap2 Q N Lo bm n w) : ∀ g, A = some ⟨g, 0, none⟩ → g ≠ fb := by
  rintro g rfl rfl
  rcases own_apart_blk h.row h.bx (by decide) with h1 | h1 <;> simp [Value.ownBlock] at h1
/-- the tables behind a clear code -/
theorem Fd.clear (h : Fd L c Q m N Lo bm n w) (hm : m ≤ Q.length) (hM : MapIs w' bm 0 (fun _ _ => none)) (hg : w.grownBy w' (some bm)) : Fd L c (Q.take m) m N Lo bm 0 w' := by
  have e : (Q.take m).take m = Q.take m := by rw [List.take_take]; simp
  refine ⟨fun r hr => (h.node r (lst_take hr).1).grown hg (fun e => (h.node r (lst_take hr).1).ne_map h.mp (Option.some.inj e)), fun r hr => h.ge r (lst_take hr).1, fun r g hr hl => ?_, fun r hr hl x hx => ?_, fun r r' g hr hr' => h.one r r' g (lst_take hr).1 (lst_take hr').1, hM.same (fun r x _ _ => inMap_kept (by rw [List.length_take]; omega) N r x), h.mge⟩
  · obtain ⟨h1, cs, h2, h3, h4⟩ := h.arr r g (lst_take hr).1 hl
    refine ⟨h1, cs, h2.grown hg (fun e => h2.ne_map h.mp (Option.some.inj e)), h3, fun x hx => ?_⟩
    rw [e, ← (lst_take hr).2]
    exact h4 x hx
  · rw [e, ← (lst_take hr).2]
    exact h.bare r (lst_take hr).1 hl x hx
/-- ahead of the cut of the nodes -/
structure FCut (L fb : Nat) (k : Kn) (A : Option Addr) (cap nb cap2 : Nat) (Q : List Pr) (N : Nat → Nat) (Lo : Nat → Option Nat) (bm : Nat) (wr : World) : Prop where
  bx : Blk wr fb 146 #[.int .i64 k.o, .int .i64 k.l, .int .i64 k.m, .slice A k.ps.length cap, .int .i64 k.base, .int .i64 k.last, .slice (some ⟨nb, 0, none⟩) (top k.c Q) cap2, .map (some bm)]
  row : wr.ownsRow L 182 2 (.slice A k.ps.length cap) k.ps.length (prs k.ps)
  nds : wr.ownsRow L 186 1 (.slice (some ⟨nb, 0, none⟩) (top k.c Q) cap2) (top k.c Q) (nodesL k.c Q N)
  fd : Fd L k.c (Q.take k.base.toNat) k.base.toNat N Lo bm 0 wr
  lb : L ≤ fb
theorem FQ.cut (h : FQ L fb k A cap nb cap2 Q N Lo bm n w) (hm : k.base.toNat ≤ Q.length) (hM : MapIs w' bm 0 (fun _ _ => none)) (hg : w.grownBy w' (some bm)) : FCut L fb k A cap nb cap2 Q N Lo bm w' :=
  ⟨h.bx.grown hg (fun e => h.bx.ne_map h.fd.mp (Option.some.inj e)), h.row.kept hg (own_ne_map h.row h.fd.mp), h.nds.kept hg (own_ne_map h.nds h.fd.mp), h.fd.clear hm hM hg, h.lb⟩
theorem FCut.on (h : FCut L fb k A cap nb cap2 Q N Lo bm w) (hb : Below w.heap.size w w') : FCut L fb k A cap nb cap2 Q N Lo bm w' := ⟨h.bx.on hb, own_on h.row hb, own_on h.nds hb, h.fd.on hb, h.lb⟩
theorem FCut.kat (h : FCut L fb k A cap nb cap2 Q N Lo bm w) : KAt w fb k (.slice A k.ps.length cap) := by
  obtain ⟨p0, p1, p2, p3, p4, p5, _⟩ := h.bx.cells8
  exact ⟨h.bx.lt, p0, p1, p2, p3, p4, p5⟩
theorem FCut.t7 (h : FCut L fb k A cap nb cap2 Q N Lo bm w) : w.cell? ⟨fb, 7, none⟩ = some (.map (some bm)) ∧ True := ⟨h.bx.cell 7, trivial⟩
theorem FCut.done (h : FCut L fb k A cap nb cap2 Q N Lo bm w) (hc : 0 ≤ k.c) (hm : k.base.toNat ≤ Q.length) {M : Nat} (hM : M = k.c.toNat + 2 + k.base.toNat) : FQ L fb k A cap nb cap2 (Q.take k.base.toNat) N Lo bm 0 (w.setCell ⟨fb, 6, none⟩ (.slice (some ⟨nb, 0, none⟩) M cap2)) := by
  have e : top k.c (Q.take k.base.toNat) = M := by rw [hM]; exact top_take hm
  have hle : M ≤ top k.c Q := by rw [hM]; unfold top; omega
  refine ⟨by rw [e]; exact h.bx.set_ 6 _, own_store_blk h.row h.bx (by decide) 6 _, ?_, h.fd.away (e := 146) (grown_set (grown_refl w (some fb)) 6 _) (fun b e => by obtain rfl := Option.some.inj e; exact ⟨_, h.bx⟩) (by decide) (by decide), h.lb⟩
  rw [e, nodesL_take hc hm, ← hM]
  exact own_store_blk (own1_cut h.nds M hle) h.bx (by decide) 6 _
end
theorem after_take (k : Kn) (code : Int) : (k.after code).ps.take k.ps.length = k.ps := by
  unfold Kn.after
  split
  · simp
  · simp
theorem after_len (k : Kn) (code : Int) : k.ps.length ≤ (k.after code).ps.length := by
  unfold Kn.after
  split <;> simp

set_option maxHeartbeats 4000000 in
set_option maxRecDepth 100000 in
theorem c_ffollow_code (L fb : Nat) (k : Kn) (A : Option Addr) (cap nb cap2 : Nat) (N : Nat → Nat) (Lo : Nat → Option Nat) (bm n : Nat) (w : World) (hk : k.Ok) (hL : L ≤ w.heap.size) (hn : n ≤ k.ps.length) (h : FQ L fb k A cap nb cap2 k.ps N Lo bm n w) (code : Int) (hc : k.Fol code) :
    Calls Try.prog 133 #[.pointer (some ⟨fb, 0, none⟩), .int .i64 code] w fun e w' => e = .returned (.tuple #[]) ∧ Below L w w' ∧ Calm w w' ∧ ∃ A' cap' nb' cap2' N' Lo' n', n' ≤ (k.after code).ps.length ∧ FQ L fb (k.after code) A' cap' nb' cap2' (k.after code).ps N' Lo' bm n' w' := by
  have hfi := (hk.fol_iff code).1 hc
  have hne2 : (code == pow2 k.l) = false := by rw [beq_eq_false_iff_ne]; exact hfi.2.2.1
  have hak := hk.after hc
  have hset := hk.set
  have HCl := hid (fun (v : World) => c_ClearCode_yes k.o k.l k.m v hset)
  have HKf := hid (c_follow_code fb L 146 _ k A cap w hk h.bx h.kat (own_ps_at h.row) h.row hL h.ne_fb (by decide) code hc)
  have HCu := hid (fun (A' : Option Addr) (cap' : Nat) (v : World) (hLv : L ≤ v.heap.size) (hF : FQ L fb (k.after code) A' cap' nb cap2 k.ps N Lo bm n v) => c_catchUp L fb (k.after code) A' cap' nb cap2 N Lo bm n k.ps.length v hak (after_len k code) hLv hn (by rw [after_take]; exact hF))
  have H := hid h
  obtain ⟨p0, p1, p2, p3, p4, p5, p6, p7⟩ := h.bx.cells8
  clear h hk hc hfi hak hset
  go_enter Try.func133, Try.ntmps133
  go_wp2_with fail
  refine HKf.out.mono ?_
  rintro e w1 ⟨rfl, A', cap', hbx, hown, hnear⟩
  have HF1 := hid (show FQ L fb (k.after code) A' cap' nb cap2 k.ps N Lo bm n w1 from H.out.known rfl rfl hbx hown hnear)
  have bW : Below L w w1 := H.out.near_below hnear hL
  have cW : Calm w w1 := H.out.near_calm hnear
  have hL1 : L ≤ w1.heap.size := Nat.le_trans hL bW.size
  clear hbx hown hnear p0 p1 p2 p3 p4 p5 p6 p7 HKf
  obtain ⟨p0, p1, p2, p3, p4, p5, p6, p7⟩ := HF1.out.bx.cells8
  have e0 : w1.cell? ⟨fb, 0, none⟩ = some (.int .i64 k.o) := p0
  have e1 : w1.cell? ⟨fb, 1, none⟩ = some (.int .i64 k.l) := p1
  have e2 : w1.cell? ⟨fb, 2, none⟩ = some (.int .i64 k.m) := p2
  clear p0 p1 p2 p3 p4 p5 p6 p7
  go_wp2_with fail
  refine (HCl.out _).mono ?_
  rintro e w2 ⟨rfl, hb2⟩
  have HF2 := hid (HF1.out.on hb2)
  have bW2 : Below L w w2 := bW.trans (hb2.mono hL1)
  have cW2 : Calm w w2 := cW.trans (Calm.of hb2)
  go_wp2_with fail
  refine (HCu.out _ _ _ (Nat.le_trans hL bW2.size) HF2.out).mono ?_
  rintro e w3 ⟨rfl, hb3, hc3, nb', cap2', N', Lo', n', hn', hF'⟩
  have HF' := hid hF'
  clear hF'
  go_wp2
  go_end0
  exact ⟨rfl, bW2.trans hb3, cW2.trans hc3, A', cap', nb', cap2', N', Lo', n', hn', HF'.out⟩

set_option maxHeartbeats 4000000 in
set_option maxRecDepth 100000 in
theorem c_ffollow_clear (L fb : Nat) (k : Kn) (A : Option Addr) (cap nb cap2 : Nat) (N : Nat → Nat) (Lo : Nat → Option Nat) (bm n : Nat) (w : World) (hk : k.Ok) (hL : L ≤ w.heap.size) (h : FQ L fb k A cap nb cap2 k.ps N Lo bm n w) :
    Calls Try.prog 133 #[.pointer (some ⟨fb, 0, none⟩), .int .i64 (pow2 k.l)] w fun e w' => e = .returned (.tuple #[]) ∧ Below L w w' ∧ Calm w w' ∧ ∃ A' cap' nb' cap2' N' Lo' n', n' ≤ k.cleared.ps.length ∧ FQ L fb k.cleared A' cap' nb' cap2' k.cleared.ps N' Lo' bm n' w' := by
  have hcb := hk.cbd
  have hb0 := hk.base0
  have hb1 := hk.base1
  have hck := hk.cleared
  have hset := hk.set
  have hlen := hk.len
  have hbl : k.base.toNat ≤ k.ps.length := by omega
  have hcl : k.cleared.ps.length = k.base.toNat := by simp only [Kn.cleared, List.length_take]; omega
  have HCl := hid (fun (v : World) => c_ClearCode_yes k.o k.l k.m v hset)
  have HKf := hid (c_follow_clear fb L 146 _ k A cap w hk h.bx h.kat (own_ps_at h.row) h.row h.ne_fb)
  have HNx := hid (fun (A' : Option Addr) (cap' : Nat) (v : World) (hv : KAt v fb k.cleared (.slice A' k.cleared.ps.length cap')) => c_nextWord fb k.cleared A' cap' v hck hv)
  obtain ⟨M, hM⟩ : ∃ M : Nat, M = k.c.toNat + 2 + k.base.toNat := ⟨_, rfl⟩
  have enx : k.cleared.next = (M : Int) := by
    unfold Kn.next
    rw [hcl, hM]
    have e : k.cleared.c = k.c := rfl
    rw [e]; omega
  simp only [enx] at HNx
  have HCu := hid (fun (A' : Option Addr) (cap' : Nat) (v : World) (hLv : L ≤ v.heap.size) (hF : FQ L fb k.cleared A' cap' nb cap2 (k.ps.take k.base.toNat) N Lo bm 0 v) => c_catchUp L fb k.cleared A' cap' nb cap2 N Lo bm 0 k.cleared.ps.length v hck (Nat.le_refl _) hLv (Nat.zero_le _) (by rw [List.take_length]; exact hF))
  have hMc : (M : Int) ≤ (cap2 : Int) := by
    have h1 := own_cap h.nds
    have h2 : M ≤ top k.c k.ps := by rw [hM]; unfold top; omega
    omega
  have hMc2 : M ≤ cap2 := by omega
  have HM := hid hM
  have H := hid h
  have Hbl := hid hbl
  have hc0 : 0 ≤ k.c := by omega
  obtain ⟨p0, p1, p2, p3, p4, p5, p6, p7⟩ := h.bx.cells8
  clear h hk hck hset hM enx hcl hbl
  go_enter Try.func133, Try.ntmps133
  go_wp2_with fail
  refine HKf.out.mono ?_
  rintro e w1 ⟨rfl, A', cap', hbx, hown, hnear⟩
  have HF1 := hid (show FQ L fb k.cleared A' cap' nb cap2 k.ps N Lo bm n w1 from H.out.known rfl rfl hbx hown hnear)
  have bW : Below L w w1 := H.out.near_below hnear hL
  have cW : Calm w w1 := H.out.near_calm hnear
  have hL1 : L ≤ w1.heap.size := Nat.le_trans hL bW.size
  clear hbx hown hnear p0 p1 p2 p3 p4 p5 p6 p7 HKf
  obtain ⟨p0, p1, p2, p3, p4, p5, p6, p7⟩ := HF1.out.bx.cells8
  have e0 : w1.cell? ⟨fb, 0, none⟩ = some (.int .i64 k.o) := p0
  have e1 : w1.cell? ⟨fb, 1, none⟩ = some (.int .i64 k.l) := p1
  have e2 : w1.cell? ⟨fb, 2, none⟩ = some (.int .i64 k.m) := p2
  clear p0 p1 p2 p3 p4 p5 p6 p7
  go_wp2_with fail
  refine (HCl.out _).mono ?_
  rintro e w2 ⟨rfl, hb2⟩
  have HF2 := hid (HF1.out.on hb2)
  have bW2 : Below L w w2 := bW.trans (hb2.mono hL1)
  have cW2 : Calm w w2 := cW.trans (Calm.of hb2)
  have q7 := HF2.out.bx.cell 7
  have q7' : w2.cell? ⟨fb, 7, none⟩ = some (.map (some bm)) := q7
  clear q7 e0 e1 e2
  obtain ⟨w3, hrun, hMp, hg3⟩ := HF2.out.fd.mp.clear
  have HC3 := hid (show FCut L fb k.cleared A' cap' nb cap2 k.ps N Lo bm w3 from HF2.out.cut Hbl.out hMp hg3)
  have bW3 : Below L w w3 := bW2.trans (below_of_grown hg3 (Nat.le_trans hL bW2.size) (fun g e => by obtain rfl := Option.some.inj e; exact H.out.fd.mge))
  have cW3 : Calm w w3 := cW2.trans (Calm.grown hg3 (fun g e => Or.inr (by obtain rfl := Option.some.inj e; exact HF2.out.fd.mp.obj)))
  clear hMp hg3
  go_wp2_with (at_builtin; go_loud (refine wpList_clear rfl _ _ rfl _ rfl w3 hrun ?_))
  have c6 := HC3.out.bx.cell 6
  have c6' : w3.cell? ⟨fb, 6, none⟩ = some (.slice (some ⟨nb, 0, none⟩) (top k.c k.ps) cap2) := c6
  have f6 := HC3.out.bx.frozen 6
  have hS := HC3.out.t7
  clear c6
  replace HC3 := hid (HC3.out.on (bel_drew (Below.refl _ _)))
  replace bW3 := bW3.drew
  replace cW3 := cW3.drew
  refine wp_region_noPanic ?_
  refine wp_region_held_drew (S := (fun v => v.cell? ⟨fb, 7, none⟩ = some (.map (some bm)) ∧ True)) (by kernel_rfl) (t1_drew hS) (fun hHeld => ?_)
  refine tk 0 ?_
  refine tk 1 ?_
  refine tk 2 ?_
  refine tk 3 ?_
  refine tk 5 ?_
  refine tk 6 ?_
  refine tk 7 ?_
  refine wpAnyH_ready (rs := [4, 8]) (by kernel_rfl) (by simp) ?_
  refine AllReadyH.cons (o := ?or1_4) ?ir1_4 (fun K hK => ?sr1_4) (AllReadyH.cons (o := ?or1_8) ?ir1_8 (fun K hK => ?sr1_8) AllReadyH.nil)
  case ir1_4 => (simp only [List.getElem?_toArray, List.getElem?_cons_succ, List.getElem?_cons_zero]; rfl)
  case ir1_8 => (simp only [List.getElem?_toArray, List.getElem?_cons_succ, List.getElem?_cons_zero]; rfl)
  case' sr1_4 =>
    ((obtain ⟨_, _, _, _, _, _, c6, _⟩ := HC3.out.bx.cells8; go_simp))
    refine hK.out _ _ ?kr1_4 (fun hHeld => ?_)
    case kr1_4 => (try dsimp only); (first | with_reducible assumption | with_reducible exact HQ.out.t7 | with_reducible exact HC3.out.t7 | exact t1_bel (by assumption) (by assumption) | assumption | exact t1_alloc (by assumption) _ | exact HQ.out.t7 | exact HC3.out.t7)
    clear hK K
    try simp only [Act.put, List.setIfInBounds_toArray, List.set_cons_zero, List.set_cons_succ]
    refine wpAnyH_ready (rs := [8]) (by kernel_rfl) (by simp) ?_
    refine AllReadyH.cons (o := ?or1b1_8) ?ir1b1_8 (fun K hK => ?sr1b1_8) AllReadyH.nil
    case ir1b1_8 => (simp only [List.getElem?_toArray, List.getElem?_cons_succ, List.getElem?_cons_zero]; rfl)
    (go_simp; (go_at_call 138; refine (HNx.out _ _ _ HC3.out.kat).mono ?_; rintro e wR ⟨rfl, hbR⟩; replace HC3 := hid (HC3.out.on hbR); replace bW3 := bW3.trans (hbR.mono (Nat.le_trans hL bW3.size)); replace cW3 := cW3.trans (Calm.of hbR); clear hbR))
    refine hK.out _ _ ?kr1b1_8 (fun hHeld => ?_)
    case kr1b1_8 => (try dsimp only); (first | with_reducible assumption | with_reducible exact HQ.out.t7 | with_reducible exact HC3.out.t7 | exact t1_bel (by assumption) (by assumption) | assumption | exact t1_alloc (by assumption) _ | exact HQ.out.t7 | exact HC3.out.t7)
    clear hK K
    try simp only [Act.put, List.setIfInBounds_toArray, List.set_cons_zero, List.set_cons_succ]
    refine tk 9 ?_
    refine tk 10 ?_
    refine tk 11 ?_
    refine wpAnyH_ready (rs := [12]) (by kernel_rfl) (by simp) ?_
    refine AllReadyH.cons (o := ?or1b1_12) ?ir1b1_12 (fun K hK => ?sr1b1_12) AllReadyH.nil
    case ir1b1_12 => (simp only [List.getElem?_toArray, List.getElem?_cons_succ, List.getElem?_cons_zero]; rfl)
    ((have f6 := HC3.out.bx.frozen 6; obtain ⟨_, _, _, _, _, _, c6, _⟩ := HC3.out.bx.cells8; go_simp; have HQ := hid (HC3.out.done hc0 Hbl.out HM.out); have bW4 := bW3.setCell (p := ⟨fb, 6, none⟩) HC3.out.lb (.slice (some ⟨nb, 0, none⟩) M cap2); have cW4 := cW3.trans (Calm.set_ HC3.out.bx (by decide) 6 (.slice (some ⟨nb, 0, none⟩) M cap2))))
    refine hK.out _ _ ?kr1b1_12 (fun hHeld => ?_)
    case kr1b1_12 => (try dsimp only); (first | with_reducible assumption | with_reducible exact HQ.out.t7 | with_reducible exact HC3.out.t7 | exact t1_bel (by assumption) (by assumption) | assumption | exact t1_alloc (by assumption) _ | exact HQ.out.t7 | exact HC3.out.t7)
    clear hK K
    try simp only [Act.put, List.setIfInBounds_toArray, List.set_cons_zero, List.set_cons_succ]
    refine wpAnyH_done (by kernel_rfl) ?_ _
    refine NoPanic.normal ?_
  case' sr1_8 =>
    (go_simp; (go_at_call 138; refine (HNx.out _ _ _ HC3.out.kat).mono ?_; rintro e wR ⟨rfl, hbR⟩; replace HC3 := hid (HC3.out.on hbR); replace bW3 := bW3.trans (hbR.mono (Nat.le_trans hL bW3.size)); replace cW3 := cW3.trans (Calm.of hbR); clear hbR))
    refine hK.out _ _ ?kr1_8 (fun hHeld => ?_)
    case kr1_8 => (try dsimp only); (first | with_reducible assumption | with_reducible exact HQ.out.t7 | with_reducible exact HC3.out.t7 | exact t1_bel (by assumption) (by assumption) | assumption | exact t1_alloc (by assumption) _ | exact HQ.out.t7 | exact HC3.out.t7)
    clear hK K
    try simp only [Act.put, List.setIfInBounds_toArray, List.set_cons_zero, List.set_cons_succ]
    refine wpAnyH_ready (rs := [4]) (by kernel_rfl) (by simp) ?_
    refine AllReadyH.cons (o := ?or1b2_4) ?ir1b2_4 (fun K hK => ?sr1b2_4) AllReadyH.nil
    case ir1b2_4 => (simp only [List.getElem?_toArray, List.getElem?_cons_succ, List.getElem?_cons_zero]; rfl)
    ((obtain ⟨_, _, _, _, _, _, c6, _⟩ := HC3.out.bx.cells8; go_simp))
    refine hK.out _ _ ?kr1b2_4 (fun hHeld => ?_)
    case kr1b2_4 => (try dsimp only); (first | with_reducible assumption | with_reducible exact HQ.out.t7 | with_reducible exact HC3.out.t7 | exact t1_bel (by assumption) (by assumption) | assumption | exact t1_alloc (by assumption) _ | exact HQ.out.t7 | exact HC3.out.t7)
    clear hK K
    try simp only [Act.put, List.setIfInBounds_toArray, List.set_cons_zero, List.set_cons_succ]
    refine tk 9 ?_
    refine tk 10 ?_
    refine tk 11 ?_
    refine wpAnyH_ready (rs := [12]) (by kernel_rfl) (by simp) ?_
    refine AllReadyH.cons (o := ?or1b2_12) ?ir1b2_12 (fun K hK => ?sr1b2_12) AllReadyH.nil
    case ir1b2_12 => (simp only [List.getElem?_toArray, List.getElem?_cons_succ, List.getElem?_cons_zero]; rfl)
    ((have f6 := HC3.out.bx.frozen 6; obtain ⟨_, _, _, _, _, _, c6, _⟩ := HC3.out.bx.cells8; go_simp; have HQ := hid (HC3.out.done hc0 Hbl.out HM.out); have bW4 := bW3.setCell (p := ⟨fb, 6, none⟩) HC3.out.lb (.slice (some ⟨nb, 0, none⟩) M cap2); have cW4 := cW3.trans (Calm.set_ HC3.out.bx (by decide) 6 (.slice (some ⟨nb, 0, none⟩) M cap2))))
    refine hK.out _ _ ?kr1b2_12 (fun hHeld => ?_)
    case kr1b2_12 => (try dsimp only); (first | with_reducible assumption | with_reducible exact HQ.out.t7 | with_reducible exact HC3.out.t7 | exact t1_bel (by assumption) (by assumption) | assumption | exact t1_alloc (by assumption) _ | exact HQ.out.t7 | exact HC3.out.t7)
    clear hK K
    try simp only [Act.put, List.setIfInBounds_toArray, List.set_cons_zero, List.set_cons_succ]
    refine wpAnyH_done (by kernel_rfl) ?_ _
    refine NoPanic.normal ?_
  all_goals
    go_wp2_with fail
    refine (HCu.out _ _ _ (Nat.le_trans hL bW4.size) HQ.out).mono ?_
    rintro e w5 ⟨rfl, hb5, hc5, nb', cap2', N', Lo', n', hn', hF'⟩
    have HF' := hid hF'
    clear hF'
    go_wp2
    go_end0
    exact ⟨rfl, bW4.trans hb5, cW4.trans hc5, A', cap', nb', cap2', N', Lo', n', hn', HF'.out⟩
end Go.Proofs.Ytblmifbpoopbdaa
