/- The contract of catchUp. No condition but that what is known is valid. The contract of newFinder. No condition but that what is known is valid. The contract of the finder's follow. No condition but that what is known is valid. The contracts of needsClear, and of the codes that a finder writes. No condition but that what is known is valid. -/
import Derived.Test.YtmlaaammfnboiaaGreatDoorGn
import Derived.Test.YtmlaaammfnboiaaGreatDoorBg
import Derived.Test.YtmlaaammfnboiaaGreatDoorGm
namespace Go.Proofs.YtmlaaammfnboiaaGreatDoor
section
open Go.ChangeShapes Go.WideShapes Go.ChangeAt Go.RowKit Go.Joins
set_option linter.unusedVariables false

/-- how far the finder's nodes are from the most -/
def nleft (fb : Nat) (wr : World) : Nat := match wr.cell? ⟨fb, 6, none⟩ with
 | some (.slice _ n _) => 100000 - n
 | _ => 0
section
variable {L fb : Nat} {k : Kn} {A : Option Addr} {cap nb cap2 : Nat} {Q : List Pr} {N : Nat → Nat} {Lo : Nat → Option Nat} {bm n : Nat} {wr : World}

theorem FQ.left (h : FQ L fb k A cap nb cap2 Q N Lo bm n wr) : nleft fb wr = 100000 - top k.c Q := by
 have := h.bx.cell 6
 unfold nleft
 rw [this]; rfl
theorem FQ.t1 (h : FQ L fb k A cap nb cap2 Q N Lo bm n wr) : wr.cell? ⟨fb, 6, none⟩ = some (.slice (some ⟨nb, 0, none⟩) (top k.c Q) cap2) ∧ True := ⟨h.bx.cell 6, trivial⟩
theorem FQ.t7 (h : FQ L fb k A cap nb cap2 Q N Lo bm n wr) : wr.cell? ⟨fb, 7, none⟩ = some (.map (some bm)) ∧ True := ⟨h.bx.cell 7, trivial⟩
end
theorem top_take {c : Int} {ps : List Pr} {j : Nat} (h : j ≤ ps.length) : top c (ps.take j) = c.toNat + 2 + j := by simp [top]; omega

set_option maxHeartbeats 4000000 in
set_option maxRecDepth 100000 in
theorem c_catchUp (L fb : Nat) (k : Kn) (A : Option Addr) (cap nb cap2 : Nat) (N : Nat → Nat) (Lo : Nat → Option Nat) (bm n j : Nat) (w : World) (hk : k.Ok) (hj : j ≤ k.ps.length) (hL : L ≤ w.heap.size) (hn : n ≤ j) (h : FQ L fb k A cap nb cap2 (k.ps.take j) N Lo bm n w) :
  Calls Tryz.prog 96 #[.pointer (some ⟨fb, 0, none⟩)] w fun e w' => e = .returned (.tuple #[]) ∧ Below L w w' ∧ Calm w w' ∧ ∃ nb' cap2' N' Lo' n', n' ≤ k.ps.length ∧ FQ L fb k A cap nb' cap2' k.ps N' Lo' bm n' w' := by
 have hcb := hk.cbd
 have hlen := hk.len
 have HK := hid hk
 have HNx := hid (fun (v : World) (hv : KAt v fb k (.slice A k.ps.length cap)) => c_nextWord fb k A cap v hk hv)
 have HFw := hid (fun (v : World) (hv : KAt v fb k (.slice A k.ps.length cap)) => c_firstWord fb k A cap v hk hv)
 have enx := next_eq k
 have ec : k.c = pow2 k.l := rfl
 obtain ⟨C, hC⟩ : ∃ C, C = pow2 k.l := ⟨_, rfl⟩
 obtain ⟨X, hX⟩ : ∃ X, X = k.next := ⟨_, rfl⟩
 rw [← hC] at HFw ec enx
 rw [← hX] at HNx enx
 rw [ec] at hcb
 have HC := hid ec
 have H := hid h
 have HS := hid (show j ≤ k.ps.length ∧ n ≤ j from ⟨hj, hn⟩)
 clear hC hX hk ec h hj hn
 go_enter Tryz.func96, Tryz.ntmps96
 go_wp2_with fail
 go_loopw [] (fun wr => ∃ (j nb cap2 : Nat) (N : Nat → Nat) (Lo : Nat → Option Nat) (n : Nat), Hid (j ≤ k.ps.length ∧ n ≤ j) ∧ Hid (FQ L fb k A cap nb cap2 (k.ps.take j) N Lo bm n wr) ∧ Below L w wr ∧ Calm w wr) (fun wr => nleft fb wr)
 case atStart => exact ⟨j, nb, cap2, N, Lo, n, HS, H, Below.refl _ _, Calm.refl _⟩
 case round =>
  clear HS H nb cap2 N Lo n
  obtain ⟨j, nb, cap2, N, Lo, n, HS, HF, hbel, hcal⟩ := hrel
  have HL0 := hid HF.out.left
  have ht := top_take (c := k.c) HS.out.1
  rw [HC.out] at ht
  have HT := hid (show top k.c (k.ps.take j) = C.toNat + 2 + j by rw [HC.out]; exact ht)
  clear ht
  obtain ⟨TP, hTP⟩ : ∃ TP, TP = top k.c (k.ps.take j) := ⟨_, rfl⟩
  have hTP2 : (TP : Int) = C + 2 + j := by rw [hTP, HT.out]; omega
  have HT1 := hid (fun (v : World) (hv : FQ L fb k A cap nb cap2 (k.ps.take j) N Lo bm n v) => hv.t1)
  rw [← hTP] at HT1
  have HTP := hid hTP
  clear hTP
  by_cases hlt : j < k.ps.length
  ·skip
   obtain ⟨p, hp⟩ : ∃ p, k.ps[j]? = some p := ⟨k.ps[j], List.getElem?_eq_getElem hlt⟩
   have HP := hid hp
   have hXT : (TP : Int) < X := by omega
   have hwr : IntKind.i64.wrap ((TP : Int) - (C + 2)) = (j : Int) := by rw [IntWalk.i64_in _ (by omega)]; omega
   have HTj := hid hTP2
   clear hp hTP2 enx
   have hS := HT1.out _ HF.out
   go_wp2_with fail
   replace HF := hid (HF.out.on (bel_drew (Below.refl _ _)))
   replace hbel := hbel.drew
   replace hcal := hcal.drew
   refine wp_region_noPanic ?_
   refine wp_region_held_drew (S := (fun v => v.cell? ⟨fb, 6, none⟩ = some (.slice (some ⟨nb, 0, none⟩) TP cap2) ∧ True)) (by kernel_rfl) (t1_drew hS) (fun hHeld => ?_)
   refine tk 0 ?_
   refine tk 1 ?_
   refine tk 2 ?_
   refine tk 3 ?_
   refine tk 4 ?_
   refine tk 5 ?_
   refine tk 6 ?_
   refine tk 7 ?_
   refine wpAnyH_ready (rs := [8]) (by kernel_rfl) (by simp) ?_
   refine AllReadyH.cons (o := ?or1_8) ?ir1_8 (fun K hK => ?sr1_8) AllReadyH.nil
   case ir1_8 => (simp only [List.getElem?_toArray, List.getElem?_cons_succ, List.getElem?_cons_zero]; rfl)
   (first | (go_simp; (first | (go_at_call 134; refine (HNx.out _ HF.out.kat).mono ?_; rintro e wQ ⟨rfl, hbQ⟩; replace HF := hid (HF.out.on hbQ); replace hbel := hbel.trans (hbQ.mono (Nat.le_trans hL hbel.size)); replace hcal := hcal.trans (Calm.of hbQ); clear hbQ) | skip)))
   refine hK.out _ _ ?kr1_8 (fun hHeld => ?_)
   case kr1_8 => (try dsimp only); (first | with_reducible assumption | with_reducible exact HT1.out _ HF.out | exact t1_bel (by assumption) (by assumption) | assumption | exact t1_alloc (by assumption) _ | exact HT1.out _ HF.out)
   clear hK K
   try simp only [Act.put, List.setIfInBounds_toArray, List.set_cons_zero, List.set_cons_succ]
   refine tk 9 ?_
   refine wpAnyH_done (by kernel_rfl) ?_ _
   refine NoPanic.normal ?_
   clear hS
   (try clear hHeld)
   have hS := HF.out.t7
   go_wp2_with fail
   replace HF := hid (HF.out.on (bel_drew (Below.refl _ _)))
   replace hbel := hbel.drew
   replace hcal := hcal.drew
   have c6 := (HT1.out _ HF.out).1
   refine wp_region_noPanic ?_
   refine wp_region_held_drew (S := (fun v => v.cell? ⟨fb, 7, none⟩ = some (.map (some bm)) ∧ True)) (by kernel_rfl) (t1_drew hS) (fun hHeld => ?_)
   refine tk 0 ?_
   refine tk 1 ?_
   refine tk 2 ?_
   refine tk 3 ?_
   refine tk 6 ?_
   refine tk 7 ?_
   refine tk 8 ?_
   refine wpAnyH_ready (rs := [4, 9]) (by kernel_rfl) (by simp) ?_
   refine AllReadyH.cons (o := ?or2_4) ?ir2_4 (fun K hK => ?sr2_4) (AllReadyH.cons (o := ?or2_9) ?ir2_9 (fun K hK => ?sr2_9) AllReadyH.nil)
   case ir2_4 => (simp only [List.getElem?_toArray, List.getElem?_cons_succ, List.getElem?_cons_zero]; rfl)
   case ir2_9 => (simp only [List.getElem?_toArray, List.getElem?_cons_succ, List.getElem?_cons_zero]; rfl)
   case' sr2_4 =>
    (go_simp; (skip))
    refine hK.out _ _ ?kr2_4 (fun hHeld => ?_)
    case kr2_4 => (try dsimp only); (first | with_reducible assumption | with_reducible exact HF'.out.t7 | with_reducible exact HF.out.t7 | exact t1_bel (by assumption) (by assumption) | assumption | exact t1_alloc (by assumption) _ | exact HF'.out.t7 | exact HF.out.t7)
    clear hK K
    try simp only [Act.put, List.setIfInBounds_toArray, List.set_cons_zero, List.set_cons_succ]
    refine tk 5 ?_
    refine wpAnyH_ready (rs := [9]) (by kernel_rfl) (by simp) ?_
    refine AllReadyH.cons (o := ?or2b1_9) ?ir2b1_9 (fun K hK => ?sr2b1_9) AllReadyH.nil
    case ir2b1_9 => (simp only [List.getElem?_toArray, List.getElem?_cons_succ, List.getElem?_cons_zero]; rfl)
    (go_simp; (go_at_call 94; refine (HFw.out _ HF.out.kat).mono ?_; rintro e wR ⟨rfl, hbR⟩; replace HF := hid (HF.out.on hbR); replace hbel := hbel.trans (hbR.mono (Nat.le_trans hL hbel.size)); replace hcal := hcal.trans (Calm.of hbR); clear hbR c6; have c6 := (HT1.out _ HF.out).1))
    refine hK.out _ _ ?kr2b1_9 (fun hHeld => ?_)
    case kr2b1_9 => (try dsimp only); (first | with_reducible assumption | with_reducible exact HF'.out.t7 | with_reducible exact HF.out.t7 | exact t1_bel (by assumption) (by assumption) | assumption | exact t1_alloc (by assumption) _ | exact HF'.out.t7 | exact HF.out.t7)
    clear hK K
    try simp only [Act.put, List.setIfInBounds_toArray, List.set_cons_zero, List.set_cons_succ]
    refine tk 10 ?_
    refine wpAnyH_ready (rs := [11]) (by kernel_rfl) (by simp) ?_
    refine AllReadyH.cons (o := ?or2b1_11) ?ir2b1_11 (fun K hK => ?sr2b1_11) AllReadyH.nil
    case ir2b1_11 => (simp only [List.getElem?_toArray, List.getElem?_cons_succ, List.getElem?_cons_zero]; rfl)
    (go_simp; (go_at_call 138; refine (c_add L fb k A cap nb cap2 N Lo bm n j p _ HK.out HP.out (Nat.le_trans hL hbel.size) HS.out.2 HF.out).mono ?_; rintro e wA ⟨rfl, hbA, hcA, nb', cap', N', Lo', n', hn', hF'⟩; have HF' := hid hF'; have HS' := hid hn'; clear hF' hn'))
    refine hK.out _ _ ?kr2b1_11 (fun hHeld => ?_)
    case kr2b1_11 => (try dsimp only); (first | with_reducible assumption | with_reducible exact HF'.out.t7 | with_reducible exact HF.out.t7 | exact t1_bel (by assumption) (by assumption) | assumption | exact t1_alloc (by assumption) _ | exact HF'.out.t7 | exact HF.out.t7)
    clear hK K
    try simp only [Act.put, List.setIfInBounds_toArray, List.set_cons_zero, List.set_cons_succ]
    refine wpAnyH_done (by kernel_rfl) ?_ _
    refine NoPanic.normal ?_
   case' sr2_9 =>
    (go_simp; (go_at_call 94; refine (HFw.out _ HF.out.kat).mono ?_; rintro e wR ⟨rfl, hbR⟩; replace HF := hid (HF.out.on hbR); replace hbel := hbel.trans (hbR.mono (Nat.le_trans hL hbel.size)); replace hcal := hcal.trans (Calm.of hbR); clear hbR c6; have c6 := (HT1.out _ HF.out).1))
    refine hK.out _ _ ?kr2_9 (fun hHeld => ?_)
    case kr2_9 => (try dsimp only); (first | with_reducible assumption | with_reducible exact HF'.out.t7 | with_reducible exact HF.out.t7 | exact t1_bel (by assumption) (by assumption) | assumption | exact t1_alloc (by assumption) _ | exact HF'.out.t7 | exact HF.out.t7)
    clear hK K
    try simp only [Act.put, List.setIfInBounds_toArray, List.set_cons_zero, List.set_cons_succ]
    refine wpAnyH_ready (rs := [4]) (by kernel_rfl) (by simp) ?_
    refine AllReadyH.cons (o := ?or2b2_4) ?ir2b2_4 (fun K hK => ?sr2b2_4) AllReadyH.nil
    case ir2b2_4 => (simp only [List.getElem?_toArray, List.getElem?_cons_succ, List.getElem?_cons_zero]; rfl)
    (go_simp; (skip))
    refine hK.out _ _ ?kr2b2_4 (fun hHeld => ?_)
    case kr2b2_4 => (try dsimp only); (first | with_reducible assumption | with_reducible exact HF'.out.t7 | with_reducible exact HF.out.t7 | exact t1_bel (by assumption) (by assumption) | assumption | exact t1_alloc (by assumption) _ | exact HF'.out.t7 | exact HF.out.t7)
    clear hK K
    try simp only [Act.put, List.setIfInBounds_toArray, List.set_cons_zero, List.set_cons_succ]
    refine tk 5 ?_
    refine tk 10 ?_
    refine wpAnyH_ready (rs := [11]) (by kernel_rfl) (by simp) ?_
    refine AllReadyH.cons (o := ?or2b2_11) ?ir2b2_11 (fun K hK => ?sr2b2_11) AllReadyH.nil
    case ir2b2_11 => (simp only [List.getElem?_toArray, List.getElem?_cons_succ, List.getElem?_cons_zero]; rfl)
    (go_simp; (go_at_call 138; refine (c_add L fb k A cap nb cap2 N Lo bm n j p _ HK.out HP.out (Nat.le_trans hL hbel.size) HS.out.2 HF.out).mono ?_; rintro e wA ⟨rfl, hbA, hcA, nb', cap', N', Lo', n', hn', hF'⟩; have HF' := hid hF'; have HS' := hid hn'; clear hF' hn'))
    refine hK.out _ _ ?kr2b2_11 (fun hHeld => ?_)
    case kr2b2_11 => (try dsimp only); (first | with_reducible assumption | with_reducible exact HF'.out.t7 | with_reducible exact HF.out.t7 | exact t1_bel (by assumption) (by assumption) | assumption | exact t1_alloc (by assumption) _ | exact HF'.out.t7 | exact HF.out.t7)
    clear hK K
    try simp only [Act.put, List.setIfInBounds_toArray, List.set_cons_zero, List.set_cons_succ]
    refine wpAnyH_done (by kernel_rfl) ?_ _
    refine NoPanic.normal ?_
   all_goals
    go_wp2
    go_roundw
    case rel => exact ⟨j + 1, nb', cap', N', Lo', n', hid ⟨by omega, HS'.out⟩, HF', hbel.trans hbA, hcal.trans hcA⟩
    case measure =>
     have e1 := HF'.out.left
     rw [top_take (by omega)] at e1
     have e2 := HL0.out
     rw [HT.out] at e2
     rw [e1, e2, HC.out]; omega
  ·skip
   have hje : j = k.ps.length := by have := HS.out.1; omega
   have hXT : (TP : Int) = X := by omega
   have hS := HT1.out _ HF.out
   have HJ := hid hje
   clear hje hTP2 enx hlt
   go_wp2_with fail
   replace HF := hid (HF.out.on (bel_drew (Below.refl _ _)))
   replace hbel := hbel.drew
   replace hcal := hcal.drew
   refine wp_region_noPanic ?_
   refine wp_region_held_drew (S := (fun v => v.cell? ⟨fb, 6, none⟩ = some (.slice (some ⟨nb, 0, none⟩) TP cap2) ∧ True)) (by kernel_rfl) (t1_drew hS) (fun hHeld => ?_)
   refine tk 0 ?_
   refine tk 1 ?_
   refine tk 2 ?_
   refine tk 3 ?_
   refine tk 4 ?_
   refine tk 5 ?_
   refine tk 6 ?_
   refine tk 7 ?_
   refine wpAnyH_ready (rs := [8]) (by kernel_rfl) (by simp) ?_
   refine AllReadyH.cons (o := ?or3_8) ?ir3_8 (fun K hK => ?sr3_8) AllReadyH.nil
   case ir3_8 => (simp only [List.getElem?_toArray, List.getElem?_cons_succ, List.getElem?_cons_zero]; rfl)
   (first | (go_simp; (first | (go_at_call 134; refine (HNx.out _ HF.out.kat).mono ?_; rintro e wQ ⟨rfl, hbQ⟩; replace HF := hid (HF.out.on hbQ); replace hbel := hbel.trans (hbQ.mono (Nat.le_trans hL hbel.size)); replace hcal := hcal.trans (Calm.of hbQ); clear hbQ) | skip)))
   refine hK.out _ _ ?kr3_8 (fun hHeld => ?_)
   case kr3_8 => (try dsimp only); (first | with_reducible assumption | with_reducible exact HT1.out _ HF.out | exact t1_bel (by assumption) (by assumption) | assumption | exact t1_alloc (by assumption) _ | exact HT1.out _ HF.out)
   clear hK K
   try simp only [Act.put, List.setIfInBounds_toArray, List.set_cons_zero, List.set_cons_succ]
   refine tk 9 ?_
   refine wpAnyH_done (by kernel_rfl) ?_ _
   refine NoPanic.normal ?_
   go_wp2
   go_end0
   have hF := HF.out
   rw [HJ.out, List.take_length] at hF
   exact ⟨rfl, hbel, hcal, nb, cap2, N, Lo, n, by have := HS.out.2; have := HS.out.1; omega, hF⟩
end

section
open Go.ChangeShapes Go.WideShapes Go.ChangeAt Go.RowKit Go.Joins
set_option linter.unusedVariables false

/-- the nodes of the first codes, ahead of all pairs -/
def nup (c : Int) (N : Nat → Nat) (i : Nat) : List Value := (List.range i).map (nodeAt c [] N)
theorem nup_succ (c : Int) (N : Nat → Nat) (i : Nat) : nup c N (i + 1) = nup c N i ++ [nodeAt c [] N i] := by simp [nup, List.range_succ]
theorem nup_same {c : Int} (hc : c ≤ 256) (N : Nat → Nat) (i g : Nat) : nup c (addN N i g) i = nup c N i := by
 unfold nup
 refine List.map_congr_left (fun j hj => ?_)
 have hj := List.mem_range.1 hj
 rcases Int.lt_or_le (j : Int) c with h | h
 ·rw [nodeAt_lit hc _ h, nodeAt_lit hc _ h, addN_other (by omega)]
 ·rw [nodeAt_mid _ h, nodeAt_mid _ h]
/-- the finder while its first nodes come in -/
structure NF (L fb : Nat) (k : Kn) (A : Option Addr) (cap : Nat) (A2 : Option Addr) (c2 i : Nat) (N : Nat → Nat) (bm : Nat) (wr : World) : Prop where
 bx : Blk wr fb 112 #[.int .i64 k.o, .int .i64 k.l, .int .i64 k.m, .slice A k.ps.length cap, .int .i64 k.base, .int .i64 k.last, .slice A2 i c2, .map (some bm)]
 row : wr.ownsRow L 175 2 (.slice A k.ps.length cap) k.ps.length (prs k.ps)
 nds : wr.ownsRow L 140 1 (.slice A2 i c2) i (nup k.c N i)
 node : ∀ r : Nat, r < i → (r : Int) < k.c → Blk wr (N r) 144 #[.int .i64 (r : Int), .pointer none] ∧ L ≤ N r
 mp : MapIs wr bm 0 (fun _ _ => none)
 lb : L ≤ fb
 mge : L ≤ bm
section
variable {L fb : Nat} {k : Kn} {A : Option Addr} {cap : Nat} {A2 : Option Addr} {c2 i : Nat} {N N' : Nat → Nat} {bm : Nat} {W w' w7 : World}

theorem NF.on (h : NF L fb k A cap A2 c2 i N bm W) (hb : Below W.heap.size W w') : NF L fb k A cap A2 c2 i N bm w' :=
 ⟨h.bx.on hb, own_on h.row hb, own_on h.nds hb, fun r h1 h2 => ⟨(h.node r h1 h2).1.on hb, (h.node r h1 h2).2⟩, h.mp.kept (grown_below none hb) (by simp), h.lb, h.mge⟩
theorem NF.bx7 (h : NF L fb k A cap A2 c2 i N bm W) (hg : W.grownBy w7 (Value.slice A2 i c2).ownBlock) : Blk w7 fb 112 #[.int .i64 k.o, .int .i64 k.l, .int .i64 k.m, .slice A k.ps.length cap, .int .i64 k.base, .int .i64 k.last, .slice A2 i c2, .map (some bm)] := by
 refine h.bx.grown hg (fun e => ?_)
 rcases own_apart_blk h.nds h.bx (by decide) with h1 | h1
 ·rw [h1] at e; cases e
 ·exact h1 e.symm
theorem NF.step (h : NF L fb k A cap A2 c2 i N bm W) (hN : nup k.c N' i = nup k.c N i) {X : Option Addr} (hX : nodeAt k.c [] N' i = .pointer X) (hnode : ∀ r : Nat, r < i + 1 → (r : Int) < k.c → Blk W (N' r) 144 #[.int .i64 (r : Int), .pointer none] ∧ L ≤ N' r) {A3 : Option Addr} {c3 : Nat}
  (hown : w7.ownsRow L 140 1 (.slice A3 (i + 1) c3) (i + 1) (nup k.c N i ++ [.pointer X])) (hg : W.grownBy w7 (Value.slice A2 i c2).ownBlock) : NF L fb k A cap A3 c3 (i + 1) N' bm (w7.setCell ⟨fb, 6, none⟩ (.slice A3 (i + 1) c3)) := by
 have hb := h.bx7 hg
 have hr7 := h.row.kept hg (own_apart h.row h.nds (by decide))
 have hne : some bm ≠ (Value.slice A2 i c2).ownBlock := by
  rcases own_ne_map h.nds h.mp with h1 | h1
  ·rw [h1]; simp
  ·exact fun e => h1 e.symm
 have hm7 := h.mp.kept hg hne
 refine ⟨hb.set_ 6 _, own_store_blk hr7 hb (by decide) 6 _, ?_, fun r h1 h2 => ?_, hm7.kept (grown_set (grown_refl w7 (some fb)) 6 _) (fun e => hb.ne_map hm7 (Option.some.inj e).symm), h.lb, h.mge⟩
 ·rw [nup_succ, hN, hX]
  exact own_store_blk hown hb (by decide) 6 _
 ·obtain ⟨h3, h4⟩ := hnode r h1 h2
  have h5 : Blk w7 (N' r) 144 #[.int .i64 (r : Int), .pointer none] := h3.grown hg (fun e => by
   rcases own_apart_blk h.nds h3 (by decide) with h6 | h6
   ·rw [h6] at e; cases e
   ·exact h6 e.symm)
  exact ⟨h5.far 6 _ (h5.ne_type hb (by decide)), h4⟩
/-- all first nodes are there -/
theorem NF.fq (hc : 0 ≤ k.c ∧ k.c ≤ 256) {nb : Nat} (h : NF L fb k A cap (some ⟨nb, 0, none⟩) c2 (k.c.toNat + 2) N bm W) : FQ L fb k A cap nb c2 (k.ps.take 0) N (fun _ => none) bm 0 W := by
 have e : top k.c (k.ps.take 0) = k.c.toNat + 2 := by simp [top]
 have hlt : ∀ r : Nat, Lst k.c (k.ps.take 0) r → (r : Int) < k.c := fun r hr => by
  have := hr.has
  unfold HasW at this
  simp at this
  omega
 refine ⟨by rw [e]; exact h.bx, h.row, ?_, ⟨fun r hr => ?_, fun r hr => (h.node r (by have := hlt r hr; omega) (hlt r hr)).2, fun r g hr hl => (by cases hl), fun r hr hl x hx => ?_, fun r r' g hr hr' hl => (by cases hl), ?_, h.mge⟩, h.lb⟩
 ·rw [e]
  have h1 := h.nds
  have e2 : nodesL k.c (k.ps.take 0) N = nup k.c N (k.c.toNat + 2) := by rw [nodesL, e]; rfl
  rw [e2]; exact h1
 ·exact (h.node r (by have := hlt r hr; omega) (hlt r hr)).1
 ·refine fnd_no (fun j hj e3 => ?_)
  have h4 := congrArg List.length e3
  have h5 := hlt r hr
  have h8 : (r : Int) < k.c + 2 := by omega
  rw [List.length_append, word_lit _ _ _ h8] at h4
  have h6 : HasW k.c j 0 := by simpa using hj
  unfold HasW at h6
  have h7 : j < k.c + 2 := by omega
  rw [word_lit _ _ _ h7] at h4
  simp at h4
 ·exact h.mp.same (fun r x _ _ => inMap_kept (by simp) N r x)
end
theorem NF.kat {L fb : Nat} {k : Kn} {A : Option Addr} {cap : Nat} {A2 : Option Addr} {c2 i : Nat} {N : Nat → Nat} {bm : Nat} {W : World} (h : NF L fb k A cap A2 c2 i N bm W) : KAt W fb k (.slice A k.ps.length cap) := by
 obtain ⟨p0, p1, p2, p3, p4, p5, _⟩ := h.bx.cells8
 exact ⟨h.bx.lt, p0, p1, p2, p3, p4, p5⟩
theorem Blk.row7 {w w7 : World} {b : Nat} {t e : TypeId} {cs : Array Value} {B size n : Nat} {v : Value} {xs : List Value} (h : Blk w b t cs) (ho : w.ownsRow B e size v n xs) (hg : w.grownBy w7 v.ownBlock) (ht : t ≠ e) : Blk w7 b t cs := h.grown hg (fun e1 => by
 rcases own_apart_blk ho h ht with h1 | h1
 ·rw [h1] at e1; cases e1
 ·exact h1 e1.symm)

set_option maxHeartbeats 4000000 in
set_option maxRecDepth 100000 in
theorem c_newFinder (k : Kn) (A0 : Option Addr) (cap0 L0 : Nat) (w : World) (hk : k.Ok) (hps : PsAt w L0 A0 cap0 k.ps) (hL0 : L0 ≤ w.heap.size) :
  Calls Tryz.prog 64 #[.agg #[.int .i64 k.o, .int .i64 k.l, .int .i64 k.m, .slice A0 k.ps.length cap0, .int .i64 k.base, .int .i64 k.last]] w fun e w' => Below w.heap.size w w' ∧ ∃ fb A cap nb cap2 N Lo bm n, e = .returned (.pointer (some ⟨fb, 0, none⟩)) ∧ n ≤ k.ps.length ∧ FQ w.heap.size fb k A cap nb cap2 k.ps N Lo bm n w' := by
 have hcb := hk.cbd
 have hlen := hk.len
 have hset := hk.set
 have HOC := hid (fun (v : World) (hb : Below w.heap.size w v) => c_ownCopy k A0 cap0 L0 v (hps.below hb hL0) (Nat.le_trans hL0 hb.size) (by omega))
 have HFw := hid (fun (fb : Nat) (A : Option Addr) (cap : Nat) (v : World) (hv : KAt v fb k (.slice A k.ps.length cap)) => c_firstWord fb k A cap v hk hv)
 have HIs := hid (fun (n : Int) (v : World) => c_isLiteral k.o k.l k.m n v hset)
 have ec : k.c = pow2 k.l := rfl
 obtain ⟨C, hC⟩ : ∃ C : Nat, (C : Int) = pow2 k.l := ⟨k.c.toNat, by omega⟩
 have HC := hid (show k.c = (C : Int) from ec.trans hC.symm)
 rw [← hC] at HFw HIs
 rw [HC.out] at hcb
 have HK := hid hk
 have HKN := hid (Blk.new w 88 #[.int .i64 k.o, .int .i64 k.l, .int .i64 k.m, .slice A0 k.ps.length cap0, .int .i64 k.base, .int .i64 k.last])
 clear hC ec hk hset hps
 obtain ⟨p0, p1, p2, p3, p4, p5⟩ := HKN.out.cells6
 go_enter Tryz.func64, Tryz.ntmps64
 go_wp2_with fail
 refine (HOC.out _ (by exact obB)).mono ?_
 rintro e w1 ⟨A, cap, rfl, hown, hb1⟩
 have HK1 := hid (HKN.out.on hb1)
 have B1 : Below w.heap.size w w1 := by exact obB
 have HO1 := hid hown
 clear hb1 p0 p1 p2 p3 p4 p5 hown
 have hmk : (Instr.makeMap 110 none).run Tryz.prog w1 = .ok (.map (some w1.heap.size)) (w1.alloc (.map #[] 0)) := rfl
 have hb1m : Below w1.heap.size w1 ((w1.alloc (.map #[] 0)).alloc (.cells #[.int .i64 k.o, .int .i64 k.l, .int .i64 k.m, .slice A k.ps.length cap, .int .i64 k.base, .int .i64 k.last, .slice none 0 0, .map (some w1.heap.size)] 112)) := by exact obB
 have HN0 := hid (show NF w.heap.size (w1.heap.size + 1) k A cap none 0 0 (fun _ => 0) w1.heap.size ((w1.alloc (.map #[] 0)).alloc (.cells #[.int .i64 k.o, .int .i64 k.l, .int .i64 k.m, .slice A k.ps.length cap, .int .i64 k.base, .int .i64 k.last, .slice none 0 0, .map (some w1.heap.size)] 112)) from
  ⟨Blk.top w1 (.map #[] 0) 112 #[.int .i64 k.o, .int .i64 k.l, .int .i64 k.m, .slice A k.ps.length cap, .int .i64 k.base, .int .i64 k.last, .slice none 0 0, .map (some w1.heap.size)], own_mono (own_on HO1.out hb1m) (by simp), World.ownsRow_nil _ _ _ 1, fun r hr => absurd hr (by omega), (MapIs.new w1).kept (grown_below none (bel_alloc (Below.refl _ _) _)) (by simp), by have := B1.size; omega, B1.size⟩)
 have HK2 := hid (HK1.out.on hb1m)
 have B2 : Below w.heap.size w ((w1.alloc (.map #[] 0)).alloc (.cells #[.int .i64 k.o, .int .i64 k.l, .int .i64 k.m, .slice A k.ps.length cap, .int .i64 k.base, .int .i64 k.last, .slice none 0 0, .map (some w1.heap.size)] 112)) := by exact obB
 obtain ⟨p0, p1, p2, p3, p4, p5⟩ := HK1.out.cells6
 obtain ⟨u0, u1, u2, u3, u4, u5, u6, u7⟩ := HN0.out.bx.cells8
 go_wp2_with fail
 refine (HFw.out _ _ _ _ HN0.out.kat).mono ?_
 rintro e w3 ⟨rfl, hb3⟩
 have HN3 := hid (HN0.out.on hb3)
 have HK3 := hid (HK2.out.on hb3)
 have B3 : Below w.heap.size w w3 := bel_trans B2 hb3
 obtain ⟨fb, hfb⟩ : ∃ fb, fb = w1.heap.size + 1 := ⟨_, rfl⟩
 obtain ⟨bm, hbm⟩ : ∃ bm, bm = w1.heap.size := ⟨_, rfl⟩
 rw [← hfb] at HN3 ⊢
 rw [← hbm] at HN3
 clear hmk hb1m HN0 HK2 B2 hb3 hfb hbm p0 p1 p2 p3 p4 p5 u0 u1 u2 u3 u4 u5 u6 u7 HK1 HO1 HKN HOC HFw B1
 go_wp2_with fail
 go_loopw [15] (fun v wr => ∃ (i : Nat) (A2 : Option Addr) (c2 : Nat) (N : Nat → Nat), v = .int .i64 (i : Int) ∧ i ≤ C + 2 ∧ Hid (NF w.heap.size fb k A cap A2 c2 i N bm wr) ∧ Hid (Blk wr w.heap.size 88 #[.int .i64 k.o, .int .i64 k.l, .int .i64 k.m, .slice A0 k.ps.length cap0, .int .i64 k.base, .int .i64 k.last]) ∧ Below w.heap.size w wr) (fun v _ => C + 2 - (intOf v).toNat)
 case atStart => exact ⟨0, none, 0, _, rfl, by omega, HN3, HK3, B3⟩
 case round =>
  obtain ⟨i, A2, c2, N, rfl, hi, HN, HKw, hbel⟩ := hrel
  clear HN3 HK3 B3
  obtain ⟨p0, p1, p2, p3, p4, p5⟩ := HKw.out.cells6
  by_cases hlt : i < C + 2
  ·skip
   by_cases hl : i < C
   ·skip
    have HI := hid (fun (v : World) => HIs.out (i : Int) v)
    have hdec : decide (0 ≤ (i : Int) ∧ (i : Int) < (C : Int)) = true := decide_eq_true ⟨by omega, by omega⟩
    simp only [hdec] at HI
    clear hdec
    go_wp2_with fail
    refine (HI.out _).mono ?_
    rintro e wI ⟨rfl, hbI⟩
    have hal := bel_alloc (Below.refl _ wI) (.cells #[.int .i64 (i : Int), .pointer none] 144)
    have HNI := hid (HN.out.on hbI)
    have HN4 := hid (HNI.out.on hal)
    have HG := hid (Blk.new wI 144 #[.int .i64 (i : Int), .pointer none])
    have HK4 := hid ((HKw.out.on hbI).on hal)
    have bW : Below w.heap.size w (wI.alloc (.cells #[.int .i64 (i : Int), .pointer none] 144)) := bel_alloc (bel_trans hbel hbI) _
    have hzW := bW.size
    have hzI := (bel_trans hbel hbI).size
    have hzf := HNI.out.bx.lt
    clear p0 p1 p2 p3 p4 p5 hbI
    obtain ⟨p0, p1, p2, p3, p4, p5, p6, p7⟩ := HNI.out.bx.cells8
    obtain ⟨u0, u1, u2, u3, u4, u5, u6, u7⟩ := HN4.out.bx.cells8
    go_wp2_with (at_builtin; go_loud (refine app_ptr rfl (.tmp 29) (.tmp 31) 109 rfl w.heap.size 140 Tryz.underlying109 Tryz.info_ptr _ i (nup k.c N i) rfl HN4.out.nds (some ⟨wI.heap.size, 0, none⟩) 1 (by rw [World.size_alloc]; rfl) (by omega) hzW ?_; intro v7 w7 hown7 hb7 hg7; obtain ⟨A7, c7, rfl⟩ := own_sl hown7; have f7 := (HN4.out.bx7 hg7).frozen 6; have q7 := (HN4.out.bx7 hg7).cell 6))
    go_wp2
    go_roundw
    case rel =>
     have hlk : (i : Int) < k.c := by rw [HC.out]; omega
     have hck : k.c ≤ 256 := by rw [HC.out]; omega
     refine ⟨i + 1, A7, c7, addN N i wI.heap.size, by go_num, by omega, hid (HN4.out.step (nup_same hck N i _) (by rw [nodeAt_lit hck _ hlk, addN_same]; rfl) (fun r hr hrc => ?_) hown7 hg7), hid (((HK4.out.row7 HN4.out.nds hg7 (by decide)).far 6 _ ((HK4.out.row7 HN4.out.nds hg7 (by decide)).ne_type (HN4.out.bx7 hg7) (by decide)))), (bW.trans hb7).setCell HN4.out.lb _⟩
     by_cases hri : r = i
     ·subst hri; rw [addN_same]; exact ⟨HG.out, hzI⟩
     ·rw [addN_other hri]; exact HN4.out.node r (by omega) hrc
    case measure => simp [intOf]; omega
   ·skip
    have HI := hid (fun (v : World) => HIs.out (i : Int) v)
    have hdec : decide (0 ≤ (i : Int) ∧ (i : Int) < (C : Int)) = false := decide_eq_false (by omega)
    simp only [hdec] at HI
    clear hdec
    go_wp2_with fail
    refine (HI.out _).mono ?_
    rintro e wI ⟨rfl, hbI⟩
    have HNI := hid (HN.out.on hbI)
    have HK4 := hid (HKw.out.on hbI)
    have bW : Below w.heap.size w wI := bel_trans hbel hbI
    have hzW := bW.size
    clear p0 p1 p2 p3 p4 p5 hbI
    obtain ⟨p0, p1, p2, p3, p4, p5, p6, p7⟩ := HNI.out.bx.cells8
    go_wp2_with (at_builtin; go_loud (refine app_ptr rfl (.tmp 29) (.tmp 31) 109 rfl w.heap.size 140 Tryz.underlying109 Tryz.info_ptr _ i (nup k.c N i) rfl HNI.out.nds none 1 rfl (by omega) hzW ?_; intro v7 w7 hown7 hb7 hg7; obtain ⟨A7, c7, rfl⟩ := own_sl hown7; have f7 := (HNI.out.bx7 hg7).frozen 6; have q7 := (HNI.out.bx7 hg7).cell 6))
    go_wp2
    go_roundw
    case rel =>
     have hlk : k.c ≤ (i : Int) := by rw [HC.out]; omega
     refine ⟨i + 1, A7, c7, N, by go_num, by omega, hid (HNI.out.step rfl (by rw [nodeAt_mid _ hlk]; rfl) (fun r hr hrc => HNI.out.node r (by omega) hrc) hown7 hg7), hid (((HK4.out.row7 HNI.out.nds hg7 (by decide)).far 6 _ ((HK4.out.row7 HNI.out.nds hg7 (by decide)).ne_type (HNI.out.bx7 hg7) (by decide)))), (bW.trans hb7).setCell HNI.out.lb _⟩
    case measure => simp [intOf]; omega
  ·skip
   have hie : i = k.c.toNat + 2 := by rw [HC.out]; omega
   have hii : i = C + 2 := by omega
   have HN5 := hid HN.out
   obtain ⟨nb, hA2⟩ : ∃ nb, A2 = some ⟨nb, 0, none⟩ := by
    obtain ⟨g, cp, e, _⟩ := own_form HN.out.nds (by omega)
    simp at e
    exact ⟨g, e.1⟩
   subst hA2
   have HCu := hid (show Calls Tryz.prog 96 #[.pointer (some ⟨fb, 0, none⟩)] wr fun e w' => e = .returned (.tuple #[]) ∧ Below w.heap.size wr w' ∧ Calm wr w' ∧ ∃ nb' cap2' N' Lo' n', n' ≤ k.ps.length ∧ FQ w.heap.size fb k A cap nb' cap2' k.ps N' Lo' bm n' w' from
    c_catchUp w.heap.size fb k A cap nb c2 N (fun _ => none) bm 0 0 wr HK.out (Nat.zero_le _) hbel.size (Nat.le_refl _) (NF.fq (by rw [HC.out]; omega) (by have := HN.out; rw [hie] at this; exact this)))
   clear hie HN5 HN p0 p1 p2 p3 p4 p5
   subst hii
   go_wp2_with fail
   refine HCu.out.mono ?_
   rintro e w5 ⟨rfl, hb5, _, nb', cap2', N', Lo', n', hn', hF'⟩
   have HF' := hid hF'
   clear hF'
   go_wp2
   exact bodyPost_ret (v := .pointer (some ⟨fb, 0, none⟩)) (by simp [results, Tryz.results64, go_sem]) rfl ⟨hbel.trans hb5, fb, A, cap, nb', cap2', N', Lo', bm, n', rfl, hn', HF'.out⟩
end

section
open Go.ChangeShapes Go.WideShapes Go.ChangeAt Go.RowKit Go.Joins
set_option linter.unusedVariables false

theorem own1_cut {w : World} {B : Nat} {e : TypeId} {A : Option Addr} {n cap : Nat} {xs : List Value} (h : w.ownsRow B e 1 (.slice A n cap) n xs) (m : Nat) (hm : m ≤ n) : w.ownsRow B e 1 (.slice A m cap) m (xs.take m) := by
 have hl := h.1
 refine ⟨by rw [List.length_take]; omega, ?_⟩
 rcases h.2 with ⟨e1, h0⟩ | ⟨g, cap', cur, e1, hb, hh, hnc, hcm, hsz, htk⟩
 ·left
  simp at e1
  obtain ⟨rfl, _, rfl⟩ := e1
  have : m = 0 := by omega
  subst this
  exact ⟨rfl, rfl⟩
 ·right
  simp at e1
  obtain ⟨rfl, rfl⟩ := e1
  refine ⟨g, cap, cur, rfl, hb, hh, by omega, hcm, hsz, ?_⟩
  rw [← htk, List.take_take]
  congr 1; omega
theorem own_cap {w : World} {B : Nat} {e : TypeId} {A : Option Addr} {size n cap : Nat} {xs : List Value} (h : w.ownsRow B e size (.slice A n cap) n xs) : n ≤ cap := by
 rcases h.2 with ⟨e1, h0⟩ | ⟨g, cap', cur, e1, hb, hh, hnc, hcm, hsz, htk⟩
 ·simp at e1
  omega
 ·simp at e1
  obtain ⟨rfl, rfl⟩ := e1
  exact hnc
/-- 'clear(m)' at the operation -/
theorem wpList_clear {P : Program} {w : World} {ops : Array Oper} {rest : List Oper} {o : Oper} {a : Act} {Q : Exit → Act → World → Prop} (hg : o.guard = none) (m : Operand) (t : TypeId)
  (ho : o.op = .call { callee := .builtin .clear, args := #[m], argTypes := #[t] }) (v : Value) (hm : a.eval m = v) (w' : World) (hrun : ∀ ty, (Builtin.clear_ #[t] ty #[v]).run P w = .ok (.tuple #[]) w') (hK : wpList P ops Q rest (a.put o.dst (.tuple #[])) w') : wpList P ops Q (o :: rest) a w := by
 refine wpList_plain hg fun K' hK' => ?_
 unfold Oper.wp
 simp [execOp, ho, resolve, invoke, builtin, hm, hrun, Result.andThen]
 exact hK' _ _ hK
section
variable {L fb : Nat} {k k' : Kn} {c : Int} {A A' : Option Addr} {cap cap' nb cap2 : Nat} {Q : List Pr} {m : Nat} {N : Nat → Nat} {Lo : Nat → Option Nat} {bm n b : Nat} {w w' : World} {row : Option Nat}

theorem Fd.near (h : Fd L c Q m N Lo bm n w) (hn : Near w w' b row) {cs : Array Value} (hb : Blk w b 112 cs) (hr : ∀ g, row = some g → ∃ cs, w.heap[g]? = some (.cells cs 175 (0, 0))) : Fd L c Q m N Lo bm n w' := by
 have hrow : ∀ {g : Nat} {t : TypeId} {cs : Array Value}, Blk w g t cs → t ≠ 175 → some g ≠ row := fun {g t cs} h1 h2 e => by
  obtain ⟨cs2, h3⟩ := hr g e.symm
  have := h1.symm.trans h3
  simp at this
  exact h2 this.2
 have key : ∀ {g : Nat} {t : TypeId} {cs : Array Value}, Blk w g t cs → t ≠ 112 → t ≠ 175 → Blk w' g t cs := fun {g t cs} h1 h2 h3 => (hn.block g h1.lt (h1.ne_type hb h2) (hrow h1 h3)).trans h1
 refine ⟨fun r hr => key (h.node r hr) (by decide) (by decide), h.ge, fun r g hr hl => ?_, h.bare, h.one, h.mp.only (S := fun g => g = b ∨ some g = row) ⟨hn.os, hn.tape, hn.output, hn.size, fun g hg hs => hn.block g hg (fun e => hs (Or.inl e)) (fun e => hs (Or.inr e))⟩ (fun hs => ?_), h.mge⟩
 ·obtain ⟨h1, cs, h2, h3, h4⟩ := h.arr r g hr hl
  exact ⟨h1, cs, key h2 (by decide) (by decide), h3, h4⟩
 ·rcases hs with e | e
  ·exact hb.ne_map h.mp e.symm
  ·obtain ⟨cs2, h3⟩ := hr bm e.symm
   obtain ⟨es, cl, h4⟩ := h.mp.obj
   rw [h3] at h4
   cases h4
theorem FQ.known (h : FQ L fb k A cap nb cap2 Q N Lo bm n w) (hl : k'.l = k.l) (hbs : k'.base = k.base)
  (hbx : Blk w' fb 112 #[.int .i64 k'.o, .int .i64 k'.l, .int .i64 k'.m, .slice A' k'.ps.length cap', .int .i64 k'.base, .int .i64 k'.last, .slice (some ⟨nb, 0, none⟩) (top k.c Q) cap2, .map (some bm)])
  (hrow : w'.ownsRow L 175 2 (.slice A' k'.ps.length cap') k'.ps.length (prs k'.ps)) (hn : Near w w' fb (Value.slice A k.ps.length cap).ownBlock) : FQ L fb k' A' cap' nb cap2 Q N Lo bm n w' := by
 have e : k'.c = k.c := by unfold Kn.c; rw [hl]
 refine ⟨by rw [e]; exact hbx, hrow, ?_, ?_, h.lb⟩
 ·rw [e]; exact own_near h.nds hn (own_apart_blk h.nds h.bx (by decide)) (own_apart h.nds h.row (by decide))
 ·rw [e, hbs]; exact h.fd.near hn h.bx (fun g hg => own_elem h.row g hg)
theorem FQ.near_below (h : FQ L fb k A cap nb cap2 Q N Lo bm n w) (hn : Near w w' fb (Value.slice A k.ps.length cap).ownBlock) (hL : L ≤ w.heap.size) : Below L w w' := hn.below h.lb (fun g hg => (h.row.lt g hg).1) hL
theorem FQ.near_calm (h : FQ L fb k A cap nb cap2 Q N Lo bm n w) (hn : Near w w' fb (Value.slice A k.ps.length cap).ownBlock) : Calm w w' := fun g t cs hb ht => (hn.block g hb.lt (hb.ne_type h.bx (fun e => ht (by rw [e]; decide))) (fun e => by
 obtain ⟨cs2, h3⟩ := own_elem h.row g e.symm
 have := hb.symm.trans h3
 simp at this
 exact ht (by rw [this.2]; decide))).trans hb
theorem FQ.ne_fb (h : FQ L fb k A cap nb cap2 Q N Lo bm n w) : ∀ g, A = some ⟨g, 0, none⟩ → g ≠ fb := by
 rintro g rfl rfl
 rcases own_apart_blk h.row h.bx (by decide) with h1 | h1 <;> simp [Value.ownBlock] at h1
/-- the tables behind a clear code -/
theorem Fd.clear (h : Fd L c Q m N Lo bm n w) (hm : m ≤ Q.length) (hM : MapIs w' bm 0 (fun _ _ => none)) (hg : w.grownBy w' (some bm)) : Fd L c (Q.take m) m N Lo bm 0 w' := by
 have e : (Q.take m).take m = Q.take m := by rw [List.take_take]; simp
 refine ⟨fun r hr => (h.node r (lst_take hr).1).grown hg (fun e => (h.node r (lst_take hr).1).ne_map h.mp (Option.some.inj e)), fun r hr => h.ge r (lst_take hr).1, fun r g hr hl => ?_, fun r hr hl x hx => ?_, fun r r' g hr hr' => h.one r r' g (lst_take hr).1 (lst_take hr').1, hM.same (fun r x _ _ => inMap_kept (by rw [List.length_take]; omega) N r x), h.mge⟩
 ·obtain ⟨h1, cs, h2, h3, h4⟩ := h.arr r g (lst_take hr).1 hl
  refine ⟨h1, cs, h2.grown hg (fun e => h2.ne_map h.mp (Option.some.inj e)), h3, fun x hx => ?_⟩
  rw [e, ← (lst_take hr).2]
  exact h4 x hx
 ·rw [e, ← (lst_take hr).2]
  exact h.bare r (lst_take hr).1 hl x hx
/-- ahead of the cut of the nodes -/
structure FCut (L fb : Nat) (k : Kn) (A : Option Addr) (cap nb cap2 : Nat) (Q : List Pr) (N : Nat → Nat) (Lo : Nat → Option Nat) (bm : Nat) (wr : World) : Prop where
 bx : Blk wr fb 112 #[.int .i64 k.o, .int .i64 k.l, .int .i64 k.m, .slice A k.ps.length cap, .int .i64 k.base, .int .i64 k.last, .slice (some ⟨nb, 0, none⟩) (top k.c Q) cap2, .map (some bm)]
 row : wr.ownsRow L 175 2 (.slice A k.ps.length cap) k.ps.length (prs k.ps)
 nds : wr.ownsRow L 140 1 (.slice (some ⟨nb, 0, none⟩) (top k.c Q) cap2) (top k.c Q) (nodesL k.c Q N)
 fd : Fd L k.c (Q.take k.base.toNat) k.base.toNat N Lo bm 0 wr
 lb : L ≤ fb
theorem FQ.cut (h : FQ L fb k A cap nb cap2 Q N Lo bm n w) (hm : k.base.toNat ≤ Q.length) (hM : MapIs w' bm 0 (fun _ _ => none)) (hg : w.grownBy w' (some bm)) : FCut L fb k A cap nb cap2 Q N Lo bm w' :=
 ⟨h.bx.grown hg (fun e => h.bx.ne_map h.fd.mp (Option.some.inj e)), h.row.kept hg (own_ne_map h.row h.fd.mp), h.nds.kept hg (own_ne_map h.nds h.fd.mp), h.fd.clear hm hM hg, h.lb⟩
theorem FCut.on (h : FCut L fb k A cap nb cap2 Q N Lo bm w) (hb : Below w.heap.size w w') : FCut L fb k A cap nb cap2 Q N Lo bm w' := ⟨h.bx.on hb, own_on h.row hb, own_on h.nds hb, h.fd.on hb, h.lb⟩
theorem FCut.kat (h : FCut L fb k A cap nb cap2 Q N Lo bm w) : KAt w fb k (.slice A k.ps.length cap) := by
 obtain ⟨p0, p1, p2, p3, p4, p5, _⟩ := h.bx.cells8
 exact ⟨h.bx.lt, p0, p1, p2, p3, p4, p5⟩
theorem FCut.t7 (h : FCut L fb k A cap nb cap2 Q N Lo bm w) : w.cell? ⟨fb, 7, none⟩ = some (.map (some bm)) ∧ True := ⟨h.bx.cell 7, trivial⟩
theorem FCut.done (h : FCut L fb k A cap nb cap2 Q N Lo bm w) (hc : 0 ≤ k.c) (hm : k.base.toNat ≤ Q.length) {M : Nat} (hM : M = k.c.toNat + 2 + k.base.toNat) : FQ L fb k A cap nb cap2 (Q.take k.base.toNat) N Lo bm 0 (w.setCell ⟨fb, 6, none⟩ (.slice (some ⟨nb, 0, none⟩) M cap2)) := by
 have e : top k.c (Q.take k.base.toNat) = M := by rw [hM]; exact top_take hm
 have hle : M ≤ top k.c Q := by rw [hM]; unfold top; omega
 refine ⟨by rw [e]; exact h.bx.set_ 6 _, own_store_blk h.row h.bx (by decide) 6 _, ?_, h.fd.away (e := 112) (grown_set (grown_refl w (some fb)) 6 _) (fun b e => by obtain rfl := Option.some.inj e; exact ⟨_, h.bx⟩) (by decide) (by decide), h.lb⟩
 rw [e, nodesL_take hc hm, ← hM]
 exact own_store_blk (own1_cut h.nds M hle) h.bx (by decide) 6 _
end
theorem after_take (k : Kn) (code : Int) : (k.after code).ps.take k.ps.length = k.ps := by
 unfold Kn.after
 split
 ·simp
 ·simp
theorem after_len (k : Kn) (code : Int) : k.ps.length ≤ (k.after code).ps.length := by
 unfold Kn.after
 split <;> simp

set_option maxHeartbeats 4000000 in
set_option maxRecDepth 100000 in
theorem c_ffollow_code (L fb : Nat) (k : Kn) (A : Option Addr) (cap nb cap2 : Nat) (N : Nat → Nat) (Lo : Nat → Option Nat) (bm n : Nat) (w : World) (hk : k.Ok) (hL : L ≤ w.heap.size) (hn : n ≤ k.ps.length) (h : FQ L fb k A cap nb cap2 k.ps N Lo bm n w) (code : Int) (hc : k.Fol code) :
  Calls Tryz.prog 89 #[.pointer (some ⟨fb, 0, none⟩), .int .i64 code] w fun e w' => e = .returned (.tuple #[]) ∧ Below L w w' ∧ Calm w w' ∧ ∃ A' cap' nb' cap2' N' Lo' n', n' ≤ (k.after code).ps.length ∧ FQ L fb (k.after code) A' cap' nb' cap2' (k.after code).ps N' Lo' bm n' w' := by
 have hfi := (hk.fol_iff code).1 hc
 have hne2 : (code == pow2 k.l) = false := by rw [beq_eq_false_iff_ne]; exact hfi.2.2.1
 have hak := hk.after hc
 have hset := hk.set
 have HCl := hid (fun (v : World) => c_ClearCode_yes k.o k.l k.m v hset)
 have HKf := hid (c_follow_code fb L 112 _ k A cap w hk h.bx h.kat (own_ps_at h.row) h.row hL h.ne_fb (by decide) code hc)
 have HCu := hid (fun (A' : Option Addr) (cap' : Nat) (v : World) (hLv : L ≤ v.heap.size) (hF : FQ L fb (k.after code) A' cap' nb cap2 k.ps N Lo bm n v) => c_catchUp L fb (k.after code) A' cap' nb cap2 N Lo bm n k.ps.length v hak (after_len k code) hLv hn (by rw [after_take]; exact hF))
 have H := hid h
 obtain ⟨p0, p1, p2, p3, p4, p5, p6, p7⟩ := h.bx.cells8
 clear h hk hc hfi hak hset
 go_enter Tryz.func89, Tryz.ntmps89
 go_wp2_with fail
 refine HKf.out.mono ?_
 rintro e w1 ⟨rfl, A', cap', hbx, hown, hnear⟩
 have HF1 := hid (show FQ L fb (k.after code) A' cap' nb cap2 k.ps N Lo bm n w1 from H.out.known rfl rfl hbx hown hnear)
 have bW : Below L w w1 := H.out.near_below hnear hL
 have cW : Calm w w1 := H.out.near_calm hnear
 have hL1 : L ≤ w1.heap.size := Nat.le_trans hL bW.size
 clear hbx hown hnear p0 p1 p2 p3 p4 p5 p6 p7 HKf
 obtain ⟨p0, p1, p2, p3, p4, p5, p6, p7⟩ := HF1.out.bx.cells8
 have e0 : w1.cell? ⟨fb, 0, none⟩ = some (.int .i64 k.o) := p0
 have e1 : w1.cell? ⟨fb, 1, none⟩ = some (.int .i64 k.l) := p1
 have e2 : w1.cell? ⟨fb, 2, none⟩ = some (.int .i64 k.m) := p2
 clear p0 p1 p2 p3 p4 p5 p6 p7
 go_wp2_with fail
 refine (HCl.out _).mono ?_
 rintro e w2 ⟨rfl, hb2⟩
 have HF2 := hid (HF1.out.on hb2)
 have bW2 : Below L w w2 := bW.trans (hb2.mono hL1)
 have cW2 : Calm w w2 := cW.trans (Calm.of hb2)
 go_wp2_with fail
 refine (HCu.out _ _ _ (Nat.le_trans hL bW2.size) HF2.out).mono ?_
 rintro e w3 ⟨rfl, hb3, hc3, nb', cap2', N', Lo', n', hn', hF'⟩
 have HF' := hid hF'
 clear hF'
 go_wp2
 go_end0
 exact ⟨rfl, bW2.trans hb3, cW2.trans hc3, A', cap', nb', cap2', N', Lo', n', hn', HF'.out⟩

set_option maxHeartbeats 4000000 in
set_option maxRecDepth 100000 in
theorem c_ffollow_clear (L fb : Nat) (k : Kn) (A : Option Addr) (cap nb cap2 : Nat) (N : Nat → Nat) (Lo : Nat → Option Nat) (bm n : Nat) (w : World) (hk : k.Ok) (hL : L ≤ w.heap.size) (h : FQ L fb k A cap nb cap2 k.ps N Lo bm n w) :
  Calls Tryz.prog 89 #[.pointer (some ⟨fb, 0, none⟩), .int .i64 (pow2 k.l)] w fun e w' => e = .returned (.tuple #[]) ∧ Below L w w' ∧ Calm w w' ∧ ∃ A' cap' nb' cap2' N' Lo' n', n' ≤ k.cleared.ps.length ∧ FQ L fb k.cleared A' cap' nb' cap2' k.cleared.ps N' Lo' bm n' w' := by
 have hcb := hk.cbd
 have hb0 := hk.base0
 have hb1 := hk.base1
 have hck := hk.cleared
 have hset := hk.set
 have hlen := hk.len
 have hbl : k.base.toNat ≤ k.ps.length := by omega
 have hcl : k.cleared.ps.length = k.base.toNat := by simp only [Kn.cleared, List.length_take]; omega
 have HCl := hid (fun (v : World) => c_ClearCode_yes k.o k.l k.m v hset)
 have HKf := hid (c_follow_clear fb L 112 _ k A cap w hk h.bx h.kat (own_ps_at h.row) h.row h.ne_fb)
 have HNx := hid (fun (A' : Option Addr) (cap' : Nat) (v : World) (hv : KAt v fb k.cleared (.slice A' k.cleared.ps.length cap')) => c_nextWord fb k.cleared A' cap' v hck hv)
 obtain ⟨M, hM⟩ : ∃ M : Nat, M = k.c.toNat + 2 + k.base.toNat := ⟨_, rfl⟩
 have enx : k.cleared.next = (M : Int) := by
  unfold Kn.next
  rw [hcl, hM]
  have e : k.cleared.c = k.c := rfl
  rw [e]; omega
 simp only [enx] at HNx
 have HCu := hid (fun (A' : Option Addr) (cap' : Nat) (v : World) (hLv : L ≤ v.heap.size) (hF : FQ L fb k.cleared A' cap' nb cap2 (k.ps.take k.base.toNat) N Lo bm 0 v) => c_catchUp L fb k.cleared A' cap' nb cap2 N Lo bm 0 k.cleared.ps.length v hck (Nat.le_refl _) hLv (Nat.zero_le _) (by rw [List.take_length]; exact hF))
 have hMc : (M : Int) ≤ (cap2 : Int) := by
  have h1 := own_cap h.nds
  have h2 : M ≤ top k.c k.ps := by rw [hM]; unfold top; omega
  omega
 have hMc2 : M ≤ cap2 := by omega
 have HM := hid hM
 have H := hid h
 have Hbl := hid hbl
 have hc0 : 0 ≤ k.c := by omega
 obtain ⟨p0, p1, p2, p3, p4, p5, p6, p7⟩ := h.bx.cells8
 clear h hk hck hset hM enx hcl hbl
 go_enter Tryz.func89, Tryz.ntmps89
 go_wp2_with fail
 refine HKf.out.mono ?_
 rintro e w1 ⟨rfl, A', cap', hbx, hown, hnear⟩
 have HF1 := hid (show FQ L fb k.cleared A' cap' nb cap2 k.ps N Lo bm n w1 from H.out.known rfl rfl hbx hown hnear)
 have bW : Below L w w1 := H.out.near_below hnear hL
 have cW : Calm w w1 := H.out.near_calm hnear
 have hL1 : L ≤ w1.heap.size := Nat.le_trans hL bW.size
 clear hbx hown hnear p0 p1 p2 p3 p4 p5 p6 p7 HKf
 obtain ⟨p0, p1, p2, p3, p4, p5, p6, p7⟩ := HF1.out.bx.cells8
 have e0 : w1.cell? ⟨fb, 0, none⟩ = some (.int .i64 k.o) := p0
 have e1 : w1.cell? ⟨fb, 1, none⟩ = some (.int .i64 k.l) := p1
 have e2 : w1.cell? ⟨fb, 2, none⟩ = some (.int .i64 k.m) := p2
 clear p0 p1 p2 p3 p4 p5 p6 p7
 go_wp2_with fail
 refine (HCl.out _).mono ?_
 rintro e w2 ⟨rfl, hb2⟩
 have HF2 := hid (HF1.out.on hb2)
 have bW2 : Below L w w2 := bW.trans (hb2.mono hL1)
 have cW2 : Calm w w2 := cW.trans (Calm.of hb2)
 have q7 := HF2.out.bx.cell 7
 have q7' : w2.cell? ⟨fb, 7, none⟩ = some (.map (some bm)) := q7
 clear q7 e0 e1 e2
 obtain ⟨w3, hrun, hMp, hg3⟩ := HF2.out.fd.mp.clear
 have HC3 := hid (show FCut L fb k.cleared A' cap' nb cap2 k.ps N Lo bm w3 from HF2.out.cut Hbl.out hMp hg3)
 have bW3 : Below L w w3 := bW2.trans (below_of_grown hg3 (Nat.le_trans hL bW2.size) (fun g e => by obtain rfl := Option.some.inj e; exact H.out.fd.mge))
 have cW3 : Calm w w3 := cW2.trans (Calm.grown hg3 (fun g e => Or.inr (by obtain rfl := Option.some.inj e; exact HF2.out.fd.mp.obj)))
 clear hMp hg3
 go_wp2_with (at_builtin; go_loud (refine wpList_clear rfl _ _ rfl _ rfl w3 hrun ?_))
 have c6 := HC3.out.bx.cell 6
 have c6' : w3.cell? ⟨fb, 6, none⟩ = some (.slice (some ⟨nb, 0, none⟩) (top k.c k.ps) cap2) := c6
 have f6 := HC3.out.bx.frozen 6
 have hS := HC3.out.t7
 clear c6
 replace HC3 := hid (HC3.out.on (bel_drew (Below.refl _ _)))
 replace bW3 := bW3.drew
 replace cW3 := cW3.drew
 refine wp_region_noPanic ?_
 refine wp_region_held_drew (S := (fun v => v.cell? ⟨fb, 7, none⟩ = some (.map (some bm)) ∧ True)) (by kernel_rfl) (t1_drew hS) (fun hHeld => ?_)
 refine tk 0 ?_
 refine tk 1 ?_
 refine tk 2 ?_
 refine tk 3 ?_
 refine tk 5 ?_
 refine tk 6 ?_
 refine tk 7 ?_
 refine wpAnyH_ready (rs := [4, 8]) (by kernel_rfl) (by simp) ?_
 refine AllReadyH.cons (o := ?or1_4) ?ir1_4 (fun K hK => ?sr1_4) (AllReadyH.cons (o := ?or1_8) ?ir1_8 (fun K hK => ?sr1_8) AllReadyH.nil)
 case ir1_4 => (simp only [List.getElem?_toArray, List.getElem?_cons_succ, List.getElem?_cons_zero]; rfl)
 case ir1_8 => (simp only [List.getElem?_toArray, List.getElem?_cons_succ, List.getElem?_cons_zero]; rfl)
 case' sr1_4 =>
  ((obtain ⟨_, _, _, _, _, _, c6, _⟩ := HC3.out.bx.cells8; go_simp))
  refine hK.out _ _ ?kr1_4 (fun hHeld => ?_)
  case kr1_4 => (try dsimp only); (first | with_reducible assumption | with_reducible exact HQ.out.t7 | with_reducible exact HC3.out.t7 | exact t1_bel (by assumption) (by assumption) | assumption | exact t1_alloc (by assumption) _ | exact HQ.out.t7 | exact HC3.out.t7)
  clear hK K
  try simp only [Act.put, List.setIfInBounds_toArray, List.set_cons_zero, List.set_cons_succ]
  refine wpAnyH_ready (rs := [8]) (by kernel_rfl) (by simp) ?_
  refine AllReadyH.cons (o := ?or1b1_8) ?ir1b1_8 (fun K hK => ?sr1b1_8) AllReadyH.nil
  case ir1b1_8 => (simp only [List.getElem?_toArray, List.getElem?_cons_succ, List.getElem?_cons_zero]; rfl)
  (go_simp; (go_at_call 134; refine (HNx.out _ _ _ HC3.out.kat).mono ?_; rintro e wR ⟨rfl, hbR⟩; replace HC3 := hid (HC3.out.on hbR); replace bW3 := bW3.trans (hbR.mono (Nat.le_trans hL bW3.size)); replace cW3 := cW3.trans (Calm.of hbR); clear hbR))
  refine hK.out _ _ ?kr1b1_8 (fun hHeld => ?_)
  case kr1b1_8 => (try dsimp only); (first | with_reducible assumption | with_reducible exact HQ.out.t7 | with_reducible exact HC3.out.t7 | exact t1_bel (by assumption) (by assumption) | assumption | exact t1_alloc (by assumption) _ | exact HQ.out.t7 | exact HC3.out.t7)
  clear hK K
  try simp only [Act.put, List.setIfInBounds_toArray, List.set_cons_zero, List.set_cons_succ]
  refine tk 9 ?_
  refine tk 10 ?_
  refine tk 11 ?_
  refine wpAnyH_ready (rs := [12]) (by kernel_rfl) (by simp) ?_
  refine AllReadyH.cons (o := ?or1b1_12) ?ir1b1_12 (fun K hK => ?sr1b1_12) AllReadyH.nil
  case ir1b1_12 => (simp only [List.getElem?_toArray, List.getElem?_cons_succ, List.getElem?_cons_zero]; rfl)
  ((have f6 := HC3.out.bx.frozen 6; obtain ⟨_, _, _, _, _, _, c6, _⟩ := HC3.out.bx.cells8; go_simp; have HQ := hid (HC3.out.done hc0 Hbl.out HM.out); have bW4 := bW3.setCell (p := ⟨fb, 6, none⟩) HC3.out.lb (.slice (some ⟨nb, 0, none⟩) M cap2); have cW4 := cW3.trans (Calm.set_ HC3.out.bx (by decide) 6 (.slice (some ⟨nb, 0, none⟩) M cap2))))
  refine hK.out _ _ ?kr1b1_12 (fun hHeld => ?_)
  case kr1b1_12 => (try dsimp only); (first | with_reducible assumption | with_reducible exact HQ.out.t7 | with_reducible exact HC3.out.t7 | exact t1_bel (by assumption) (by assumption) | assumption | exact t1_alloc (by assumption) _ | exact HQ.out.t7 | exact HC3.out.t7)
  clear hK K
  try simp only [Act.put, List.setIfInBounds_toArray, List.set_cons_zero, List.set_cons_succ]
  refine wpAnyH_done (by kernel_rfl) ?_ _
  refine NoPanic.normal ?_
 case' sr1_8 =>
  (go_simp; (go_at_call 134; refine (HNx.out _ _ _ HC3.out.kat).mono ?_; rintro e wR ⟨rfl, hbR⟩; replace HC3 := hid (HC3.out.on hbR); replace bW3 := bW3.trans (hbR.mono (Nat.le_trans hL bW3.size)); replace cW3 := cW3.trans (Calm.of hbR); clear hbR))
  refine hK.out _ _ ?kr1_8 (fun hHeld => ?_)
  case kr1_8 => (try dsimp only); (first | with_reducible assumption | with_reducible exact HQ.out.t7 | with_reducible exact HC3.out.t7 | exact t1_bel (by assumption) (by assumption) | assumption | exact t1_alloc (by assumption) _ | exact HQ.out.t7 | exact HC3.out.t7)
  clear hK K
  try simp only [Act.put, List.setIfInBounds_toArray, List.set_cons_zero, List.set_cons_succ]
  refine wpAnyH_ready (rs := [4]) (by kernel_rfl) (by simp) ?_
  refine AllReadyH.cons (o := ?or1b2_4) ?ir1b2_4 (fun K hK => ?sr1b2_4) AllReadyH.nil
  case ir1b2_4 => (simp only [List.getElem?_toArray, List.getElem?_cons_succ, List.getElem?_cons_zero]; rfl)
  ((obtain ⟨_, _, _, _, _, _, c6, _⟩ := HC3.out.bx.cells8; go_simp))
  refine hK.out _ _ ?kr1b2_4 (fun hHeld => ?_)
  case kr1b2_4 => (try dsimp only); (first | with_reducible assumption | with_reducible exact HQ.out.t7 | with_reducible exact HC3.out.t7 | exact t1_bel (by assumption) (by assumption) | assumption | exact t1_alloc (by assumption) _ | exact HQ.out.t7 | exact HC3.out.t7)
  clear hK K
  try simp only [Act.put, List.setIfInBounds_toArray, List.set_cons_zero, List.set_cons_succ]
  refine tk 9 ?_
  refine tk 10 ?_
  refine tk 11 ?_
  refine wpAnyH_ready (rs := [12]) (by kernel_rfl) (by simp) ?_
  refine AllReadyH.cons (o := ?or1b2_12) ?ir1b2_12 (fun K hK => ?sr1b2_12) AllReadyH.nil
  case ir1b2_12 => (simp only [List.getElem?_toArray, List.getElem?_cons_succ, List.getElem?_cons_zero]; rfl)
  ((have f6 := HC3.out.bx.frozen 6; obtain ⟨_, _, _, _, _, _, c6, _⟩ := HC3.out.bx.cells8; go_simp; have HQ := hid (HC3.out.done hc0 Hbl.out HM.out); have bW4 := bW3.setCell (p := ⟨fb, 6, none⟩) HC3.out.lb (.slice (some ⟨nb, 0, none⟩) M cap2); have cW4 := cW3.trans (Calm.set_ HC3.out.bx (by decide) 6 (.slice (some ⟨nb, 0, none⟩) M cap2))))
  refine hK.out _ _ ?kr1b2_12 (fun hHeld => ?_)
  case kr1b2_12 => (try dsimp only); (first | with_reducible assumption | with_reducible exact HQ.out.t7 | with_reducible exact HC3.out.t7 | exact t1_bel (by assumption) (by assumption) | assumption | exact t1_alloc (by assumption) _ | exact HQ.out.t7 | exact HC3.out.t7)
  clear hK K
  try simp only [Act.put, List.setIfInBounds_toArray, List.set_cons_zero, List.set_cons_succ]
  refine wpAnyH_done (by kernel_rfl) ?_ _
  refine NoPanic.normal ?_
 all_goals
  go_wp2_with fail
  refine (HCu.out _ _ _ (Nat.le_trans hL bW4.size) HQ.out).mono ?_
  rintro e w5 ⟨rfl, hb5, hc5, nb', cap2', N', Lo', n', hn', hF'⟩
  have HF' := hid hF'
  clear hF'
  go_wp2
  go_end0
  exact ⟨rfl, bW4.trans hb5, cW4.trans hc5, A', cap', nb', cap2', N', Lo', n', hn', HF'.out⟩
end

section
open Go.ChangeShapes Go.WideShapes Go.ChangeAt Go.RowKit Go.Joins
set_option linter.unusedVariables false

/-- a finder in block fb, whatever its rows and tables are -/
def FAt (L fb : Nat) (k : Kn) (w : World) : Prop := ∃ A cap nb cap2 N Lo bm n, n ≤ k.ps.length ∧ FQ L fb k A cap nb cap2 k.ps N Lo bm n w
theorem FAt.on {L fb : Nat} {k : Kn} {w w' : World} (h : FAt L fb k w) (hb : Below w.heap.size w w') : FAt L fb k w' := by
 obtain ⟨A, cap, nb, cap2, N, Lo, bm, n, hn, hF⟩ := h
 exact ⟨A, cap, nb, cap2, N, Lo, bm, n, hn, hF.on hb⟩
theorem FAt.kat {L fb : Nat} {k : Kn} {w : World} (h : FAt L fb k w) : ∃ A cap, KAt w fb k (.slice A k.ps.length cap) := by
 obtain ⟨A, cap, nb, cap2, N, Lo, bm, n, hn, hF⟩ := h
 exact ⟨A, cap, hF.kat⟩
theorem FAt.away {L fb : Nat} {k : Kn} {w w' : World} {e : TypeId} {row : Option Nat} (h : FAt L fb k w) (hg : w.grownBy w' row) (hrow : ∀ g, row = some g → ∃ cs, w.heap[g]? = some (.cells cs e (0, 0))) (he : ¬ Fam e) : FAt L fb k w' := by
 obtain ⟨A, cap, nb, cap2, N, Lo, bm, n, hn, h⟩ := h
 have hne : ∀ {t : TypeId}, Fam t → t ≠ e := fun ht e1 => he (e1 ▸ ht)
 have key : ∀ {g : Nat} {t : TypeId} {cs : Array Value}, Blk w g t cs → Fam t → some g ≠ row := fun {g t cs} hb ht e1 => by
  obtain ⟨cs2, h3⟩ := hrow g e1.symm
  have := hb.symm.trans h3
  simp at this
  exact hne ht this.2
 have kr : ∀ {B size m : Nat} {t : TypeId} {v : Value} {xs : List Value}, w.ownsRow B t size v m xs → Fam t → w'.ownsRow B t size v m xs := fun {B size m t v xs} ho ht => ho.kept hg (by
  by_cases hv : v.ownBlock = row
  ·cases hvo : v.ownBlock with
   | none => exact Or.inl rfl
   | some g =>
    obtain ⟨cs, hc⟩ := own_elem ho g hvo
    exact absurd (hvo.symm.trans hv) (key hc ht)
  ·exact Or.inr hv)
 exact ⟨A, cap, nb, cap2, N, Lo, bm, n, hn, ⟨h.bx.grown hg (key h.bx (by decide)), kr h.row (by decide), kr h.nds (by decide), h.fd.away hg hrow (fun e1 => hne (t := 144) (by decide) e1.symm) (fun e1 => hne (t := 201) (by decide) e1.symm), h.lb⟩⟩

/-- the finder's follow -/
theorem c_ffollow (L fb : Nat) (k : Kn) (w : World) (hk : k.Ok) (hL : L ≤ w.heap.size) (h : FAt L fb k w) (code : Int) (hc : code = k.c ∨ k.Fol code) :
  Calls Tryz.prog 89 #[.pointer (some ⟨fb, 0, none⟩), .int .i64 code] w fun e w' => e = .returned (.tuple #[]) ∧ Below L w w' ∧ Calm w w' ∧ FAt L fb (k.step code) w' := by
 obtain ⟨A, cap, nb, cap2, N, Lo, bm, n, hn, hF⟩ := h
 rcases hc with rfl | hc
 ·rw [Kn.step_clear]
  refine (c_ffollow_clear L fb k A cap nb cap2 N Lo bm n w hk hL hF).mono ?_
  rintro e w' ⟨rfl, h1, h2, A', cap', nb', cap2', N', Lo', n', hn', h3⟩
  exact ⟨rfl, h1, h2, A', cap', nb', cap2', N', Lo', _, n', hn', h3⟩
 ·rw [Kn.step_fol hk hc]
  refine (c_ffollow_code L fb k A cap nb cap2 N Lo bm n w hk hL hn hF code hc).mono ?_
  rintro e w' ⟨rfl, h1, h2, A', cap', nb', cap2', N', Lo', n', hn', h3⟩
  exact ⟨rfl, h1, h2, A', cap', nb', cap2', N', Lo', _, n', hn', h3⟩

/-- codes in a variable of their own, and the finder, in another one -/
structure GS (L cb fx fb : Nat) (k : Kn) (cs : List Int) (A3 : Option Addr) (c3 : Nat) (w : World) : Prop where
 bx : Blk w cb 126 #[.slice A3 cs.length c3]
 row : w.ownsRow L 3 1 (.slice A3 cs.length c3) cs.length (cs.map iv)
 fx : Blk w fx 96 #[.pointer (some ⟨fb, 0, none⟩)]
 fa : FAt L fb k w
 lc : L ≤ cb
theorem GS.on {L cb fx fb : Nat} {k : Kn} {cs : List Int} {A3 : Option Addr} {c3 : Nat} {w w' : World} (h : GS L cb fx fb k cs A3 c3 w) (hb : Below w.heap.size w w') : GS L cb fx fb k cs A3 c3 w' := ⟨h.bx.on hb, own_on h.row hb, h.fx.on hb, h.fa.on hb, h.lc⟩
end
end Go.Proofs.YtmlaaammfnboiaaGreatDoor
