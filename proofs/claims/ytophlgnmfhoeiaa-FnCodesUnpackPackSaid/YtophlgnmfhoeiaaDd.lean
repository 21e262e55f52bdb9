/- Contracts of the model's own drawing of arguments: what is known, and codes. -/
import Derived.Test.YtophlgnmfhoeiaaDp
import Derived.Test.YtophlgnmfhoeiaaDc
namespace Go.Proofs.Ytophlgnmfhoeiaa
open Go.ChangeShapes Go.WideShapes Go.ChangeAt Go.RowKit Go.Joins
set_option linter.unusedVariables false

/-- what is known and codes, drawn -/
def AKnownCodes (w : World) (e : Ending) (w' : World) : Prop := ∃ (k : Kn) (A : Option Addr) (cap : Nat) (cs : List Int) (A2 : Option Addr) (cap2 : Nat), e = .returned (.tuple #[.agg #[.int .i64 k.o, .int .i64 k.l, .int .i64 k.m, .slice A k.ps.length cap, .int .i64 k.base, .int .i64 k.last], .slice A2 cs.length cap2]) ∧ k.Wf ∧ k.ps.length ≤ 1000 ∧ cs.length ≤ 3102 ∧ (∀ c ∈ cs, -9223372036854775808 ≤ c ∧ c ≤ 9223372036854775807) ∧ w'.ownsRow w.heap.size 139 2 (.slice A k.ps.length cap) k.ps.length (prs k.ps) ∧ w'.ownsRow w.heap.size 3 1 (.slice A2 cs.length cap2) cs.length (cs.map iv) ∧ Below w.heap.size w w'
/-- the codes so far, beside what is known -/
structure CsAt (w : World) (cs : List Int) (v : Value) (wr : World) : Prop where
  cd : wr.ownsRow (w.heap.size + 2) 3 1 v cs.length (cs.map iv)
  bd : ∀ c ∈ cs, -9223372036854775808 ≤ c ∧ c ≤ 9223372036854775807
  le : cs.length ≤ 3102
theorem CsAt.on {w wr w' : World} {cs : List Int} {v : Value} (h : CsAt w cs v wr) (hb : Below wr.heap.size wr w') : CsAt w cs v w' := ⟨own_on h.cd hb, h.bd, h.le⟩
theorem CsAt.pick {w wr w' : World} {cs : List Int} {v : Value} (h : CsAt w cs v wr) (hg : wr.grownBy w' (some (w.heap.size + 1))) : CsAt w cs v w' := ⟨own_grown1 h.cd hg (by omega), h.bd, h.le⟩
theorem OpAt.app {w wr w' : World} {q b : Nat} {k : Kn} {A : Option Addr} {cap : Nat} {cs : List Int} {v : Value} (h : OpAt w q b k A cap wr) (hS : CsAt w cs v wr) (hb : Below (w.heap.size + 2) wr w') (hg : wr.grownBy w' v.ownBlock) : OpAt w q b k A cap w' := by
  have hge : ∀ g, v.ownBlock = some g → w.heap.size + 2 ≤ g := fun g e => (hS.cd.lt g e).1
  refine ⟨h.rx.below hb (by omega), h.bx.grown hg ?_, h.row.kept hg (own_apart h.row hS.cd (by decide)), h.rd.grown hg (fun g e => by have := hge g e; omega), h.bel.trans (hb.mono (by omega)), h.lt⟩
  intro e
  rcases own_apart_blk hS.cd h.bx (by decide) with h1 | h1
  · rw [h1] at e; cases e
  · exact h1 e.symm
theorem CsAt.app {w wr w' : World} {cs : List Int} {v v' : Value} {x : Int} (h : CsAt w cs v wr) (hx : -9223372036854775808 ≤ x ∧ x ≤ 9223372036854775807) (hl : cs.length ≤ 3101) (ho : w'.ownsRow (w.heap.size + 2) 3 1 v' (cs.length + 1) ((cs ++ [x]).map iv)) : CsAt w (cs ++ [x]) v' w' := by
  refine ⟨by rw [show (cs ++ [x]).length = cs.length + 1 from by simp]; exact ho, fun c hc => ?_, by simp; omega⟩
  rcases List.mem_append.1 hc with hc | hc
  · exact h.bd c hc
  · have : c = x := by simpa using hc
    omega
theorem CsAt.set_ {w wr : World} {cs : List Int} {G n cap : Nat} (hn : n = cs.length) {i : Nat} {x : Int} (h : CsAt w cs (.slice (some ⟨G, 0, none⟩) n cap) wr) (hx : -9223372036854775808 ≤ x ∧ x ≤ 9223372036854775807) : CsAt w (cs.set i x) (.slice (some ⟨G, 0, none⟩) n cap) (wr.setCell ⟨G, i, none⟩ (.int .i64 x)) := by
  subst hn
  refine ⟨?_, fun c hc => ?_, by simpa using h.le⟩
  · rw [List.length_set]; exact own_store_int h.cd i x
  · rcases List.mem_or_eq_of_mem_set hc with h1 | rfl
    · exact h.bd c h1
    · exact hx
theorem CsAt.cell {w wr : World} {cs : List Int} {G n cap : Nat} (hn : n = cs.length) (h : CsAt w cs (.slice (some ⟨G, 0, none⟩) n cap) wr) {i : Nat} (hi : i < n) : wr.cell? ⟨G, i, none⟩ = some (.int .i64 (cs[i]'(by omega))) ∧ wr.frozen? ⟨G, i, none⟩ = false := by
  subst hn
  obtain ⟨cur, hh⟩ := own_elem h.cd G rfl
  exact ⟨own_int h.cd i _ (List.getElem?_eq_getElem hi), Blk.frozen hh i⟩
theorem ZRel.go {w wr w' : World} {j : Nat} {v v' : Value} (h : CsAt w (List.replicate j (0 : Int)) v wr) (hj : j ≤ 3101) (ho : w'.ownsRow (w.heap.size + 2) 3 1 v' ((List.replicate j (0 : Int)).length + 1) ((List.replicate j (0 : Int) ++ [0]).map iv)) : CsAt w (List.replicate (j + 1) 0) v' w' := by
  have := h.app (x := 0) (by omega) (by simp; omega) (v' := v') (w' := w') ho
  rw [List.replicate_succ']; exact this
theorem own_slb {w : World} {B : Nat} {e : TypeId} {size n : Nat} {v : Value} {xs : List Value} (h : w.ownsRow B e size v n xs) (hn : 0 < n) : ∃ G cap, v = .slice (some ⟨G, 0, none⟩) n cap := by
  rcases h.2 with ⟨_, h0⟩ | ⟨g, cap', cur, e1, _⟩
  · omega
  · exact ⟨g, cap', e1⟩

set_option maxHeartbeats 8000000 in
set_option maxRecDepth 100000 in
theorem c_DrawCodesValid (A' : Option Addr) (n cap' : Nat) (w : World) (hc : CodeAt w w.heap.size A' n cap') : Calls Try.prog 112 #[.slice A' n cap'] w (AKnownCodes w) := by
  have k0 := Blk.new w 32 #[.int .i64 0, .int .i64 0, .int .i64 0, .slice none 0 0, .int .i64 0, .int .i64 0]
  have HCo := hid (hc.keep (fun k hk => Below.heap_alloc w (.cells #[.int .i64 0, .int .i64 0, .int .i64 0, .slice none 0 0, .int .i64 0, .int .i64 0] 32) k (by omega)))
  clear hc
  go_enter Try.func112, Try.ntmps112
  go_wp2_with fail
  refine (c_l9Open _ _ _ _ _ HCo.out (by simp)).mono ?_
  rintro e w1 ⟨rfl, hr1, hb1, hz1⟩
  rw [alloc_size] at hr1 hz1
  have k1 := k0.on hb1
  have b1 : Below w.heap.size w w1 := bel_trans (bel_alloc (Below.refl w.heap.size w) _) hb1
  clear HCo k0 hb1
  go_wp2_with fail
  refine (c_l2Draw _ _ 0 _ hr1 (by omega)).mono ?_
  rintro e w2 ⟨k, A, cap, rfl, hk, hl, ho2, hr2, hg2⟩
  have hz2 := hg2.size
  have HZ := hid (OpAt.new (k1.grown hg2 (by simp)) (own_mono ho2 (by omega)) hr2 (bel_grown b1 hg2 (by omega)) (by omega))
  clear k1 b1 hr1 ho2 hr2 hg2
  have HKd := hid (fun (q : Nat) (v : World) hr hq hrow hB0 => c_l2Codes w.heap.size (w.heap.size + 1) q (w.heap.size + 2) 24 k A cap v hr hq (by omega) hrow (by omega) hB0 hk hl)
  have HB := hid (fun (q : Nat) (v : World) hr hq hrow hB0 => c_l2Bad w.heap.size (w.heap.size + 1) q (w.heap.size + 2) k A cap v hr hq hrow (by omega) hB0 hk hl)
  obtain ⟨_, ⟨hl1, hl2⟩, hm1, hm2⟩ := setOk_iff.1 hk.set
  have HE := hid (fun (v : World) => c_l1End k.o k.l k.m v (by omega) (by omega))
  have HLa := hid (fun (v : World) => c_l1Last k.o k.l k.m v (by omega) (by omega))
  have hcb : 2 ≤ pow2 k.l ∧ pow2 k.l ≤ 256 ∧ pow2 k.l + 3 ≤ pow2 k.m - 1 ∧ pow2 k.m - 1 ≤ 1023 := hk.cbd
  obtain ⟨C, hC⟩ : ∃ C, C = pow2 k.l := ⟨_, rfl⟩
  obtain ⟨M, hM⟩ : ∃ M, M = pow2 k.m := ⟨_, rfl⟩
  rw [← hC] at HE hcb
  rw [← hM] at HLa hcb
  clear hC hM hk
  obtain ⟨p0, p1, p2, p3, p4, p5⟩ := HZ.out.bx.cells6
  go_wp2_with fail
  refine (HKd.out _ _ HZ.out.rd (by omega) HZ.out.row (by have := HZ.out.lt; have := HZ.out.bx.lt; omega)).mono ?_
  rintro e w3 ⟨cs, A2, c2, rfl, _, hlen, hbd, hcd, hr3, hg3⟩
  have hz3 := HZ.out.bx.lt
  have hz4 := HZ.out.lt
  replace HZ := hid (HZ.out.pick hr3 hg3)
  have HS := hid (show CsAt w cs (.slice A2 cs.length c2) w3 from ⟨own_mono hcd (by omega), fun c hc => by have := hbd c hc; omega, by omega⟩)
  clear HKd hr3 hg3 hlen hbd hcd p0 p1 p2 p3 p4 p5
  obtain ⟨p0, p1, p2, p3, p4, p5⟩ := HZ.out.bx.cells6
  go_wp2_with fail
  refine (c_pick _ _ _ 200 _ HZ.out.rd (by omega) (by decide)).mono ?_
  rintro e w4 ⟨x, rfl, hx0, hx1, _, hr4, hg4⟩
  replace HZ := hid ((HZ.out.pick hr4 hg4).more (show _ ≤ 400 by omega))
  replace HS := hid (HS.out.pick hg4)
  clear hx1 hr4 hg4 p0 p1 p2 p3 p4 p5
  obtain ⟨p0, p1, p2, p3, p4, p5⟩ := HZ.out.bx.cells6
  obtain ⟨Z, hZ⟩ : ∃ Z, Z = M - 1 := ⟨_, rfl⟩
  rw [← hZ] at HLa
  have ez : IntKind.i64.wrap (Z + 1) = Z + 1 := IntWalk.i64_in _ (by omega)
  have hZb : 0 ≤ Z ∧ Z ≤ 1023 := by omega
  clear hZ
  by_cases c0 : x = 0
  · skip
    have e0 : (x == 0) = true := eq_yes c0
    clear c0
    have HR := hid (show ∃ (j : Nat), (Value.int .i64 0) = .int .i64 (j : Int) ∧ j ≤ 3101 ∧ OpAt w (401 + j) w2.heap.size k A cap (w4.alloc (.cells #[] 3)) ∧ CsAt w (List.replicate j (0 : Int)) (.slice (some ⟨w4.heap.size, 0, none⟩) 0 0) (w4.alloc (.cells #[] 3)) from ⟨0, rfl, by omega, (HZ.out.on (bel_alloc (Below.refl _ _) _)).more (by omega), ⟨by have := World.ownsRow_made (e := 3) (size := 1) (base := w.heap.size + 2) w4 #[] 0 (by have := HZ.out.lt; have := HZ.out.bx.lt; omega) (by simp [maxLen]) rfl; simpa using this, by simp, by simp⟩⟩)
    clear HZ HS p0 p1 p2 p3 p4 p5
    go_wp2_with fail
    go_loopw [6, 7] (fun v i wr => ∃ (j : Nat), i = .int .i64 (j : Int) ∧ j ≤ 3101 ∧ OpAt w (401 + j) w2.heap.size k A cap wr ∧ CsAt w (List.replicate j (0 : Int)) v wr) (fun _ i _ => 3102 - (intOf i).toNat)
    case atStart => exact HR.out
    case round =>
      obtain ⟨j, rfl, hj, hZ0, hS0⟩ := hrel
      clear HR
      have HZ := hid hZ0
      have HS := hid hS0
      clear hZ0 hS0
      obtain ⟨p0, p1, p2, p3, p4, p5⟩ := HZ.out.bx.cells6
      go_wp2_with fail
      refine (c_num _ _ _ _ 3 [2000, 2001, 3101] _ (HZ.out.rd.alloc _) (by omega) (by exact intsAt_new _ _ _) rfl (by decide) (by decide) (by have := HZ.out.rd.lt; omega)).mono ?_
      rintro e w4 ⟨y, rfl, hy, hr4, hg4⟩
      have hyb : y ≤ 3101 := by simp at hy; omega
      replace HZ := hid ((HZ.out.on (bel_alloc (Below.refl _ _) _)).pick hr4 hg4)
      replace HS := hid ((HS.out.on (bel_alloc (Below.refl _ _) _)).pick hg4)
      clear hy hr4 hg4 p0 p1 p2 p3 p4 p5
      obtain ⟨p0, p1, p2, p3, p4, p5⟩ := HZ.out.bx.cells6
      by_cases hlt : (j : Int) < y
      · skip
        go_wp2_with (at_builtin; go_loud (refine app_int rfl (.tmp 26) (.tmp 27) 43 rfl (w.heap.size + 2) 3 Try.underlying43 Try.info_int _ (List.replicate j (0 : Int)).length (List.replicate j (0 : Int)) rfl HS.out.cd 0 _ rfl 1 rfl (by rw [List.length_replicate]; omega) (by have := HZ.out.lt; have := HZ.out.bx.lt; omega) ?_; intro v7 w7 hown7 hb7 hg7; have HZ7 := hid (HZ.out.app HS.out hb7 hg7); have HS7 := hid (ZRel.go HS.out hj hown7)))
        go_wp2
        go_roundw
        case rel => exact ⟨j + 1, by go_num, by omega, HZ7.out.more (by omega), HS7.out⟩
        case measure => simp [intOf]; omega
      · skip
        obtain ⟨A2, c2, rfl⟩ := own_sl HS.out.cd
        rw [List.length_replicate] at HS
        try rw [List.length_replicate]
        have hcl9 : j ≤ 3102 := by simpa using HS.out.le
        by_cases hpos : 0 < j
        · skip
          obtain ⟨G, c5, hsl⟩ := own_slb HS.out.cd (by simpa using hpos)
          simp only [Value.slice.injEq, List.length_replicate] at hsl
          obtain ⟨rfl, _, rfl⟩ := hsl
          go_wp2_with fail
          refine (c_pick _ _ _ 10 _ HZ.out.rd (by omega) (by decide)).mono ?_
          rintro e w5 ⟨x5, rfl, hx50, hx51, _, hr5, hg5⟩
          replace HZ := hid (HZ.out.pick hr5 hg5)
          replace HS := hid (HS.out.pick hg5)
          clear hx51 hr5 hg5 p0 p1 p2 p3 p4 p5
          obtain ⟨p0, p1, p2, p3, p4, p5⟩ := HZ.out.bx.cells6
          by_cases d5 : x5 = 0
          · skip
            have e5 : (x5 == 0) = true := eq_yes d5
            clear d5
            have hS := HZ.out.bx.cells6t
            go_wp2_with fail
            replace HZ := hid (HZ.out.on (bel_drew (Below.refl w5.heap.size w5)))
            replace HS := hid (HS.out.on (bel_drew (Below.refl w5.heap.size w5)))
            refine wp_region_noPanic ?_
            refine zb (T := (fun v => v.cell? ⟨w2.heap.size, 0, none⟩ = some (.int .i64 k.o) ∧ v.cell? ⟨w2.heap.size, 1, none⟩ = some (.int .i64 k.l) ∧ v.cell? ⟨w2.heap.size, 2, none⟩ = some (.int .i64 k.m) ∧ v.cell? ⟨w2.heap.size, 3, none⟩ = some (.slice A k.ps.length cap) ∧ v.cell? ⟨w2.heap.size, 4, none⟩ = some (.int .i64 k.base) ∧ v.cell? ⟨w2.heap.size, 5, none⟩ = some (.int .i64 k.last) ∧ True)) 19 (by kernel_rfl) (t6_drew hS) (fun hHeld => ?_)
            refine zk 0 ?_
            refine zk 1 ?_
            refine zk 2 ?_
            refine zk 3 ?_
            refine zk 5 ?_
            refine zk 6 ?_
            refine zk 7 ?_
            refine zk 9 ?_
            refine zk 10 ?_
            refine zk 12 ?_
            refine zk 13 ?_
            refine zr (rs := [4]) ?_
            refine AllUp.cons (o := ?oz1_4) ?iz1_4 (fun K hK => ?sz1_4) AllUp.nil
            case iz1_4 => (simp only [List.getElem?_toArray, List.getElem?_cons_succ, List.getElem?_cons_zero]; rfl)
            (go_simp; (go_at_call 81; refine (c_pick _ _ _ (j : Int) _ HZ.out.rd (by omega) (by omega)).mono ?_; rintro e wP ⟨x6, rfl, hx60, hx61, _, hr6, hg6⟩; obtain ⟨I, rfl⟩ := Int.eq_ofNat_of_zero_le hx60; have hI := hx61 (by omega); replace HZ := hid (HZ.out.pick hr6 hg6); replace HS := hid (HS.out.pick hg6); clear hx61 hr6 hg6))
            refine hK.out _ _ (fun _ => ?kz1_4) (fun hHeld0 => ?_)
            case kz1_4 => (try dsimp only); (first | with_reducible assumption | with_reducible exact HZ.out.bx.cells6t | with_reducible exact (HZ.out.bx.alloc _).cells6t | exact t6_bel (by assumption) (by assumption) | assumption | exact t6_alloc (by assumption) _ | exact HZ.out.bx.cells6t | exact (HZ.out.bx.alloc _).cells6t)
            (try clear hHeld)
            have hHeld := hHeld0 (by decide)
            clear hHeld0 hK K
            try simp only [Act.put, List.setIfInBounds_toArray, List.set_cons_zero, List.set_cons_succ]
            refine zr (rs := [8]) ?_
            refine AllUp.cons (o := ?oz1_8) ?iz1_8 (fun K hK => ?sz1_8) AllUp.nil
            case iz1_8 => (simp only [List.getElem?_toArray, List.getElem?_cons_succ, List.getElem?_cons_zero]; rfl)
            (go_simp; (go_at_call 126; refine (HE.out _).mono ?_; rintro e wE ⟨rfl, hbE⟩; replace HZ := hid (HZ.out.on hbE); replace HS := hid (HS.out.on hbE)))
            refine hK.out _ _ (fun _ => ?kz1_8) (fun hHeld0 => ?_)
            case kz1_8 => (try dsimp only); (first | with_reducible assumption | with_reducible exact HZ.out.bx.cells6t | with_reducible exact (HZ.out.bx.alloc _).cells6t | exact t6_bel (by assumption) (by assumption) | assumption | exact t6_alloc (by assumption) _ | exact HZ.out.bx.cells6t | exact (HZ.out.bx.alloc _).cells6t)
            (try clear hHeld)
            have hHeld := hHeld0 (by decide)
            clear hHeld0 hK K
            try simp only [Act.put, List.setIfInBounds_toArray, List.set_cons_zero, List.set_cons_succ]
            refine zr (rs := [11]) ?_
            refine AllUp.cons (o := ?oz1_11) ?iz1_11 (fun K hK => ?sz1_11) AllUp.nil
            case iz1_11 => (simp only [List.getElem?_toArray, List.getElem?_cons_succ, List.getElem?_cons_zero]; rfl)
            (go_simp; (go_at_call 160; refine (HLa.out _).mono ?_; rintro e wL ⟨rfl, hbL⟩; replace HZ := hid (HZ.out.on hbL); replace HS := hid (HS.out.on hbL)))
            refine hK.out _ _ (fun _ => ?kz1_11) (fun hHeld0 => ?_)
            case kz1_11 => (try dsimp only); (first | with_reducible assumption | with_reducible exact HZ.out.bx.cells6t | with_reducible exact (HZ.out.bx.alloc _).cells6t | exact t6_bel (by assumption) (by assumption) | assumption | exact t6_alloc (by assumption) _ | exact HZ.out.bx.cells6t | exact (HZ.out.bx.alloc _).cells6t)
            (try clear hHeld)
            have hHeld := hHeld0 (by decide)
            clear hHeld0 hK K
            try simp only [Act.put, List.setIfInBounds_toArray, List.set_cons_zero, List.set_cons_succ]
            refine zr (rs := [14]) ?_
            refine AllUp.cons (o := ?oz1_14) ?iz1_14 (fun K hK => ?sz1_14) AllUp.nil
            case iz1_14 => (simp only [List.getElem?_toArray, List.getElem?_cons_succ, List.getElem?_cons_zero]; rfl)
            (go_simp; (go_at_call 160; refine (HLa.out _).mono ?_; rintro e wM ⟨rfl, hbM⟩; replace HZ := hid (HZ.out.on hbM); replace HS := hid (HS.out.on hbM)))
            refine hK.out _ _ (fun _ => ?kz1_14) (fun hHeld0 => ?_)
            case kz1_14 => (try dsimp only); (first | with_reducible assumption | with_reducible exact HZ.out.bx.cells6t | with_reducible exact (HZ.out.bx.alloc _).cells6t | exact t6_bel (by assumption) (by assumption) | assumption | exact t6_alloc (by assumption) _ | exact HZ.out.bx.cells6t | exact (HZ.out.bx.alloc _).cells6t)
            (try clear hHeld)
            have hHeld := hHeld0 (by decide)
            clear hHeld0 hK K
            try simp only [Act.put, List.setIfInBounds_toArray, List.set_cons_zero, List.set_cons_succ]
            refine zk 15 ?_
            refine zr (rs := [16]) ?_
            refine AllUp.cons (o := ?oz1_16) ?iz1_16 (fun K hK => ?sz1_16) AllUp.nil
            case iz1_16 => (simp only [List.getElem?_toArray, List.getElem?_cons_succ, List.getElem?_cons_zero]; rfl)
            (go_simp; (skip))
            refine hK.out _ _ (fun _ => ?kz1_16) (fun hHeld0 => ?_)
            case kz1_16 => (try dsimp only); (first | with_reducible assumption | with_reducible exact HZ.out.bx.cells6t | with_reducible exact (HZ.out.bx.alloc _).cells6t | exact t6_bel (by assumption) (by assumption) | assumption | exact t6_alloc (by assumption) _ | exact HZ.out.bx.cells6t | exact (HZ.out.bx.alloc _).cells6t)
            (try clear hHeld)
            have hHeld := hHeld0 (by decide)
            clear hHeld0 hK K
            try simp only [Act.put, List.setIfInBounds_toArray, List.set_cons_zero, List.set_cons_succ]
            refine zr (rs := [17]) ?_
            refine AllUp.cons (o := ?oz1_17) ?iz1_17 (fun K hK => ?sz1_17) AllUp.nil
            case iz1_17 => (simp only [List.getElem?_toArray, List.getElem?_cons_succ, List.getElem?_cons_zero]; rfl)
            (go_simp; (go_at_call 83; refine (c_num _ _ _ wM.heap.size 4 [-1, C + 1, Z, Z + 1] _ (HZ.out.rd.alloc _) (by omega) (by exact intsAt_new wM _ _) rfl (by decide) (by decide) (by have := HZ.out.rd.lt; omega)).mono ?_; rintro e w7 ⟨y, rfl, hy, hr7, hg7⟩; replace HZ := hid ((HZ.out.on (bel_alloc (Below.refl _ _) _)).pick hr7 hg7); replace HS := hid ((HS.out.on (bel_alloc (Below.refl _ _) _)).pick hg7); obtain ⟨hv1, hv2⟩ := HS.out.cell (by simp) (show I < j by omega); clear p0 p1 p2 p3 p4 p5; obtain ⟨p0, p1, p2, p3, p4, p5⟩ := HZ.out.bx.cells6))
            refine hK.out _ _ (fun _ => ?kz1_17) (fun hHeld0 => ?_)
            case kz1_17 => (try dsimp only); (first | with_reducible assumption | with_reducible exact HZ.out.bx.cells6t | with_reducible exact (HZ.out.bx.alloc _).cells6t | exact t6_bel (by assumption) (by assumption) | assumption | exact t6_alloc (by assumption) _ | exact HZ.out.bx.cells6t | exact (HZ.out.bx.alloc _).cells6t)
            (try clear hHeld)
            have hHeld := hHeld0 (by decide)
            clear hHeld0 hK K
            try simp only [Act.put, List.setIfInBounds_toArray, List.set_cons_zero, List.set_cons_succ]
            refine zk 18 ?_
            refine zr (rs := [19]) ?_
            refine AllUp.cons (o := ?oz1_19) ?iz1_19 (fun K hK => ?sz1_19) AllUp.nil
            case iz1_19 => (simp only [List.getElem?_toArray, List.getElem?_cons_succ, List.getElem?_cons_zero]; rfl)
            (go_simp; (skip))
            refine hK.out _ _ (fun h => absurd rfl h) (fun _ => ?_)
            (try clear hHeld)
            clear hK K
            try simp only [Act.put, List.setIfInBounds_toArray, List.set_cons_zero, List.set_cons_succ]
            refine zd (by kernel_rfl) ?_ _
            refine NoPanic.normal ?_
            have hyb2 : -9223372036854775808 ≤ y ∧ y ≤ 9223372036854775807 := by simp at hy; omega
            have hG2 := (HS.out.cd.lt G rfl).1
            have hz7 := HZ.out.bx.lt
            have hzl := HZ.out.lt
            replace HZ := hid (HZ.out.app HS.out (below_of_grown (grown_set (grown_refl w7 (some G)) I (.int .i64 y)) (by omega) (fun g e => by simp at e; omega)) (grown_set (grown_refl w7 (some G)) I (.int .i64 y)))
            replace HS := hid (HS.out.set_ (i := I) (by simp) hyb2)
            clear hy hv1 hv2 hS p0 p1 p2 p3 p4 p5 hG2 hz7 hzl
            obtain ⟨p0, p1, p2, p3, p4, p5⟩ := HZ.out.bx.cells6
            go_wp2_with fail
            refine (HB.out _ _ HZ.out.rd (by omega) HZ.out.row (by have := HZ.out.lt; have := HZ.out.bx.lt; omega)).mono ?_
            rintro e w9 ⟨k2, A3, cap3, rfl, hw2, hl2, ho9, hr9, hg9⟩
            have HRx := hid (HZ.out.rx.grown hg9 (by simp))
            have b9 := bel_grown HZ.out.bel hg9 (by omega)
            have HC9 := hid (HS.out.pick hg9)
            clear HB HE HLa HZ HS p0 p1 p2 p3 p4 p5 hr9 hg9
            obtain ⟨r0, r1, r2, r3, r4, r5⟩ := HRx.out.cells6
            obtain ⟨f0, f1, f2, f3, f4, f5⟩ := HRx.out.free6
            obtain ⟨j0, j1, j2, j3, j4, j5⟩ := (HRx.out.put6 (.int .i64 k2.o) (.int .i64 k2.l) (.int .i64 k2.m) (.slice A3 k2.ps.length cap3) (.int .i64 k2.base) (.int .i64 k2.last)).cells6
            have HQ := hid (show AKnownCodes w (.returned (.tuple #[.agg #[.int .i64 k2.o, .int .i64 k2.l, .int .i64 k2.m, .slice A3 k2.ps.length cap3, .int .i64 k2.base, .int .i64 k2.last], .slice (some ⟨G, 0, none⟩) j c2])) _ from ⟨k2, A3, cap3, ((List.replicate j (0 : Int)).set I y), (some ⟨G, 0, none⟩), c2, by simp, hw2, hl2, HC9.out.le, HC9.out.bd, own_mono (own_put6 ho9 HRx.out tykn_tp (.int .i64 k2.o) (.int .i64 k2.l) (.int .i64 k2.m) (.slice A3 k2.ps.length cap3) (.int .i64 k2.base) (.int .i64 k2.last)) (by omega), own_mono (by simpa using own_put6 HC9.out.cd HRx.out tykn_ti (.int .i64 k2.o) (.int .i64 k2.l) (.int .i64 k2.m) (.slice A3 k2.ps.length cap3) (.int .i64 k2.base) (.int .i64 k2.last)) (by omega), by (repeat (first | with_reducible (first | assumption | exact Below.refl _ _ | refine bel_alloc ?_ _ | refine bel_drew ?_ | refine bel_drewN ?_ _ | refine bel_set ?_ (by first | omega | (simp; done) | (simp; omega)) _ | refine bel_trans ?_ (by assumption)) | assumption | refine bel_trans ?_ (by assumption)))⟩)
            clear ho9 b9 HC9
            go_wp2
            exact bodyPost_ret (v := .tuple #[.agg #[.int .i64 k2.o, .int .i64 k2.l, .int .i64 k2.m, .slice A3 k2.ps.length cap3, .int .i64 k2.base, .int .i64 k2.last], .slice (some ⟨G, 0, none⟩) j c2]) (by simp [results, Try.results112, go_sem, j0, j1, j2, j3, j4, j5]) rfl HQ.out
          · skip
            have e5 : (x5 == 0) = false := eq_no (by omega)
            clear d5
            go_wp2_with fail
            refine (HB.out _ _ HZ.out.rd (by omega) HZ.out.row (by have := HZ.out.lt; have := HZ.out.bx.lt; omega)).mono ?_
            rintro e w9 ⟨k2, A3, cap3, rfl, hw2, hl2, ho9, hr9, hg9⟩
            have HRx := hid (HZ.out.rx.grown hg9 (by simp))
            have b9 := bel_grown HZ.out.bel hg9 (by omega)
            have HC9 := hid (HS.out.pick hg9)
            clear HB HE HLa HZ HS p0 p1 p2 p3 p4 p5 hr9 hg9
            obtain ⟨r0, r1, r2, r3, r4, r5⟩ := HRx.out.cells6
            obtain ⟨f0, f1, f2, f3, f4, f5⟩ := HRx.out.free6
            obtain ⟨j0, j1, j2, j3, j4, j5⟩ := (HRx.out.put6 (.int .i64 k2.o) (.int .i64 k2.l) (.int .i64 k2.m) (.slice A3 k2.ps.length cap3) (.int .i64 k2.base) (.int .i64 k2.last)).cells6
            have HQ := hid (show AKnownCodes w (.returned (.tuple #[.agg #[.int .i64 k2.o, .int .i64 k2.l, .int .i64 k2.m, .slice A3 k2.ps.length cap3, .int .i64 k2.base, .int .i64 k2.last], .slice (some ⟨G, 0, none⟩) j c2])) _ from ⟨k2, A3, cap3, (List.replicate j (0 : Int)), (some ⟨G, 0, none⟩), c2, by simp, hw2, hl2, HC9.out.le, HC9.out.bd, own_mono (own_put6 ho9 HRx.out tykn_tp (.int .i64 k2.o) (.int .i64 k2.l) (.int .i64 k2.m) (.slice A3 k2.ps.length cap3) (.int .i64 k2.base) (.int .i64 k2.last)) (by omega), own_mono (by simpa using own_put6 HC9.out.cd HRx.out tykn_ti (.int .i64 k2.o) (.int .i64 k2.l) (.int .i64 k2.m) (.slice A3 k2.ps.length cap3) (.int .i64 k2.base) (.int .i64 k2.last)) (by omega), by (repeat (first | with_reducible (first | assumption | exact Below.refl _ _ | refine bel_alloc ?_ _ | refine bel_drew ?_ | refine bel_drewN ?_ _ | refine bel_set ?_ (by first | omega | (simp; done) | (simp; omega)) _ | refine bel_trans ?_ (by assumption)) | assumption | refine bel_trans ?_ (by assumption)))⟩)
            clear ho9 b9 HC9
            go_wp2
            exact bodyPost_ret (v := .tuple #[.agg #[.int .i64 k2.o, .int .i64 k2.l, .int .i64 k2.m, .slice A3 k2.ps.length cap3, .int .i64 k2.base, .int .i64 k2.last], .slice (some ⟨G, 0, none⟩) j c2]) (by simp [results, Try.results112, go_sem, j0, j1, j2, j3, j4, j5]) rfl HQ.out
        · skip
          go_wp2_with fail
          refine (HB.out _ _ HZ.out.rd (by omega) HZ.out.row (by have := HZ.out.lt; have := HZ.out.bx.lt; omega)).mono ?_
          rintro e w9 ⟨k2, A3, cap3, rfl, hw2, hl2, ho9, hr9, hg9⟩
          have HRx := hid (HZ.out.rx.grown hg9 (by simp))
          have b9 := bel_grown HZ.out.bel hg9 (by omega)
          have HC9 := hid (HS.out.pick hg9)
          clear HB HE HLa HZ HS p0 p1 p2 p3 p4 p5 hr9 hg9
          obtain ⟨r0, r1, r2, r3, r4, r5⟩ := HRx.out.cells6
          obtain ⟨f0, f1, f2, f3, f4, f5⟩ := HRx.out.free6
          obtain ⟨j0, j1, j2, j3, j4, j5⟩ := (HRx.out.put6 (.int .i64 k2.o) (.int .i64 k2.l) (.int .i64 k2.m) (.slice A3 k2.ps.length cap3) (.int .i64 k2.base) (.int .i64 k2.last)).cells6
          have HQ := hid (show AKnownCodes w (.returned (.tuple #[.agg #[.int .i64 k2.o, .int .i64 k2.l, .int .i64 k2.m, .slice A3 k2.ps.length cap3, .int .i64 k2.base, .int .i64 k2.last], .slice A2 j c2])) _ from ⟨k2, A3, cap3, (List.replicate j (0 : Int)), A2, c2, by simp, hw2, hl2, HC9.out.le, HC9.out.bd, own_mono (own_put6 ho9 HRx.out tykn_tp (.int .i64 k2.o) (.int .i64 k2.l) (.int .i64 k2.m) (.slice A3 k2.ps.length cap3) (.int .i64 k2.base) (.int .i64 k2.last)) (by omega), own_mono (by simpa using own_put6 HC9.out.cd HRx.out tykn_ti (.int .i64 k2.o) (.int .i64 k2.l) (.int .i64 k2.m) (.slice A3 k2.ps.length cap3) (.int .i64 k2.base) (.int .i64 k2.last)) (by omega), by (repeat (first | with_reducible (first | assumption | exact Below.refl _ _ | refine bel_alloc ?_ _ | refine bel_drew ?_ | refine bel_drewN ?_ _ | refine bel_set ?_ (by first | omega | (simp; done) | (simp; omega)) _ | refine bel_trans ?_ (by assumption)) | assumption | refine bel_trans ?_ (by assumption)))⟩)
          clear ho9 b9 HC9
          go_wp2
          exact bodyPost_ret (v := .tuple #[.agg #[.int .i64 k2.o, .int .i64 k2.l, .int .i64 k2.m, .slice A3 k2.ps.length cap3, .int .i64 k2.base, .int .i64 k2.last], .slice A2 j c2]) (by simp [results, Try.results112, go_sem, j0, j1, j2, j3, j4, j5]) rfl HQ.out
  · skip
    have e0 : (x == 0) = false := eq_no (by omega)
    clear c0
    have hcl9 : cs.length ≤ 3102 := by simpa using HS.out.le
    by_cases hpos : 0 < cs.length
    · skip
      obtain ⟨G, c5, hsl⟩ := own_slb HS.out.cd (by simpa using hpos)
      simp only [Value.slice.injEq] at hsl
      obtain ⟨rfl, _, rfl⟩ := hsl
      go_wp2_with fail
      refine (c_pick _ _ _ 10 _ HZ.out.rd (by omega) (by decide)).mono ?_
      rintro e w5 ⟨x5, rfl, hx50, hx51, _, hr5, hg5⟩
      replace HZ := hid (HZ.out.pick hr5 hg5)
      replace HS := hid (HS.out.pick hg5)
      clear hx51 hr5 hg5 p0 p1 p2 p3 p4 p5
      obtain ⟨p0, p1, p2, p3, p4, p5⟩ := HZ.out.bx.cells6
      by_cases d5 : x5 = 0
      · skip
        have e5 : (x5 == 0) = true := eq_yes d5
        clear d5
        have hS := HZ.out.bx.cells6t
        go_wp2_with fail
        replace HZ := hid (HZ.out.on (bel_drew (Below.refl w5.heap.size w5)))
        replace HS := hid (HS.out.on (bel_drew (Below.refl w5.heap.size w5)))
        refine wp_region_noPanic ?_
        refine zb (T := (fun v => v.cell? ⟨w2.heap.size, 0, none⟩ = some (.int .i64 k.o) ∧ v.cell? ⟨w2.heap.size, 1, none⟩ = some (.int .i64 k.l) ∧ v.cell? ⟨w2.heap.size, 2, none⟩ = some (.int .i64 k.m) ∧ v.cell? ⟨w2.heap.size, 3, none⟩ = some (.slice A k.ps.length cap) ∧ v.cell? ⟨w2.heap.size, 4, none⟩ = some (.int .i64 k.base) ∧ v.cell? ⟨w2.heap.size, 5, none⟩ = some (.int .i64 k.last) ∧ True)) 19 (by kernel_rfl) (t6_drew hS) (fun hHeld => ?_)
        refine zk 0 ?_
        refine zk 1 ?_
        refine zk 2 ?_
        refine zk 3 ?_
        refine zk 5 ?_
        refine zk 6 ?_
        refine zk 7 ?_
        refine zk 9 ?_
        refine zk 10 ?_
        refine zk 12 ?_
        refine zk 13 ?_
        refine zr (rs := [4]) ?_
        refine AllUp.cons (o := ?oz2_4) ?iz2_4 (fun K hK => ?sz2_4) AllUp.nil
        case iz2_4 => (simp only [List.getElem?_toArray, List.getElem?_cons_succ, List.getElem?_cons_zero]; rfl)
        (go_simp; (go_at_call 81; refine (c_pick _ _ _ (cs.length : Int) _ HZ.out.rd (by omega) (by omega)).mono ?_; rintro e wP ⟨x6, rfl, hx60, hx61, _, hr6, hg6⟩; obtain ⟨I, rfl⟩ := Int.eq_ofNat_of_zero_le hx60; have hI := hx61 (by omega); replace HZ := hid (HZ.out.pick hr6 hg6); replace HS := hid (HS.out.pick hg6); clear hx61 hr6 hg6))
        refine hK.out _ _ (fun _ => ?kz2_4) (fun hHeld0 => ?_)
        case kz2_4 => (try dsimp only); (first | with_reducible assumption | with_reducible exact HZ.out.bx.cells6t | with_reducible exact (HZ.out.bx.alloc _).cells6t | exact t6_bel (by assumption) (by assumption) | assumption | exact t6_alloc (by assumption) _ | exact HZ.out.bx.cells6t | exact (HZ.out.bx.alloc _).cells6t)
        (try clear hHeld)
        have hHeld := hHeld0 (by decide)
        clear hHeld0 hK K
        try simp only [Act.put, List.setIfInBounds_toArray, List.set_cons_zero, List.set_cons_succ]
        refine zr (rs := [8]) ?_
        refine AllUp.cons (o := ?oz2_8) ?iz2_8 (fun K hK => ?sz2_8) AllUp.nil
        case iz2_8 => (simp only [List.getElem?_toArray, List.getElem?_cons_succ, List.getElem?_cons_zero]; rfl)
        (go_simp; (go_at_call 126; refine (HE.out _).mono ?_; rintro e wE ⟨rfl, hbE⟩; replace HZ := hid (HZ.out.on hbE); replace HS := hid (HS.out.on hbE)))
        refine hK.out _ _ (fun _ => ?kz2_8) (fun hHeld0 => ?_)
        case kz2_8 => (try dsimp only); (first | with_reducible assumption | with_reducible exact HZ.out.bx.cells6t | with_reducible exact (HZ.out.bx.alloc _).cells6t | exact t6_bel (by assumption) (by assumption) | assumption | exact t6_alloc (by assumption) _ | exact HZ.out.bx.cells6t | exact (HZ.out.bx.alloc _).cells6t)
        (try clear hHeld)
        have hHeld := hHeld0 (by decide)
        clear hHeld0 hK K
        try simp only [Act.put, List.setIfInBounds_toArray, List.set_cons_zero, List.set_cons_succ]
        refine zr (rs := [11]) ?_
        refine AllUp.cons (o := ?oz2_11) ?iz2_11 (fun K hK => ?sz2_11) AllUp.nil
        case iz2_11 => (simp only [List.getElem?_toArray, List.getElem?_cons_succ, List.getElem?_cons_zero]; rfl)
        (go_simp; (go_at_call 160; refine (HLa.out _).mono ?_; rintro e wL ⟨rfl, hbL⟩; replace HZ := hid (HZ.out.on hbL); replace HS := hid (HS.out.on hbL)))
        refine hK.out _ _ (fun _ => ?kz2_11) (fun hHeld0 => ?_)
        case kz2_11 => (try dsimp only); (first | with_reducible assumption | with_reducible exact HZ.out.bx.cells6t | with_reducible exact (HZ.out.bx.alloc _).cells6t | exact t6_bel (by assumption) (by assumption) | assumption | exact t6_alloc (by assumption) _ | exact HZ.out.bx.cells6t | exact (HZ.out.bx.alloc _).cells6t)
        (try clear hHeld)
        have hHeld := hHeld0 (by decide)
        clear hHeld0 hK K
        try simp only [Act.put, List.setIfInBounds_toArray, List.set_cons_zero, List.set_cons_succ]
        refine zr (rs := [14]) ?_
        refine AllUp.cons (o := ?oz2_14) ?iz2_14 (fun K hK => ?sz2_14) AllUp.nil
        case iz2_14 => (simp only [List.getElem?_toArray, List.getElem?_cons_succ, List.getElem?_cons_zero]; rfl)
        (go_simp; (go_at_call 160; refine (HLa.out _).mono ?_; rintro e wM ⟨rfl, hbM⟩; replace HZ := hid (HZ.out.on hbM); replace HS := hid (HS.out.on hbM)))
        refine hK.out _ _ (fun _ => ?kz2_14) (fun hHeld0 => ?_)
        case kz2_14 => (try dsimp only); (first | with_reducible assumption | with_reducible exact HZ.out.bx.cells6t | with_reducible exact (HZ.out.bx.alloc _).cells6t | exact t6_bel (by assumption) (by assumption) | assumption | exact t6_alloc (by assumption) _ | exact HZ.out.bx.cells6t | exact (HZ.out.bx.alloc _).cells6t)
        (try clear hHeld)
        have hHeld := hHeld0 (by decide)
        clear hHeld0 hK K
        try simp only [Act.put, List.setIfInBounds_toArray, List.set_cons_zero, List.set_cons_succ]
        refine zk 15 ?_
        refine zr (rs := [16]) ?_
        refine AllUp.cons (o := ?oz2_16) ?iz2_16 (fun K hK => ?sz2_16) AllUp.nil
        case iz2_16 => (simp only [List.getElem?_toArray, List.getElem?_cons_succ, List.getElem?_cons_zero]; rfl)
        (go_simp; (skip))
        refine hK.out _ _ (fun _ => ?kz2_16) (fun hHeld0 => ?_)
        case kz2_16 => (try dsimp only); (first | with_reducible assumption | with_reducible exact HZ.out.bx.cells6t | with_reducible exact (HZ.out.bx.alloc _).cells6t | exact t6_bel (by assumption) (by assumption) | assumption | exact t6_alloc (by assumption) _ | exact HZ.out.bx.cells6t | exact (HZ.out.bx.alloc _).cells6t)
        (try clear hHeld)
        have hHeld := hHeld0 (by decide)
        clear hHeld0 hK K
        try simp only [Act.put, List.setIfInBounds_toArray, List.set_cons_zero, List.set_cons_succ]
        refine zr (rs := [17]) ?_
        refine AllUp.cons (o := ?oz2_17) ?iz2_17 (fun K hK => ?sz2_17) AllUp.nil
        case iz2_17 => (simp only [List.getElem?_toArray, List.getElem?_cons_succ, List.getElem?_cons_zero]; rfl)
        (go_simp; (go_at_call 83; refine (c_num _ _ _ wM.heap.size 4 [-1, C + 1, Z, Z + 1] _ (HZ.out.rd.alloc _) (by omega) (by exact intsAt_new wM _ _) rfl (by decide) (by decide) (by have := HZ.out.rd.lt; omega)).mono ?_; rintro e w7 ⟨y, rfl, hy, hr7, hg7⟩; replace HZ := hid ((HZ.out.on (bel_alloc (Below.refl _ _) _)).pick hr7 hg7); replace HS := hid ((HS.out.on (bel_alloc (Below.refl _ _) _)).pick hg7); obtain ⟨hv1, hv2⟩ := HS.out.cell (by simp) (show I < cs.length by omega); clear p0 p1 p2 p3 p4 p5; obtain ⟨p0, p1, p2, p3, p4, p5⟩ := HZ.out.bx.cells6))
        refine hK.out _ _ (fun _ => ?kz2_17) (fun hHeld0 => ?_)
        case kz2_17 => (try dsimp only); (first | with_reducible assumption | with_reducible exact HZ.out.bx.cells6t | with_reducible exact (HZ.out.bx.alloc _).cells6t | exact t6_bel (by assumption) (by assumption) | assumption | exact t6_alloc (by assumption) _ | exact HZ.out.bx.cells6t | exact (HZ.out.bx.alloc _).cells6t)
        (try clear hHeld)
        have hHeld := hHeld0 (by decide)
        clear hHeld0 hK K
        try simp only [Act.put, List.setIfInBounds_toArray, List.set_cons_zero, List.set_cons_succ]
        refine zk 18 ?_
        refine zr (rs := [19]) ?_
        refine AllUp.cons (o := ?oz2_19) ?iz2_19 (fun K hK => ?sz2_19) AllUp.nil
        case iz2_19 => (simp only [List.getElem?_toArray, List.getElem?_cons_succ, List.getElem?_cons_zero]; rfl)
        (go_simp; (skip))
        refine hK.out _ _ (fun h => absurd rfl h) (fun _ => ?_)
        (try clear hHeld)
        clear hK K
        try simp only [Act.put, List.setIfInBounds_toArray, List.set_cons_zero, List.set_cons_succ]
        refine zd (by kernel_rfl) ?_ _
        refine NoPanic.normal ?_
        have hyb2 : -9223372036854775808 ≤ y ∧ y ≤ 9223372036854775807 := by simp at hy; omega
        have hG2 := (HS.out.cd.lt G rfl).1
        have hz7 := HZ.out.bx.lt
        have hzl := HZ.out.lt
        replace HZ := hid (HZ.out.app HS.out (below_of_grown (grown_set (grown_refl w7 (some G)) I (.int .i64 y)) (by omega) (fun g e => by simp at e; omega)) (grown_set (grown_refl w7 (some G)) I (.int .i64 y)))
        replace HS := hid (HS.out.set_ (i := I) (by simp) hyb2)
        clear hy hv1 hv2 hS p0 p1 p2 p3 p4 p5 hG2 hz7 hzl
        obtain ⟨p0, p1, p2, p3, p4, p5⟩ := HZ.out.bx.cells6
        go_wp2_with fail
        refine (HB.out _ _ HZ.out.rd (by omega) HZ.out.row (by have := HZ.out.lt; have := HZ.out.bx.lt; omega)).mono ?_
        rintro e w9 ⟨k2, A3, cap3, rfl, hw2, hl2, ho9, hr9, hg9⟩
        have HRx := hid (HZ.out.rx.grown hg9 (by simp))
        have b9 := bel_grown HZ.out.bel hg9 (by omega)
        have HC9 := hid (HS.out.pick hg9)
        clear HB HE HLa HZ HS p0 p1 p2 p3 p4 p5 hr9 hg9
        obtain ⟨r0, r1, r2, r3, r4, r5⟩ := HRx.out.cells6
        obtain ⟨f0, f1, f2, f3, f4, f5⟩ := HRx.out.free6
        obtain ⟨j0, j1, j2, j3, j4, j5⟩ := (HRx.out.put6 (.int .i64 k2.o) (.int .i64 k2.l) (.int .i64 k2.m) (.slice A3 k2.ps.length cap3) (.int .i64 k2.base) (.int .i64 k2.last)).cells6
        have HQ := hid (show AKnownCodes w (.returned (.tuple #[.agg #[.int .i64 k2.o, .int .i64 k2.l, .int .i64 k2.m, .slice A3 k2.ps.length cap3, .int .i64 k2.base, .int .i64 k2.last], .slice (some ⟨G, 0, none⟩) cs.length c2])) _ from ⟨k2, A3, cap3, (cs.set I y), (some ⟨G, 0, none⟩), c2, by simp, hw2, hl2, HC9.out.le, HC9.out.bd, own_mono (own_put6 ho9 HRx.out tykn_tp (.int .i64 k2.o) (.int .i64 k2.l) (.int .i64 k2.m) (.slice A3 k2.ps.length cap3) (.int .i64 k2.base) (.int .i64 k2.last)) (by omega), own_mono (by simpa using own_put6 HC9.out.cd HRx.out tykn_ti (.int .i64 k2.o) (.int .i64 k2.l) (.int .i64 k2.m) (.slice A3 k2.ps.length cap3) (.int .i64 k2.base) (.int .i64 k2.last)) (by omega), by (repeat (first | with_reducible (first | assumption | exact Below.refl _ _ | refine bel_alloc ?_ _ | refine bel_drew ?_ | refine bel_drewN ?_ _ | refine bel_set ?_ (by first | omega | (simp; done) | (simp; omega)) _ | refine bel_trans ?_ (by assumption)) | assumption | refine bel_trans ?_ (by assumption)))⟩)
        clear ho9 b9 HC9
        go_wp2
        exact bodyPost_ret (v := .tuple #[.agg #[.int .i64 k2.o, .int .i64 k2.l, .int .i64 k2.m, .slice A3 k2.ps.length cap3, .int .i64 k2.base, .int .i64 k2.last], .slice (some ⟨G, 0, none⟩) cs.length c2]) (by simp [results, Try.results112, go_sem, j0, j1, j2, j3, j4, j5]) rfl HQ.out
      · skip
        have e5 : (x5 == 0) = false := eq_no (by omega)
        clear d5
        go_wp2_with fail
        refine (HB.out _ _ HZ.out.rd (by omega) HZ.out.row (by have := HZ.out.lt; have := HZ.out.bx.lt; omega)).mono ?_
        rintro e w9 ⟨k2, A3, cap3, rfl, hw2, hl2, ho9, hr9, hg9⟩
        have HRx := hid (HZ.out.rx.grown hg9 (by simp))
        have b9 := bel_grown HZ.out.bel hg9 (by omega)
        have HC9 := hid (HS.out.pick hg9)
        clear HB HE HLa HZ HS p0 p1 p2 p3 p4 p5 hr9 hg9
        obtain ⟨r0, r1, r2, r3, r4, r5⟩ := HRx.out.cells6
        obtain ⟨f0, f1, f2, f3, f4, f5⟩ := HRx.out.free6
        obtain ⟨j0, j1, j2, j3, j4, j5⟩ := (HRx.out.put6 (.int .i64 k2.o) (.int .i64 k2.l) (.int .i64 k2.m) (.slice A3 k2.ps.length cap3) (.int .i64 k2.base) (.int .i64 k2.last)).cells6
        have HQ := hid (show AKnownCodes w (.returned (.tuple #[.agg #[.int .i64 k2.o, .int .i64 k2.l, .int .i64 k2.m, .slice A3 k2.ps.length cap3, .int .i64 k2.base, .int .i64 k2.last], .slice (some ⟨G, 0, none⟩) cs.length c2])) _ from ⟨k2, A3, cap3, cs, (some ⟨G, 0, none⟩), c2, by simp, hw2, hl2, HC9.out.le, HC9.out.bd, own_mono (own_put6 ho9 HRx.out tykn_tp (.int .i64 k2.o) (.int .i64 k2.l) (.int .i64 k2.m) (.slice A3 k2.ps.length cap3) (.int .i64 k2.base) (.int .i64 k2.last)) (by omega), own_mono (by simpa using own_put6 HC9.out.cd HRx.out tykn_ti (.int .i64 k2.o) (.int .i64 k2.l) (.int .i64 k2.m) (.slice A3 k2.ps.length cap3) (.int .i64 k2.base) (.int .i64 k2.last)) (by omega), by (repeat (first | with_reducible (first | assumption | exact Below.refl _ _ | refine bel_alloc ?_ _ | refine bel_drew ?_ | refine bel_drewN ?_ _ | refine bel_set ?_ (by first | omega | (simp; done) | (simp; omega)) _ | refine bel_trans ?_ (by assumption)) | assumption | refine bel_trans ?_ (by assumption)))⟩)
        clear ho9 b9 HC9
        go_wp2
        exact bodyPost_ret (v := .tuple #[.agg #[.int .i64 k2.o, .int .i64 k2.l, .int .i64 k2.m, .slice A3 k2.ps.length cap3, .int .i64 k2.base, .int .i64 k2.last], .slice (some ⟨G, 0, none⟩) cs.length c2]) (by simp [results, Try.results112, go_sem, j0, j1, j2, j3, j4, j5]) rfl HQ.out
    · skip
      go_wp2_with fail
      refine (HB.out _ _ HZ.out.rd (by omega) HZ.out.row (by have := HZ.out.lt; have := HZ.out.bx.lt; omega)).mono ?_
      rintro e w9 ⟨k2, A3, cap3, rfl, hw2, hl2, ho9, hr9, hg9⟩
      have HRx := hid (HZ.out.rx.grown hg9 (by simp))
      have b9 := bel_grown HZ.out.bel hg9 (by omega)
      have HC9 := hid (HS.out.pick hg9)
      clear HB HE HLa HZ HS p0 p1 p2 p3 p4 p5 hr9 hg9
      obtain ⟨r0, r1, r2, r3, r4, r5⟩ := HRx.out.cells6
      obtain ⟨f0, f1, f2, f3, f4, f5⟩ := HRx.out.free6
      obtain ⟨j0, j1, j2, j3, j4, j5⟩ := (HRx.out.put6 (.int .i64 k2.o) (.int .i64 k2.l) (.int .i64 k2.m) (.slice A3 k2.ps.length cap3) (.int .i64 k2.base) (.int .i64 k2.last)).cells6
      have HQ := hid (show AKnownCodes w (.returned (.tuple #[.agg #[.int .i64 k2.o, .int .i64 k2.l, .int .i64 k2.m, .slice A3 k2.ps.length cap3, .int .i64 k2.base, .int .i64 k2.last], .slice A2 cs.length c2])) _ from ⟨k2, A3, cap3, cs, A2, c2, by simp, hw2, hl2, HC9.out.le, HC9.out.bd, own_mono (own_put6 ho9 HRx.out tykn_tp (.int .i64 k2.o) (.int .i64 k2.l) (.int .i64 k2.m) (.slice A3 k2.ps.length cap3) (.int .i64 k2.base) (.int .i64 k2.last)) (by omega), own_mono (by simpa using own_put6 HC9.out.cd HRx.out tykn_ti (.int .i64 k2.o) (.int .i64 k2.l) (.int .i64 k2.m) (.slice A3 k2.ps.length cap3) (.int .i64 k2.base) (.int .i64 k2.last)) (by omega), by (repeat (first | with_reducible (first | assumption | exact Below.refl _ _ | refine bel_alloc ?_ _ | refine bel_drew ?_ | refine bel_drewN ?_ _ | refine bel_set ?_ (by first | omega | (simp; done) | (simp; omega)) _ | refine bel_trans ?_ (by assumption)) | assumption | refine bel_trans ?_ (by assumption)))⟩)
      clear ho9 b9 HC9
      go_wp2
      exact bodyPost_ret (v := .tuple #[.agg #[.int .i64 k2.o, .int .i64 k2.l, .int .i64 k2.m, .slice A3 k2.ps.length cap3, .int .i64 k2.base, .int .i64 k2.last], .slice A2 cs.length c2]) (by simp [results, Try.results112, go_sem, j0, j1, j2, j3, j4, j5]) rfl HQ.out
end Go.Proofs.Ytophlgnmfhoeiaa
