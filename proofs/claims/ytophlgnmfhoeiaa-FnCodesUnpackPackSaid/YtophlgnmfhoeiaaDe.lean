/- Contracts of the model's own drawing of arguments: what is known, and a stream of codes. -/
import Derived.Test.YtophlgnmfhoeiaaDf
import Derived.Test.YtophlgnmfhoeiaaPd
import Derived.Test.YtophlgnmfhoeiaaBs
namespace Go.Proofs.Ytophlgnmfhoeiaa
open Go.ChangeShapes Go.WideShapes Go.ChangeAt Go.RowKit Go.Joins
set_option linter.unusedVariables false

theorem conv0 {W : World} {g : Nat} (h : W.cell? ⟨g, 0, none⟩ = some (.int .u8 0)) : (convert 22 9 (.slice (some ⟨g, 0, none⟩) 1 1)).run Try.prog W = .ok (.string (str [0])) W := by
  refine run_convert_bytes_back (l := [0]) _ _ _ 5 ⟨g, 0, none⟩ 1 Try.underlying22 Try.underlying5 Try.underlying9 ?_
  intro j hj
  have : j = 0 := by simpa using hj
  subst this
  exact h
theorem intsAt_new2 (w : World) (t : TypeId) (l : List Int) (g : Nat) (hg : g = w.heap.size) : IntsAt (w.alloc (.cells (l.map (Value.int .i64)).toArray t)) g l := by
  subst hg; exact intsAt_new w t l
theorem intsAt_al {w : World} {g : Nat} {l : List Int} (h : IntsAt w g l) (o : Obj) : IntsAt (w.alloc o) g l := by
  intro i x hx
  exact (grown_alloc (grown_refl w none) o).cell (h i x hx) (by simp)

theorem stream_sz {k : Kn} {cs : List Int} (h : CodesOk k cs) (hl : cs.length ≤ 24 + 1) : (str (k.bits cs)).size ≤ 40000 ∧ (str (k.bits cs)).data.toList.all isBit = true ∧ (str (M.pack (!(k.o == 0)) (bitsL (str (k.bits cs))))).size ≤ 1000 := by
  have h1 := h.1.bl_ge h.2.2
  have h2 : (str (k.bits cs)).size = (k.bl cs).length := by rw [str_size, Kn.bits_bl]; simp [M.asc]
  refine ⟨by omega, ?_, ?_⟩
  · rw [str_list, Kn.bits_bl]; exact all_asc _
  · rw [str_size, M.pack_length, Kn.bitsL_bits]; omega

set_option maxHeartbeats 8000000 in
set_option maxRecDepth 100000 in
theorem c_DrawUnpackCodes (A' : Option Addr) (n cap' : Nat) (w : World) (hc : CodeAt w w.heap.size A' n cap') : Calls Try.prog 50 #[.slice A' n cap'] w (AKnownStr w) := by
  have k0 := Blk.new w 32 #[.int .i64 0, .int .i64 0, .int .i64 0, .slice none 0 0, .int .i64 0, .int .i64 0]
  have HCo := hid (hc.keep (fun k hk => Below.heap_alloc w (.cells #[.int .i64 0, .int .i64 0, .int .i64 0, .slice none 0 0, .int .i64 0, .int .i64 0] 32) k (by omega)))
  clear hc
  go_enter Try.func50, Try.ntmps50
  go_wp2_with fail
  refine (c_l9Open _ _ _ _ _ HCo.out (by simp)).mono ?_
  rintro e w1 ⟨rfl, hr1, hb1, hz1⟩
  rw [alloc_size] at hr1 hz1
  have k1 := k0.on hb1
  have b1 : Below w.heap.size w w1 := bel_trans (bel_alloc (Below.refl w.heap.size w) _) hb1
  clear HCo k0 hb1
  go_wp2_with fail
  refine (c_l2Draw _ _ 0 _ hr1 (by omega)).mono ?_
  rintro e w2 ⟨k, A, cap, rfl, hk, hl, ho2, hr2, hg2⟩
  have hz2 := hg2.size
  have HZ := hid (OpAt.new (k1.grown hg2 (by simp)) (own_mono ho2 (by omega)) hr2 (bel_grown b1 hg2 (by omega)) (by omega))
  clear k1 b1 hr1 ho2 hr2 hg2
  have HKd := hid (fun (q : Nat) (v : World) hr hq hrow hB0 => c_l2Codes w.heap.size (w.heap.size + 1) q (w.heap.size + 2) 24 k A cap v hr hq (by omega) hrow (by omega) hB0 hk hl)
  have HB := hid (fun (q : Nat) (v : World) hr hq hrow hB0 => c_l2Bad w.heap.size (w.heap.size + 1) q (w.heap.size + 2) k A cap v hr hq hrow (by omega) hB0 hk hl)
  have HK := hid hk
  clear hk
  obtain ⟨p0, p1, p2, p3, p4, p5⟩ := HZ.out.bx.cells6
  have hS := HZ.out.bx.cells6t
  go_wp2_with fail
  obtain ⟨W3, hW3⟩ : ∃ W3, W3 = w2.alloc (.cells #[.int .i64 k.o, .int .i64 k.l, .int .i64 k.m, .slice A k.ps.length cap, .int .i64 k.base, .int .i64 k.last] 32) := ⟨_, rfl⟩
  rw [← hW3] at HZ hS p0 p1 p2 p3 p4 p5 ⊢
  clear hW3
  replace HZ := hid (HZ.out.on (bel_drew (Below.refl W3.heap.size W3)))
  refine wp_region_noPanic ?_
  refine wp_region_held_drew (S := (fun v => v.cell? ⟨w2.heap.size, 0, none⟩ = some (.int .i64 k.o) ∧ v.cell? ⟨w2.heap.size, 1, none⟩ = some (.int .i64 k.l) ∧ v.cell? ⟨w2.heap.size, 2, none⟩ = some (.int .i64 k.m) ∧ v.cell? ⟨w2.heap.size, 3, none⟩ = some (.slice A k.ps.length cap) ∧ v.cell? ⟨w2.heap.size, 4, none⟩ = some (.int .i64 k.base) ∧ v.cell? ⟨w2.heap.size, 5, none⟩ = some (.int .i64 k.last) ∧ True)) (by kernel_rfl) (t6_drew hS) (fun hHeld => ?_)
  refine tk 0 ?_
  refine tk 1 ?_
  refine tk 2 ?_
  refine tk 3 ?_
  refine tk 4 ?_
  refine tk 5 ?_
  refine wpAnyH_ready (rs := [6]) (by kernel_rfl) (by simp) ?_
  refine AllReadyH.cons (o := ?or1_6) ?ir1_6 (fun K hK => ?sr1_6) AllReadyH.nil
  case ir1_6 => (simp only [List.getElem?_toArray, List.getElem?_cons_succ, List.getElem?_cons_zero]; rfl)
  (go_simp; (go_at_call 123; refine (HKd.out _ _ HZ.out.rd (by omega) HZ.out.row (by have := HZ.out.lt; have := HZ.out.bx.lt; omega)).mono ?_; rintro e wC ⟨cs, A2, c2, rfl, hgood, hlen, hbd, hcd, hr3, hg3⟩; replace HZ := hid (HZ.out.pick hr3 hg3); have HOk := hid (show CodesOk k cs from ⟨HK.out, by omega, hgood⟩); have HSt := hid (stream_sz HOk.out hlen); have HN := hid (own_ints_at hcd); clear hgood hbd hcd hr3 hg3))
  refine hK.out _ _ ?kr1_6 (fun hHeld => ?_)
  case kr1_6 => (try dsimp only); (first | with_reducible assumption | with_reducible exact HZ.out.bx.cells6t | exact t6_bel (by assumption) (by assumption) | assumption | exact t6_alloc (by assumption) _ | exact HZ.out.bx.cells6t)
  clear hK K
  try simp only [Act.put, List.setIfInBounds_toArray, List.set_cons_zero, List.set_cons_succ]
  refine wpAnyH_ready (rs := [7]) (by kernel_rfl) (by simp) ?_
  refine AllReadyH.cons (o := ?or1_7) ?ir1_7 (fun K hK => ?sr1_7) AllReadyH.nil
  case ir1_7 => (simp only [List.getElem?_toArray, List.getElem?_cons_succ, List.getElem?_cons_zero]; rfl)
  (go_simp; (go_at_call 121; refine (c_l2Pack_yes k A cap _ _ (own_ps_at HZ.out.row) (Nat.le_refl _) A2 c2 _ cs HN.out (Nat.le_refl _) HOk.out).mono ?_; rintro e wP ⟨rfl, hbP⟩; replace HZ := hid (HZ.out.on hbP)))
  refine hK.out _ _ ?kr1_7 (fun hHeld => ?_)
  case kr1_7 => (try dsimp only); (first | with_reducible assumption | with_reducible exact HZ.out.bx.cells6t | exact t6_bel (by assumption) (by assumption) | assumption | exact t6_alloc (by assumption) _ | exact HZ.out.bx.cells6t)
  clear hK K
  try simp only [Act.put, List.setIfInBounds_toArray, List.set_cons_zero, List.set_cons_succ]
  refine wpAnyH_ready (rs := [8]) (by kernel_rfl) (by simp) ?_
  refine AllReadyH.cons (o := ?or1_8) ?ir1_8 (fun K hK => ?sr1_8) AllReadyH.nil
  case ir1_8 => (simp only [List.getElem?_toArray, List.getElem?_cons_succ, List.getElem?_cons_zero]; rfl)
  (go_simp; (go_at_call 120; refine (c_l1Pack k.o (str (k.bits cs)) _ HSt.out.1 HSt.out.2.1).mono ?_; rintro e wQ ⟨rfl, hbQ⟩; replace HZ := hid (HZ.out.on hbQ)))
  refine hK.out _ _ ?kr1_8 (fun hHeld => ?_)
  case kr1_8 => (try dsimp only); (first | with_reducible assumption | with_reducible exact HZ.out.bx.cells6t | exact t6_bel (by assumption) (by assumption) | assumption | exact t6_alloc (by assumption) _ | exact HZ.out.bx.cells6t)
  clear hK K
  try simp only [Act.put, List.setIfInBounds_toArray, List.set_cons_zero, List.set_cons_succ]
  refine tk 9 ?_
  refine wpAnyH_done (by kernel_rfl) ?_ _
  refine NoPanic.normal ?_
  have hSs := HSt.out.2.2
  obtain ⟨S, hS1⟩ : ∃ S, S = str (M.pack (!(k.o == 0)) (bitsL (str (k.bits cs)))) := ⟨_, rfl⟩
  rw [← hS1] at hSs ⊢
  clear hS1 hS HSt HOk HN HKd hlen hbP hbQ p0 p1 p2 p3 p4 p5
  (try clear hHeld)
  obtain ⟨p0, p1, p2, p3, p4, p5⟩ := HZ.out.bx.cells6
  go_wp2_with fail
  refine (c_pick _ _ _ ((S.size : Int) + 1) _ HZ.out.rd (by omega) (by omega)).mono ?_
  rintro e w4 ⟨x4, rfl, hx40, hx41, _, hr4, hg4⟩
  obtain ⟨P, rfl⟩ := Int.eq_ofNat_of_zero_le hx40
  have hP := hx41 (by omega)
  replace HZ := hid (HZ.out.pick hr4 hg4)
  clear hx41 hr4 hg4 p0 p1 p2 p3 p4 p5
  obtain ⟨p0, p1, p2, p3, p4, p5⟩ := HZ.out.bx.cells6
  go_wp2_with fail
  refine (c_pick _ _ _ 8 _ HZ.out.rd (by omega) (by decide)).mono ?_
  rintro e w5 ⟨x5, rfl, hx50, hx51, _, hr5, hg5⟩
  replace HZ := hid ((HZ.out.pick hr5 hg5).more (show _ ≤ 500 by omega))
  clear hx51 hr5 hg5 p0 p1 p2 p3 p4 p5
  by_cases d0 : x5 = 0
  · skip
    have e0 : (x5 == 0) = true := eq_yes d0
    clear d0
    obtain ⟨p0, p1, p2, p3, p4, p5⟩ := HZ.out.bx.cells6
    go_wp2_with fail
    refine (c_l1Bytes _ _ _ 20 _ HZ.out.rd (by omega) (by decide)).mono ?_
    rintro e w6 ⟨l6, rfl, hl6, hr6, hg6⟩
    replace HZ := hid ((HZ.out.pick hr6 hg6).more (show _ ≤ 600 by omega))
    obtain ⟨S6, hS6⟩ : ∃ S6, S6 = str l6 := ⟨_, rfl⟩
    have hS6s : S6.size ≤ 20 := by rw [hS6, str_size]; exact hl6
    rw [← hS6]
    clear hS6 hl6 hr6 hg6 p0 p1 p2 p3 p4 p5
    obtain ⟨p0, p1, p2, p3, p4, p5⟩ := HZ.out.bx.cells6
    go_wp2_with fail
    refine (c_pick _ _ _ 240 _ HZ.out.rd (by omega) (by decide)).mono ?_
    rintro e w8 ⟨x8, rfl, hx80, hx81, _, hr8, hg8⟩
    replace HZ := hid (HZ.out.pick hr8 hg8)
    clear hx81 hr8 hg8 p0 p1 p2 p3 p4 p5
    obtain ⟨p0, p1, p2, p3, p4, p5⟩ := HZ.out.bx.cells6
    by_cases d8 : x8 = 0
    · skip
      have e8 : (x8 == 0) = true := eq_yes d8
      clear d8
      have hBl := HZ.out.rd.lt
      have hr1 := HZ.out.rd
      have hcv := @conv0
      have b0 : ∀ o : Obj, ((w8.drew.alloc (.cells #[.int .u8 0] 5)).alloc o).cell? ⟨w8.heap.size, 0, none⟩ = some (.int .u8 0) := fun o => ((Blk.new w8.drew 5 #[.int .u8 0]).alloc o).cell 0
      have b1 : ∀ o : Obj, ((w8.drew.alloc o).alloc (.cells #[.int .u8 0] 5)).cell? ⟨w8.heap.size + 1, 0, none⟩ = some (.int .u8 0) := fun o => by
        have := (Blk.new (w8.drew.alloc o) 5 #[.int .u8 0]).cell 0
        rw [alloc_size] at this; exact this
      go_wp2_with fail
      go_region_with (first
        | (go_at_call 83; refine (c_num _ _ _ _ 2 [4000, 4001] _ (Rd.alloc (Rd.alloc (Rd.near hr1 (bel_drew (Below.refl _ _))) _) _) (by omega) (by exact intsAt_new2 _ _ [4000, 4001] _ (alloc_size _ _).symm) rfl (by decide) (by decide) (by omega)).mono ?_; rintro e wn ⟨y, rfl, hy, hr2, hg2⟩; have hx3 : 0 ≤ y ∧ y ≤ 4001 := (by simp at hy; omega); have gz : w8.grownBy wn (some (w.heap.size + 1)) := grown_trans (grown_alloc (grown_alloc (grown_drew (grown_refl _ _)) _) _) hg2; have hcell : wn.cell? ⟨w8.heap.size, 0, none⟩ = some (.int .u8 0) := hg2.cell (b0 _) (by simp; omega))
        | (go_at_call 83; refine (c_num _ _ _ _ 2 [4000, 4001] _ (Rd.alloc (Rd.alloc (Rd.near hr1 (bel_drew (Below.refl _ _))) _) _) (by omega) (by exact intsAt_al (intsAt_new2 w8.drew _ [4000, 4001] _ rfl) _) rfl (by decide) (by decide) (by simp; omega)).mono ?_; rintro e wn ⟨y, rfl, hy, hr2, hg2⟩; have hx3 : 0 ≤ y ∧ y ≤ 4001 := (by simp at hy; omega); have gz : w8.grownBy wn (some (w.heap.size + 1)) := grown_trans (grown_alloc (grown_alloc (grown_drew (grown_refl _ _)) _) _) hg2; have hcell : wn.cell? ⟨w8.heap.size + 1, 0, none⟩ = some (.int .u8 0) := hg2.cell (b1 _) (by simp; omega))
        | (go_at_call 83; refine (c_num _ _ _ _ 2 [4000, 4001] _ (Rd.alloc (Rd.near hr1 (bel_drew (Below.refl _ _))) _) (by omega) (by exact intsAt_new2 w8.drew _ [4000, 4001] _ rfl) rfl (by decide) (by decide) (by simp; omega)).mono ?_; rintro e wn ⟨y, rfl, hy, hr2, hg2⟩; have hx3 : 0 ≤ y ∧ y ≤ 4001 := (by simp at hy; omega); have gz : w8.grownBy wn (some (w.heap.size + 1)) := grown_trans (grown_alloc (grown_drew (grown_refl _ _)) _) hg2)
        | (go_at_call 82; refine (c_l9Many [0] y _ (by omega) (by omega) (by decide)).mono ?_; rintro e w' ⟨rfl, rfl⟩))
      all_goals
        obtain ⟨T9, hT9⟩ : ∃ T9, T9 = str (rep [0] y.toNat) := ⟨_, rfl⟩
        have hT9s : T9.size ≤ 4001 := by rw [hT9, str_size, rep_len]; simp; omega
        rw [← hT9]
        clear hT9 hcv b0 b1
        first
        | (replace HZ := hid (HZ.out.pick hr2 gz)
           clear hr2 hg2 gz hr1 hy p0 p1 p2 p3 p4 p5
           obtain ⟨p0, p1, p2, p3, p4, p5⟩ := HZ.out.bx.cells6
           go_wp2_with fail
           refine (HB.out _ _ HZ.out.rd (by omega) HZ.out.row (by have := HZ.out.lt; have := HZ.out.bx.lt; omega)).mono ?_
           rintro e w9 ⟨k2, A3, cap3, rfl, hw2, hl2, ho9, hr9, hg9⟩
           have HRx := hid (HZ.out.rx.grown hg9 (by simp))
           have b9 := bel_grown HZ.out.bel hg9 (by omega)
           clear HB HZ p0 p1 p2 p3 p4 p5 hr9 hg9
           obtain ⟨r0, r1, r2, r3, r4, r5⟩ := HRx.out.cells6
           obtain ⟨f0, f1, f2, f3, f4, f5⟩ := HRx.out.free6
           obtain ⟨j0, j1, j2, j3, j4, j5⟩ := (HRx.out.put6 (.int .i64 k2.o) (.int .i64 k2.l) (.int .i64 k2.m) (.slice A3 k2.ps.length cap3) (.int .i64 k2.base) (.int .i64 k2.last)).cells6
           have HQ := hid (show AKnownStr w (.returned (.tuple #[.agg #[.int .i64 k2.o, .int .i64 k2.l, .int .i64 k2.m, .slice A3 k2.ps.length cap3, .int .i64 k2.base, .int .i64 k2.last], .string T9])) _ from ⟨k2, A3, cap3, T9, rfl, hw2, hl2, by omega, own_mono (own_put6 ho9 HRx.out tykn_tp (.int .i64 k2.o) (.int .i64 k2.l) (.int .i64 k2.m) (.slice A3 k2.ps.length cap3) (.int .i64 k2.base) (.int .i64 k2.last)) (by omega), by (repeat (first | with_reducible (first | assumption | exact Below.refl _ _ | refine bel_alloc ?_ _ | refine bel_drew ?_ | refine bel_drewN ?_ _ | refine bel_set ?_ (by first | omega | (simp; done) | (simp; omega)) _ | refine bel_trans ?_ (by assumption)) | assumption | refine bel_trans ?_ (by assumption)))⟩)
           clear ho9 b9
           go_wp2
           exact bodyPost_ret (v := .tuple #[.agg #[.int .i64 k2.o, .int .i64 k2.l, .int .i64 k2.m, .slice A3 k2.ps.length cap3, .int .i64 k2.base, .int .i64 k2.last], .string T9]) (by simp [results, Try.results50, go_sem, j0, j1, j2, j3, j4, j5]) rfl HQ.out)
        | (replace HZ := hid ((HZ.out.pick hr2 gz).on (bel_alloc (Below.refl _ _) (.cells #[.int .u8 0] 5)))
           clear hr2 hg2 gz hr1 hy p0 p1 p2 p3 p4 p5
           obtain ⟨p0, p1, p2, p3, p4, p5⟩ := HZ.out.bx.cells6
           go_wp2_with fail
           refine (HB.out _ _ HZ.out.rd (by omega) HZ.out.row (by have := HZ.out.lt; have := HZ.out.bx.lt; omega)).mono ?_
           rintro e w9 ⟨k2, A3, cap3, rfl, hw2, hl2, ho9, hr9, hg9⟩
           have HRx := hid (HZ.out.rx.grown hg9 (by simp))
           have b9 := bel_grown HZ.out.bel hg9 (by omega)
           clear HB HZ p0 p1 p2 p3 p4 p5 hr9 hg9
           obtain ⟨r0, r1, r2, r3, r4, r5⟩ := HRx.out.cells6
           obtain ⟨f0, f1, f2, f3, f4, f5⟩ := HRx.out.free6
           obtain ⟨j0, j1, j2, j3, j4, j5⟩ := (HRx.out.put6 (.int .i64 k2.o) (.int .i64 k2.l) (.int .i64 k2.m) (.slice A3 k2.ps.length cap3) (.int .i64 k2.base) (.int .i64 k2.last)).cells6
           have HQ := hid (show AKnownStr w (.returned (.tuple #[.agg #[.int .i64 k2.o, .int .i64 k2.l, .int .i64 k2.m, .slice A3 k2.ps.length cap3, .int .i64 k2.base, .int .i64 k2.last], .string T9])) _ from ⟨k2, A3, cap3, T9, rfl, hw2, hl2, by omega, own_mono (own_put6 ho9 HRx.out tykn_tp (.int .i64 k2.o) (.int .i64 k2.l) (.int .i64 k2.m) (.slice A3 k2.ps.length cap3) (.int .i64 k2.base) (.int .i64 k2.last)) (by omega), by (repeat (first | with_reducible (first | assumption | exact Below.refl _ _ | refine bel_alloc ?_ _ | refine bel_drew ?_ | refine bel_drewN ?_ _ | refine bel_set ?_ (by first | omega | (simp; done) | (simp; omega)) _ | refine bel_trans ?_ (by assumption)) | assumption | refine bel_trans ?_ (by assumption)))⟩)
           clear ho9 b9
           go_wp2
           exact bodyPost_ret (v := .tuple #[.agg #[.int .i64 k2.o, .int .i64 k2.l, .int .i64 k2.m, .slice A3 k2.ps.length cap3, .int .i64 k2.base, .int .i64 k2.last], .string T9]) (by simp [results, Try.results50, go_sem, j0, j1, j2, j3, j4, j5]) rfl HQ.out)
    · skip
      have e8 : (x8 == 0) = false := eq_no (by omega)
      clear d8
      go_wp2_with fail
      refine (HB.out _ _ HZ.out.rd (by omega) HZ.out.row (by have := HZ.out.lt; have := HZ.out.bx.lt; omega)).mono ?_
      rintro e w9 ⟨k2, A3, cap3, rfl, hw2, hl2, ho9, hr9, hg9⟩
      have HRx := hid (HZ.out.rx.grown hg9 (by simp))
      have b9 := bel_grown HZ.out.bel hg9 (by omega)
      clear HB HZ p0 p1 p2 p3 p4 p5 hr9 hg9
      obtain ⟨r0, r1, r2, r3, r4, r5⟩ := HRx.out.cells6
      obtain ⟨f0, f1, f2, f3, f4, f5⟩ := HRx.out.free6
      obtain ⟨j0, j1, j2, j3, j4, j5⟩ := (HRx.out.put6 (.int .i64 k2.o) (.int .i64 k2.l) (.int .i64 k2.m) (.slice A3 k2.ps.length cap3) (.int .i64 k2.base) (.int .i64 k2.last)).cells6
      have HQ := hid (show AKnownStr w (.returned (.tuple #[.agg #[.int .i64 k2.o, .int .i64 k2.l, .int .i64 k2.m, .slice A3 k2.ps.length cap3, .int .i64 k2.base, .int .i64 k2.last], .string S6])) _ from ⟨k2, A3, cap3, S6, rfl, hw2, hl2, by omega, own_mono (own_put6 ho9 HRx.out tykn_tp (.int .i64 k2.o) (.int .i64 k2.l) (.int .i64 k2.m) (.slice A3 k2.ps.length cap3) (.int .i64 k2.base) (.int .i64 k2.last)) (by omega), by (repeat (first | with_reducible (first | assumption | exact Below.refl _ _ | refine bel_alloc ?_ _ | refine bel_drew ?_ | refine bel_drewN ?_ _ | refine bel_set ?_ (by first | omega | (simp; done) | (simp; omega)) _ | refine bel_trans ?_ (by assumption)) | assumption | refine bel_trans ?_ (by assumption)))⟩)
      clear ho9 b9
      go_wp2
      exact bodyPost_ret (v := .tuple #[.agg #[.int .i64 k2.o, .int .i64 k2.l, .int .i64 k2.m, .slice A3 k2.ps.length cap3, .int .i64 k2.base, .int .i64 k2.last], .string S6]) (by simp [results, Try.results50, go_sem, j0, j1, j2, j3, j4, j5]) rfl HQ.out
  by_cases d1 : x5 = 1
  · skip
    have e0 : (x5 == 0) = false := eq_no (by omega)
    have e1 : (x5 == 1) = true := eq_yes d1
    clear d0 d1
    have hE1 : (S.extract 0 P).size ≤ 4000 := by have := ByteArray.size_extract (a := S) (b := 0) (e := P); omega
    obtain ⟨p0, p1, p2, p3, p4, p5⟩ := HZ.out.bx.cells6
    go_wp2_with fail
    refine (c_pick _ _ _ 240 _ HZ.out.rd (by omega) (by decide)).mono ?_
    rintro e w8 ⟨x8, rfl, hx80, hx81, _, hr8, hg8⟩
    replace HZ := hid (HZ.out.pick hr8 hg8)
    clear hx81 hr8 hg8 p0 p1 p2 p3 p4 p5
    obtain ⟨p0, p1, p2, p3, p4, p5⟩ := HZ.out.bx.cells6
    by_cases d8 : x8 = 0
    · skip
      have e8 : (x8 == 0) = true := eq_yes d8
      clear d8
      have hBl := HZ.out.rd.lt
      have hr1 := HZ.out.rd
      have hcv := @conv0
      have b0 : ∀ o : Obj, ((w8.drew.alloc (.cells #[.int .u8 0] 5)).alloc o).cell? ⟨w8.heap.size, 0, none⟩ = some (.int .u8 0) := fun o => ((Blk.new w8.drew 5 #[.int .u8 0]).alloc o).cell 0
      have b1 : ∀ o : Obj, ((w8.drew.alloc o).alloc (.cells #[.int .u8 0] 5)).cell? ⟨w8.heap.size + 1, 0, none⟩ = some (.int .u8 0) := fun o => by
        have := (Blk.new (w8.drew.alloc o) 5 #[.int .u8 0]).cell 0
        rw [alloc_size] at this; exact this
      go_wp2_with fail
      go_region_with (first
        | (go_at_call 83; refine (c_num _ _ _ _ 2 [4000, 4001] _ (Rd.alloc (Rd.alloc (Rd.near hr1 (bel_drew (Below.refl _ _))) _) _) (by omega) (by exact intsAt_new2 _ _ [4000, 4001] _ (alloc_size _ _).symm) rfl (by decide) (by decide) (by omega)).mono ?_; rintro e wn ⟨y, rfl, hy, hr2, hg2⟩; have hx3 : 0 ≤ y ∧ y ≤ 4001 := (by simp at hy; omega); have gz : w8.grownBy wn (some (w.heap.size + 1)) := grown_trans (grown_alloc (grown_alloc (grown_drew (grown_refl _ _)) _) _) hg2; have hcell : wn.cell? ⟨w8.heap.size, 0, none⟩ = some (.int .u8 0) := hg2.cell (b0 _) (by simp; omega))
        | (go_at_call 83; refine (c_num _ _ _ _ 2 [4000, 4001] _ (Rd.alloc (Rd.alloc (Rd.near hr1 (bel_drew (Below.refl _ _))) _) _) (by omega) (by exact intsAt_al (intsAt_new2 w8.drew _ [4000, 4001] _ rfl) _) rfl (by decide) (by decide) (by simp; omega)).mono ?_; rintro e wn ⟨y, rfl, hy, hr2, hg2⟩; have hx3 : 0 ≤ y ∧ y ≤ 4001 := (by simp at hy; omega); have gz : w8.grownBy wn (some (w.heap.size + 1)) := grown_trans (grown_alloc (grown_alloc (grown_drew (grown_refl _ _)) _) _) hg2; have hcell : wn.cell? ⟨w8.heap.size + 1, 0, none⟩ = some (.int .u8 0) := hg2.cell (b1 _) (by simp; omega))
        | (go_at_call 83; refine (c_num _ _ _ _ 2 [4000, 4001] _ (Rd.alloc (Rd.near hr1 (bel_drew (Below.refl _ _))) _) (by omega) (by exact intsAt_new2 w8.drew _ [4000, 4001] _ rfl) rfl (by decide) (by decide) (by simp; omega)).mono ?_; rintro e wn ⟨y, rfl, hy, hr2, hg2⟩; have hx3 : 0 ≤ y ∧ y ≤ 4001 := (by simp at hy; omega); have gz : w8.grownBy wn (some (w.heap.size + 1)) := grown_trans (grown_alloc (grown_drew (grown_refl _ _)) _) hg2)
        | (go_at_call 82; refine (c_l9Many [0] y _ (by omega) (by omega) (by decide)).mono ?_; rintro e w' ⟨rfl, rfl⟩))
      all_goals
        obtain ⟨T9, hT9⟩ : ∃ T9, T9 = str (rep [0] y.toNat) := ⟨_, rfl⟩
        have hT9s : T9.size ≤ 4001 := by rw [hT9, str_size, rep_len]; simp; omega
        rw [← hT9]
        clear hT9 hcv b0 b1
        first
        | (replace HZ := hid (HZ.out.pick hr2 gz)
           clear hr2 hg2 gz hr1 hy p0 p1 p2 p3 p4 p5
           obtain ⟨p0, p1, p2, p3, p4, p5⟩ := HZ.out.bx.cells6
           go_wp2_with fail
           refine (HB.out _ _ HZ.out.rd (by omega) HZ.out.row (by have := HZ.out.lt; have := HZ.out.bx.lt; omega)).mono ?_
           rintro e w9 ⟨k2, A3, cap3, rfl, hw2, hl2, ho9, hr9, hg9⟩
           have HRx := hid (HZ.out.rx.grown hg9 (by simp))
           have b9 := bel_grown HZ.out.bel hg9 (by omega)
           clear HB HZ p0 p1 p2 p3 p4 p5 hr9 hg9
           obtain ⟨r0, r1, r2, r3, r4, r5⟩ := HRx.out.cells6
           obtain ⟨f0, f1, f2, f3, f4, f5⟩ := HRx.out.free6
           obtain ⟨j0, j1, j2, j3, j4, j5⟩ := (HRx.out.put6 (.int .i64 k2.o) (.int .i64 k2.l) (.int .i64 k2.m) (.slice A3 k2.ps.length cap3) (.int .i64 k2.base) (.int .i64 k2.last)).cells6
           have HQ := hid (show AKnownStr w (.returned (.tuple #[.agg #[.int .i64 k2.o, .int .i64 k2.l, .int .i64 k2.m, .slice A3 k2.ps.length cap3, .int .i64 k2.base, .int .i64 k2.last], .string T9])) _ from ⟨k2, A3, cap3, T9, rfl, hw2, hl2, by omega, own_mono (own_put6 ho9 HRx.out tykn_tp (.int .i64 k2.o) (.int .i64 k2.l) (.int .i64 k2.m) (.slice A3 k2.ps.length cap3) (.int .i64 k2.base) (.int .i64 k2.last)) (by omega), by (repeat (first | with_reducible (first | assumption | exact Below.refl _ _ | refine bel_alloc ?_ _ | refine bel_drew ?_ | refine bel_drewN ?_ _ | refine bel_set ?_ (by first | omega | (simp; done) | (simp; omega)) _ | refine bel_trans ?_ (by assumption)) | assumption | refine bel_trans ?_ (by assumption)))⟩)
           clear ho9 b9
           go_wp2
           exact bodyPost_ret (v := .tuple #[.agg #[.int .i64 k2.o, .int .i64 k2.l, .int .i64 k2.m, .slice A3 k2.ps.length cap3, .int .i64 k2.base, .int .i64 k2.last], .string T9]) (by simp [results, Try.results50, go_sem, j0, j1, j2, j3, j4, j5]) rfl HQ.out)
        | (replace HZ := hid ((HZ.out.pick hr2 gz).on (bel_alloc (Below.refl _ _) (.cells #[.int .u8 0] 5)))
           clear hr2 hg2 gz hr1 hy p0 p1 p2 p3 p4 p5
           obtain ⟨p0, p1, p2, p3, p4, p5⟩ := HZ.out.bx.cells6
           go_wp2_with fail
           refine (HB.out _ _ HZ.out.rd (by omega) HZ.out.row (by have := HZ.out.lt; have := HZ.out.bx.lt; omega)).mono ?_
           rintro e w9 ⟨k2, A3, cap3, rfl, hw2, hl2, ho9, hr9, hg9⟩
           have HRx := hid (HZ.out.rx.grown hg9 (by simp))
           have b9 := bel_grown HZ.out.bel hg9 (by omega)
           clear HB HZ p0 p1 p2 p3 p4 p5 hr9 hg9
           obtain ⟨r0, r1, r2, r3, r4, r5⟩ := HRx.out.cells6
           obtain ⟨f0, f1, f2, f3, f4, f5⟩ := HRx.out.free6
           obtain ⟨j0, j1, j2, j3, j4, j5⟩ := (HRx.out.put6 (.int .i64 k2.o) (.int .i64 k2.l) (.int .i64 k2.m) (.slice A3 k2.ps.length cap3) (.int .i64 k2.base) (.int .i64 k2.last)).cells6
           have HQ := hid (show AKnownStr w (.returned (.tuple #[.agg #[.int .i64 k2.o, .int .i64 k2.l, .int .i64 k2.m, .slice A3 k2.ps.length cap3, .int .i64 k2.base, .int .i64 k2.last], .string T9])) _ from ⟨k2, A3, cap3, T9, rfl, hw2, hl2, by omega, own_mono (own_put6 ho9 HRx.out tykn_tp (.int .i64 k2.o) (.int .i64 k2.l) (.int .i64 k2.m) (.slice A3 k2.ps.length cap3) (.int .i64 k2.base) (.int .i64 k2.last)) (by omega), by (repeat (first | with_reducible (first | assumption | exact Below.refl _ _ | refine bel_alloc ?_ _ | refine bel_drew ?_ | refine bel_drewN ?_ _ | refine bel_set ?_ (by first | omega | (simp; done) | (simp; omega)) _ | refine bel_trans ?_ (by assumption)) | assumption | refine bel_trans ?_ (by assumption)))⟩)
           clear ho9 b9
           go_wp2
           exact bodyPost_ret (v := .tuple #[.agg #[.int .i64 k2.o, .int .i64 k2.l, .int .i64 k2.m, .slice A3 k2.ps.length cap3, .int .i64 k2.base, .int .i64 k2.last], .string T9]) (by simp [results, Try.results50, go_sem, j0, j1, j2, j3, j4, j5]) rfl HQ.out)
    · skip
      have e8 : (x8 == 0) = false := eq_no (by omega)
      clear d8
      go_wp2_with fail
      refine (HB.out _ _ HZ.out.rd (by omega) HZ.out.row (by have := HZ.out.lt; have := HZ.out.bx.lt; omega)).mono ?_
      rintro e w9 ⟨k2, A3, cap3, rfl, hw2, hl2, ho9, hr9, hg9⟩
      have HRx := hid (HZ.out.rx.grown hg9 (by simp))
      have b9 := bel_grown HZ.out.bel hg9 (by omega)
      clear HB HZ p0 p1 p2 p3 p4 p5 hr9 hg9
      obtain ⟨r0, r1, r2, r3, r4, r5⟩ := HRx.out.cells6
      obtain ⟨f0, f1, f2, f3, f4, f5⟩ := HRx.out.free6
      obtain ⟨j0, j1, j2, j3, j4, j5⟩ := (HRx.out.put6 (.int .i64 k2.o) (.int .i64 k2.l) (.int .i64 k2.m) (.slice A3 k2.ps.length cap3) (.int .i64 k2.base) (.int .i64 k2.last)).cells6
      have HQ := hid (show AKnownStr w (.returned (.tuple #[.agg #[.int .i64 k2.o, .int .i64 k2.l, .int .i64 k2.m, .slice A3 k2.ps.length cap3, .int .i64 k2.base, .int .i64 k2.last], .string (S.extract 0 P)])) _ from ⟨k2, A3, cap3, S.extract 0 P, rfl, hw2, hl2, by omega, own_mono (own_put6 ho9 HRx.out tykn_tp (.int .i64 k2.o) (.int .i64 k2.l) (.int .i64 k2.m) (.slice A3 k2.ps.length cap3) (.int .i64 k2.base) (.int .i64 k2.last)) (by omega), by (repeat (first | with_reducible (first | assumption | exact Below.refl _ _ | refine bel_alloc ?_ _ | refine bel_drew ?_ | refine bel_drewN ?_ _ | refine bel_set ?_ (by first | omega | (simp; done) | (simp; omega)) _ | refine bel_trans ?_ (by assumption)) | assumption | refine bel_trans ?_ (by assumption)))⟩)
      clear ho9 b9
      go_wp2
      exact bodyPost_ret (v := .tuple #[.agg #[.int .i64 k2.o, .int .i64 k2.l, .int .i64 k2.m, .slice A3 k2.ps.length cap3, .int .i64 k2.base, .int .i64 k2.last], .string (S.extract 0 P)]) (by simp [results, Try.results50, go_sem, j0, j1, j2, j3, j4, j5]) rfl HQ.out
  by_cases d2 : x5 = 2
  · skip
    have e0 : (x5 == 0) = false := eq_no (by omega)
    have e1 : (x5 == 1) = false := eq_no (by omega)
    have e2 : (x5 == 2) = true := eq_yes d2
    clear d0 d1 d2
    obtain ⟨p0, p1, p2, p3, p4, p5⟩ := HZ.out.bx.cells6
    have hS := HZ.out.bx.cells6t
    have hE1 : (S.extract 0 P).size ≤ 4000 := by have := ByteArray.size_extract (a := S) (b := 0) (e := P); omega
    have hE2 : (S.extract P S.size).size ≤ 4000 := by have := ByteArray.size_extract (a := S) (b := P) (e := S.size); omega
    have hPs : P ≤ S.size := by omega
    go_wp2_with fail
    replace HZ := hid (HZ.out.on (bel_drew (Below.refl w5.heap.size w5)))
    refine wp_region_noPanic ?_
    refine wp_region_held_drew (S := (fun v => v.cell? ⟨w2.heap.size, 0, none⟩ = some (.int .i64 k.o) ∧ v.cell? ⟨w2.heap.size, 1, none⟩ = some (.int .i64 k.l) ∧ v.cell? ⟨w2.heap.size, 2, none⟩ = some (.int .i64 k.m) ∧ v.cell? ⟨w2.heap.size, 3, none⟩ = some (.slice A k.ps.length cap) ∧ v.cell? ⟨w2.heap.size, 4, none⟩ = some (.int .i64 k.base) ∧ v.cell? ⟨w2.heap.size, 5, none⟩ = some (.int .i64 k.last) ∧ True)) (by kernel_rfl) (t6_drew hS) (fun hHeld => ?_)
    refine tk 0 ?_
    refine tk 1 ?_
    refine tk 2 ?_
    refine tk 3 ?_
    refine tk 6 ?_
    refine tk 7 ?_
    refine tk 8 ?_
    refine wpAnyH_ready (rs := [4]) (by kernel_rfl) (by simp) ?_
    refine AllReadyH.cons (o := ?or2_4) ?ir2_4 (fun K hK => ?sr2_4) AllReadyH.nil
    case ir2_4 => (simp only [List.getElem?_toArray, List.getElem?_cons_succ, List.getElem?_cons_zero]; rfl)
    (go_simp; (go_at_call 80; refine (c_l1Bytes _ _ _ 3 _ HZ.out.rd (by omega) (by decide)).mono ?_; rintro e w6 ⟨l6, rfl, hl6, hr6, hg6⟩; replace HZ := hid ((HZ.out.pick hr6 hg6).more (show _ ≤ 600 by omega)); obtain ⟨S6, hS6⟩ : ∃ S6, S6 = str l6 := ⟨_, rfl⟩; have hS6s : S6.size ≤ 3 := (by rw [hS6, str_size]; exact hl6); rw [← hS6]; clear hS6 hl6 hr6 hg6; have hE3 : (S.extract 0 P ++ S6).size ≤ 4003 := (by rw [ByteArray.size_append]; omega); have ha1 : ∀ W, (Op.stringOp .add (S.extract 0 P) S6).run Try.prog W = .ok (.string (S.extract 0 P ++ S6)) W := fun W => run_string_add W _ _ (by omega) (by omega); have ha2 : ∀ W, (Op.stringOp .add (S.extract 0 P ++ S6) (S.extract P S.size)).run Try.prog W = .ok (.string (S.extract 0 P ++ S6 ++ S.extract P S.size)) W := fun W => run_string_add W _ _ (by omega) (by omega)))
    refine hK.out _ _ ?kr2_4 (fun hHeld => ?_)
    case kr2_4 => (try dsimp only); (first | with_reducible assumption | with_reducible exact HZ.out.bx.cells6t | exact t6_bel (by assumption) (by assumption) | assumption | exact t6_alloc (by assumption) _ | exact HZ.out.bx.cells6t)
    clear hK K
    try simp only [Act.put, List.setIfInBounds_toArray, List.set_cons_zero, List.set_cons_succ]
    refine tk 5 ?_
    refine tk 9 ?_
    refine tk 10 ?_
    refine wpAnyH_done (by kernel_rfl) ?_ _
    refine NoPanic.normal ?_
    have hE4 : (S.extract 0 P ++ S6 ++ S.extract P S.size).size ≤ 5000 := by
      have := ByteArray.size_extract (a := S) (b := P) (e := S.size)
      have := ByteArray.size_extract (a := S) (b := 0) (e := P)
      rw [ByteArray.size_append, ByteArray.size_append]; omega
    clear hS p0 p1 p2 p3 p4 p5
    (try clear hHeld)
    obtain ⟨p0, p1, p2, p3, p4, p5⟩ := HZ.out.bx.cells6
    go_wp2_with fail
    refine (c_pick _ _ _ 240 _ HZ.out.rd (by omega) (by decide)).mono ?_
    rintro e w8 ⟨x8, rfl, hx80, hx81, _, hr8, hg8⟩
    replace HZ := hid (HZ.out.pick hr8 hg8)
    clear hx81 hr8 hg8 p0 p1 p2 p3 p4 p5
    obtain ⟨p0, p1, p2, p3, p4, p5⟩ := HZ.out.bx.cells6
    by_cases d8 : x8 = 0
    · skip
      have e8 : (x8 == 0) = true := eq_yes d8
      clear d8
      have hBl := HZ.out.rd.lt
      have hr1 := HZ.out.rd
      have hcv := @conv0
      have b0 : ∀ o : Obj, ((w8.drew.alloc (.cells #[.int .u8 0] 5)).alloc o).cell? ⟨w8.heap.size, 0, none⟩ = some (.int .u8 0) := fun o => ((Blk.new w8.drew 5 #[.int .u8 0]).alloc o).cell 0
      have b1 : ∀ o : Obj, ((w8.drew.alloc o).alloc (.cells #[.int .u8 0] 5)).cell? ⟨w8.heap.size + 1, 0, none⟩ = some (.int .u8 0) := fun o => by
        have := (Blk.new (w8.drew.alloc o) 5 #[.int .u8 0]).cell 0
        rw [alloc_size] at this; exact this
      go_wp2_with fail
      go_region_with (first
        | (go_at_call 83; refine (c_num _ _ _ _ 2 [4000, 4001] _ (Rd.alloc (Rd.alloc (Rd.near hr1 (bel_drew (Below.refl _ _))) _) _) (by omega) (by exact intsAt_new2 _ _ [4000, 4001] _ (alloc_size _ _).symm) rfl (by decide) (by decide) (by omega)).mono ?_; rintro e wn ⟨y, rfl, hy, hr2, hg2⟩; have hx3 : 0 ≤ y ∧ y ≤ 4001 := (by simp at hy; omega); have gz : w8.grownBy wn (some (w.heap.size + 1)) := grown_trans (grown_alloc (grown_alloc (grown_drew (grown_refl _ _)) _) _) hg2; have hcell : wn.cell? ⟨w8.heap.size, 0, none⟩ = some (.int .u8 0) := hg2.cell (b0 _) (by simp; omega))
        | (go_at_call 83; refine (c_num _ _ _ _ 2 [4000, 4001] _ (Rd.alloc (Rd.alloc (Rd.near hr1 (bel_drew (Below.refl _ _))) _) _) (by omega) (by exact intsAt_al (intsAt_new2 w8.drew _ [4000, 4001] _ rfl) _) rfl (by decide) (by decide) (by simp; omega)).mono ?_; rintro e wn ⟨y, rfl, hy, hr2, hg2⟩; have hx3 : 0 ≤ y ∧ y ≤ 4001 := (by simp at hy; omega); have gz : w8.grownBy wn (some (w.heap.size + 1)) := grown_trans (grown_alloc (grown_alloc (grown_drew (grown_refl _ _)) _) _) hg2; have hcell : wn.cell? ⟨w8.heap.size + 1, 0, none⟩ = some (.int .u8 0) := hg2.cell (b1 _) (by simp; omega))
        | (go_at_call 83; refine (c_num _ _ _ _ 2 [4000, 4001] _ (Rd.alloc (Rd.near hr1 (bel_drew (Below.refl _ _))) _) (by omega) (by exact intsAt_new2 w8.drew _ [4000, 4001] _ rfl) rfl (by decide) (by decide) (by simp; omega)).mono ?_; rintro e wn ⟨y, rfl, hy, hr2, hg2⟩; have hx3 : 0 ≤ y ∧ y ≤ 4001 := (by simp at hy; omega); have gz : w8.grownBy wn (some (w.heap.size + 1)) := grown_trans (grown_alloc (grown_drew (grown_refl _ _)) _) hg2)
        | (go_at_call 82; refine (c_l9Many [0] y _ (by omega) (by omega) (by decide)).mono ?_; rintro e w' ⟨rfl, rfl⟩))
      all_goals
        obtain ⟨T9, hT9⟩ : ∃ T9, T9 = str (rep [0] y.toNat) := ⟨_, rfl⟩
        have hT9s : T9.size ≤ 4001 := by rw [hT9, str_size, rep_len]; simp; omega
        rw [← hT9]
        clear hT9 hcv b0 b1
        first
        | (replace HZ := hid (HZ.out.pick hr2 gz)
           clear hr2 hg2 gz hr1 hy p0 p1 p2 p3 p4 p5
           obtain ⟨p0, p1, p2, p3, p4, p5⟩ := HZ.out.bx.cells6
           go_wp2_with fail
           refine (HB.out _ _ HZ.out.rd (by omega) HZ.out.row (by have := HZ.out.lt; have := HZ.out.bx.lt; omega)).mono ?_
           rintro e w9 ⟨k2, A3, cap3, rfl, hw2, hl2, ho9, hr9, hg9⟩
           have HRx := hid (HZ.out.rx.grown hg9 (by simp))
           have b9 := bel_grown HZ.out.bel hg9 (by omega)
           clear HB HZ p0 p1 p2 p3 p4 p5 hr9 hg9
           obtain ⟨r0, r1, r2, r3, r4, r5⟩ := HRx.out.cells6
           obtain ⟨f0, f1, f2, f3, f4, f5⟩ := HRx.out.free6
           obtain ⟨j0, j1, j2, j3, j4, j5⟩ := (HRx.out.put6 (.int .i64 k2.o) (.int .i64 k2.l) (.int .i64 k2.m) (.slice A3 k2.ps.length cap3) (.int .i64 k2.base) (.int .i64 k2.last)).cells6
           have HQ := hid (show AKnownStr w (.returned (.tuple #[.agg #[.int .i64 k2.o, .int .i64 k2.l, .int .i64 k2.m, .slice A3 k2.ps.length cap3, .int .i64 k2.base, .int .i64 k2.last], .string T9])) _ from ⟨k2, A3, cap3, T9, rfl, hw2, hl2, by omega, own_mono (own_put6 ho9 HRx.out tykn_tp (.int .i64 k2.o) (.int .i64 k2.l) (.int .i64 k2.m) (.slice A3 k2.ps.length cap3) (.int .i64 k2.base) (.int .i64 k2.last)) (by omega), by (repeat (first | with_reducible (first | assumption | exact Below.refl _ _ | refine bel_alloc ?_ _ | refine bel_drew ?_ | refine bel_drewN ?_ _ | refine bel_set ?_ (by first | omega | (simp; done) | (simp; omega)) _ | refine bel_trans ?_ (by assumption)) | assumption | refine bel_trans ?_ (by assumption)))⟩)
           clear ho9 b9
           go_wp2
           exact bodyPost_ret (v := .tuple #[.agg #[.int .i64 k2.o, .int .i64 k2.l, .int .i64 k2.m, .slice A3 k2.ps.length cap3, .int .i64 k2.base, .int .i64 k2.last], .string T9]) (by simp [results, Try.results50, go_sem, j0, j1, j2, j3, j4, j5]) rfl HQ.out)
        | (replace HZ := hid ((HZ.out.pick hr2 gz).on (bel_alloc (Below.refl _ _) (.cells #[.int .u8 0] 5)))
           clear hr2 hg2 gz hr1 hy p0 p1 p2 p3 p4 p5
           obtain ⟨p0, p1, p2, p3, p4, p5⟩ := HZ.out.bx.cells6
           go_wp2_with fail
           refine (HB.out _ _ HZ.out.rd (by omega) HZ.out.row (by have := HZ.out.lt; have := HZ.out.bx.lt; omega)).mono ?_
           rintro e w9 ⟨k2, A3, cap3, rfl, hw2, hl2, ho9, hr9, hg9⟩
           have HRx := hid (HZ.out.rx.grown hg9 (by simp))
           have b9 := bel_grown HZ.out.bel hg9 (by omega)
           clear HB HZ p0 p1 p2 p3 p4 p5 hr9 hg9
           obtain ⟨r0, r1, r2, r3, r4, r5⟩ := HRx.out.cells6
           obtain ⟨f0, f1, f2, f3, f4, f5⟩ := HRx.out.free6
           obtain ⟨j0, j1, j2, j3, j4, j5⟩ := (HRx.out.put6 (.int .i64 k2.o) (.int .i64 k2.l) (.int .i64 k2.m) (.slice A3 k2.ps.length cap3) (.int .i64 k2.base) (.int .i64 k2.last)).cells6
           have HQ := hid (show AKnownStr w (.returned (.tuple #[.agg #[.int .i64 k2.o, .int .i64 k2.l, .int .i64 k2.m, .slice A3 k2.ps.length cap3, .int .i64 k2.base, .int .i64 k2.last], .string T9])) _ from ⟨k2, A3, cap3, T9, rfl, hw2, hl2, by omega, own_mono (own_put6 ho9 HRx.out tykn_tp (.int .i64 k2.o) (.int .i64 k2.l) (.int .i64 k2.m) (.slice A3 k2.ps.length cap3) (.int .i64 k2.base) (.int .i64 k2.last)) (by omega), by (repeat (first | with_reducible (first | assumption | exact Below.refl _ _ | refine bel_alloc ?_ _ | refine bel_drew ?_ | refine bel_drewN ?_ _ | refine bel_set ?_ (by first | omega | (simp; done) | (simp; omega)) _ | refine bel_trans ?_ (by assumption)) | assumption | refine bel_trans ?_ (by assumption)))⟩)
           clear ho9 b9
           go_wp2
           exact bodyPost_ret (v := .tuple #[.agg #[.int .i64 k2.o, .int .i64 k2.l, .int .i64 k2.m, .slice A3 k2.ps.length cap3, .int .i64 k2.base, .int .i64 k2.last], .string T9]) (by simp [results, Try.results50, go_sem, j0, j1, j2, j3, j4, j5]) rfl HQ.out)
    · skip
      have e8 : (x8 == 0) = false := eq_no (by omega)
      clear d8
      go_wp2_with fail
      refine (HB.out _ _ HZ.out.rd (by omega) HZ.out.row (by have := HZ.out.lt; have := HZ.out.bx.lt; omega)).mono ?_
      rintro e w9 ⟨k2, A3, cap3, rfl, hw2, hl2, ho9, hr9, hg9⟩
      have HRx := hid (HZ.out.rx.grown hg9 (by simp))
      have b9 := bel_grown HZ.out.bel hg9 (by omega)
      clear HB HZ p0 p1 p2 p3 p4 p5 hr9 hg9
      obtain ⟨r0, r1, r2, r3, r4, r5⟩ := HRx.out.cells6
      obtain ⟨f0, f1, f2, f3, f4, f5⟩ := HRx.out.free6
      obtain ⟨j0, j1, j2, j3, j4, j5⟩ := (HRx.out.put6 (.int .i64 k2.o) (.int .i64 k2.l) (.int .i64 k2.m) (.slice A3 k2.ps.length cap3) (.int .i64 k2.base) (.int .i64 k2.last)).cells6
      have HQ := hid (show AKnownStr w (.returned (.tuple #[.agg #[.int .i64 k2.o, .int .i64 k2.l, .int .i64 k2.m, .slice A3 k2.ps.length cap3, .int .i64 k2.base, .int .i64 k2.last], .string (S.extract 0 P ++ S6 ++ S.extract P S.size)])) _ from ⟨k2, A3, cap3, S.extract 0 P ++ S6 ++ S.extract P S.size, rfl, hw2, hl2, by omega, own_mono (own_put6 ho9 HRx.out tykn_tp (.int .i64 k2.o) (.int .i64 k2.l) (.int .i64 k2.m) (.slice A3 k2.ps.length cap3) (.int .i64 k2.base) (.int .i64 k2.last)) (by omega), by (repeat (first | with_reducible (first | assumption | exact Below.refl _ _ | refine bel_alloc ?_ _ | refine bel_drew ?_ | refine bel_drewN ?_ _ | refine bel_set ?_ (by first | omega | (simp; done) | (simp; omega)) _ | refine bel_trans ?_ (by assumption)) | assumption | refine bel_trans ?_ (by assumption)))⟩)
      clear ho9 b9
      go_wp2
      exact bodyPost_ret (v := .tuple #[.agg #[.int .i64 k2.o, .int .i64 k2.l, .int .i64 k2.m, .slice A3 k2.ps.length cap3, .int .i64 k2.base, .int .i64 k2.last], .string (S.extract 0 P ++ S6 ++ S.extract P S.size)]) (by simp [results, Try.results50, go_sem, j0, j1, j2, j3, j4, j5]) rfl HQ.out
  · skip
    have e0 : (x5 == 0) = false := eq_no (by omega)
    have e1 : (x5 == 1) = false := eq_no (by omega)
    have e2 : (x5 == 2) = false := eq_no (by omega)
    clear d0 d1 d2
    obtain ⟨p0, p1, p2, p3, p4, p5⟩ := HZ.out.bx.cells6
    go_wp2_with fail
    refine (c_pick _ _ _ 240 _ HZ.out.rd (by omega) (by decide)).mono ?_
    rintro e w8 ⟨x8, rfl, hx80, hx81, _, hr8, hg8⟩
    replace HZ := hid (HZ.out.pick hr8 hg8)
    clear hx81 hr8 hg8 p0 p1 p2 p3 p4 p5
    obtain ⟨p0, p1, p2, p3, p4, p5⟩ := HZ.out.bx.cells6
    by_cases d8 : x8 = 0
    · skip
      have e8 : (x8 == 0) = true := eq_yes d8
      clear d8
      have hBl := HZ.out.rd.lt
      have hr1 := HZ.out.rd
      have hcv := @conv0
      have b0 : ∀ o : Obj, ((w8.drew.alloc (.cells #[.int .u8 0] 5)).alloc o).cell? ⟨w8.heap.size, 0, none⟩ = some (.int .u8 0) := fun o => ((Blk.new w8.drew 5 #[.int .u8 0]).alloc o).cell 0
      have b1 : ∀ o : Obj, ((w8.drew.alloc o).alloc (.cells #[.int .u8 0] 5)).cell? ⟨w8.heap.size + 1, 0, none⟩ = some (.int .u8 0) := fun o => by
        have := (Blk.new (w8.drew.alloc o) 5 #[.int .u8 0]).cell 0
        rw [alloc_size] at this; exact this
      go_wp2_with fail
      go_region_with (first
        | (go_at_call 83; refine (c_num _ _ _ _ 2 [4000, 4001] _ (Rd.alloc (Rd.alloc (Rd.near hr1 (bel_drew (Below.refl _ _))) _) _) (by omega) (by exact intsAt_new2 _ _ [4000, 4001] _ (alloc_size _ _).symm) rfl (by decide) (by decide) (by omega)).mono ?_; rintro e wn ⟨y, rfl, hy, hr2, hg2⟩; have hx3 : 0 ≤ y ∧ y ≤ 4001 := (by simp at hy; omega); have gz : w8.grownBy wn (some (w.heap.size + 1)) := grown_trans (grown_alloc (grown_alloc (grown_drew (grown_refl _ _)) _) _) hg2; have hcell : wn.cell? ⟨w8.heap.size, 0, none⟩ = some (.int .u8 0) := hg2.cell (b0 _) (by simp; omega))
        | (go_at_call 83; refine (c_num _ _ _ _ 2 [4000, 4001] _ (Rd.alloc (Rd.alloc (Rd.near hr1 (bel_drew (Below.refl _ _))) _) _) (by omega) (by exact intsAt_al (intsAt_new2 w8.drew _ [4000, 4001] _ rfl) _) rfl (by decide) (by decide) (by simp; omega)).mono ?_; rintro e wn ⟨y, rfl, hy, hr2, hg2⟩; have hx3 : 0 ≤ y ∧ y ≤ 4001 := (by simp at hy; omega); have gz : w8.grownBy wn (some (w.heap.size + 1)) := grown_trans (grown_alloc (grown_alloc (grown_drew (grown_refl _ _)) _) _) hg2; have hcell : wn.cell? ⟨w8.heap.size + 1, 0, none⟩ = some (.int .u8 0) := hg2.cell (b1 _) (by simp; omega))
        | (go_at_call 83; refine (c_num _ _ _ _ 2 [4000, 4001] _ (Rd.alloc (Rd.near hr1 (bel_drew (Below.refl _ _))) _) (by omega) (by exact intsAt_new2 w8.drew _ [4000, 4001] _ rfl) rfl (by decide) (by decide) (by simp; omega)).mono ?_; rintro e wn ⟨y, rfl, hy, hr2, hg2⟩; have hx3 : 0 ≤ y ∧ y ≤ 4001 := (by simp at hy; omega); have gz : w8.grownBy wn (some (w.heap.size + 1)) := grown_trans (grown_alloc (grown_drew (grown_refl _ _)) _) hg2)
        | (go_at_call 82; refine (c_l9Many [0] y _ (by omega) (by omega) (by decide)).mono ?_; rintro e w' ⟨rfl, rfl⟩))
      all_goals
        obtain ⟨T9, hT9⟩ : ∃ T9, T9 = str (rep [0] y.toNat) := ⟨_, rfl⟩
        have hT9s : T9.size ≤ 4001 := by rw [hT9, str_size, rep_len]; simp; omega
        rw [← hT9]
        clear hT9 hcv b0 b1
        first
        | (replace HZ := hid (HZ.out.pick hr2 gz)
           clear hr2 hg2 gz hr1 hy p0 p1 p2 p3 p4 p5
           obtain ⟨p0, p1, p2, p3, p4, p5⟩ := HZ.out.bx.cells6
           go_wp2_with fail
           refine (HB.out _ _ HZ.out.rd (by omega) HZ.out.row (by have := HZ.out.lt; have := HZ.out.bx.lt; omega)).mono ?_
           rintro e w9 ⟨k2, A3, cap3, rfl, hw2, hl2, ho9, hr9, hg9⟩
           have HRx := hid (HZ.out.rx.grown hg9 (by simp))
           have b9 := bel_grown HZ.out.bel hg9 (by omega)
           clear HB HZ p0 p1 p2 p3 p4 p5 hr9 hg9
           obtain ⟨r0, r1, r2, r3, r4, r5⟩ := HRx.out.cells6
           obtain ⟨f0, f1, f2, f3, f4, f5⟩ := HRx.out.free6
           obtain ⟨j0, j1, j2, j3, j4, j5⟩ := (HRx.out.put6 (.int .i64 k2.o) (.int .i64 k2.l) (.int .i64 k2.m) (.slice A3 k2.ps.length cap3) (.int .i64 k2.base) (.int .i64 k2.last)).cells6
           have HQ := hid (show AKnownStr w (.returned (.tuple #[.agg #[.int .i64 k2.o, .int .i64 k2.l, .int .i64 k2.m, .slice A3 k2.ps.length cap3, .int .i64 k2.base, .int .i64 k2.last], .string T9])) _ from ⟨k2, A3, cap3, T9, rfl, hw2, hl2, by omega, own_mono (own_put6 ho9 HRx.out tykn_tp (.int .i64 k2.o) (.int .i64 k2.l) (.int .i64 k2.m) (.slice A3 k2.ps.length cap3) (.int .i64 k2.base) (.int .i64 k2.last)) (by omega), by (repeat (first | with_reducible (first | assumption | exact Below.refl _ _ | refine bel_alloc ?_ _ | refine bel_drew ?_ | refine bel_drewN ?_ _ | refine bel_set ?_ (by first | omega | (simp; done) | (simp; omega)) _ | refine bel_trans ?_ (by assumption)) | assumption | refine bel_trans ?_ (by assumption)))⟩)
           clear ho9 b9
           go_wp2
           exact bodyPost_ret (v := .tuple #[.agg #[.int .i64 k2.o, .int .i64 k2.l, .int .i64 k2.m, .slice A3 k2.ps.length cap3, .int .i64 k2.base, .int .i64 k2.last], .string T9]) (by simp [results, Try.results50, go_sem, j0, j1, j2, j3, j4, j5]) rfl HQ.out)
        | (replace HZ := hid ((HZ.out.pick hr2 gz).on (bel_alloc (Below.refl _ _) (.cells #[.int .u8 0] 5)))
           clear hr2 hg2 gz hr1 hy p0 p1 p2 p3 p4 p5
           obtain ⟨p0, p1, p2, p3, p4, p5⟩ := HZ.out.bx.cells6
           go_wp2_with fail
           refine (HB.out _ _ HZ.out.rd (by omega) HZ.out.row (by have := HZ.out.lt; have := HZ.out.bx.lt; omega)).mono ?_
           rintro e w9 ⟨k2, A3, cap3, rfl, hw2, hl2, ho9, hr9, hg9⟩
           have HRx := hid (HZ.out.rx.grown hg9 (by simp))
           have b9 := bel_grown HZ.out.bel hg9 (by omega)
           clear HB HZ p0 p1 p2 p3 p4 p5 hr9 hg9
           obtain ⟨r0, r1, r2, r3, r4, r5⟩ := HRx.out.cells6
           obtain ⟨f0, f1, f2, f3, f4, f5⟩ := HRx.out.free6
           obtain ⟨j0, j1, j2, j3, j4, j5⟩ := (HRx.out.put6 (.int .i64 k2.o) (.int .i64 k2.l) (.int .i64 k2.m) (.slice A3 k2.ps.length cap3) (.int .i64 k2.base) (.int .i64 k2.last)).cells6
           have HQ := hid (show AKnownStr w (.returned (.tuple #[.agg #[.int .i64 k2.o, .int .i64 k2.l, .int .i64 k2.m, .slice A3 k2.ps.length cap3, .int .i64 k2.base, .int .i64 k2.last], .string T9])) _ from ⟨k2, A3, cap3, T9, rfl, hw2, hl2, by omega, own_mono (own_put6 ho9 HRx.out tykn_tp (.int .i64 k2.o) (.int .i64 k2.l) (.int .i64 k2.m) (.slice A3 k2.ps.length cap3) (.int .i64 k2.base) (.int .i64 k2.last)) (by omega), by (repeat (first | with_reducible (first | assumption | exact Below.refl _ _ | refine bel_alloc ?_ _ | refine bel_drew ?_ | refine bel_drewN ?_ _ | refine bel_set ?_ (by first | omega | (simp; done) | (simp; omega)) _ | refine bel_trans ?_ (by assumption)) | assumption | refine bel_trans ?_ (by assumption)))⟩)
           clear ho9 b9
           go_wp2
           exact bodyPost_ret (v := .tuple #[.agg #[.int .i64 k2.o, .int .i64 k2.l, .int .i64 k2.m, .slice A3 k2.ps.length cap3, .int .i64 k2.base, .int .i64 k2.last], .string T9]) (by simp [results, Try.results50, go_sem, j0, j1, j2, j3, j4, j5]) rfl HQ.out)
    · skip
      have e8 : (x8 == 0) = false := eq_no (by omega)
      clear d8
      go_wp2_with fail
      refine (HB.out _ _ HZ.out.rd (by omega) HZ.out.row (by have := HZ.out.lt; have := HZ.out.bx.lt; omega)).mono ?_
      rintro e w9 ⟨k2, A3, cap3, rfl, hw2, hl2, ho9, hr9, hg9⟩
      have HRx := hid (HZ.out.rx.grown hg9 (by simp))
      have b9 := bel_grown HZ.out.bel hg9 (by omega)
      clear HB HZ p0 p1 p2 p3 p4 p5 hr9 hg9
      obtain ⟨r0, r1, r2, r3, r4, r5⟩ := HRx.out.cells6
      obtain ⟨f0, f1, f2, f3, f4, f5⟩ := HRx.out.free6
      obtain ⟨j0, j1, j2, j3, j4, j5⟩ := (HRx.out.put6 (.int .i64 k2.o) (.int .i64 k2.l) (.int .i64 k2.m) (.slice A3 k2.ps.length cap3) (.int .i64 k2.base) (.int .i64 k2.last)).cells6
      have HQ := hid (show AKnownStr w (.returned (.tuple #[.agg #[.int .i64 k2.o, .int .i64 k2.l, .int .i64 k2.m, .slice A3 k2.ps.length cap3, .int .i64 k2.base, .int .i64 k2.last], .string S])) _ from ⟨k2, A3, cap3, S, rfl, hw2, hl2, by omega, own_mono (own_put6 ho9 HRx.out tykn_tp (.int .i64 k2.o) (.int .i64 k2.l) (.int .i64 k2.m) (.slice A3 k2.ps.length cap3) (.int .i64 k2.base) (.int .i64 k2.last)) (by omega), by (repeat (first | with_reducible (first | assumption | exact Below.refl _ _ | refine bel_alloc ?_ _ | refine bel_drew ?_ | refine bel_drewN ?_ _ | refine bel_set ?_ (by first | omega | (simp; done) | (simp; omega)) _ | refine bel_trans ?_ (by assumption)) | assumption | refine bel_trans ?_ (by assumption)))⟩)
      clear ho9 b9
      go_wp2
      exact bodyPost_ret (v := .tuple #[.agg #[.int .i64 k2.o, .int .i64 k2.l, .int .i64 k2.m, .slice A3 k2.ps.length cap3, .int .i64 k2.base, .int .i64 k2.last], .string S]) (by simp [results, Try.results50, go_sem, j0, j1, j2, j3, j4, j5]) rfl HQ.out

set_option maxHeartbeats 4000000 in
set_option maxRecDepth 100000 in
theorem c_DrawDecompress (A' : Option Addr) (n cap' : Nat) (w : World) (hc : CodeAt w w.heap.size A' n cap') : Calls Try.prog 60 #[.slice A' n cap'] w (AKnownStr w) := by
  have k0 := Blk.new w 32 #[.int .i64 0, .int .i64 0, .int .i64 0, .slice none 0 0, .int .i64 0, .int .i64 0]
  have HCo := hid (codeAt_mono (hc.keep (fun k hk => Below.heap_alloc w (.cells #[.int .i64 0, .int .i64 0, .int .i64 0, .slice none 0 0, .int .i64 0, .int .i64 0] 32) k (by omega))) (show w.heap.size ≤ (w.alloc (.cells #[.int .i64 0, .int .i64 0, .int .i64 0, .slice none 0 0, .int .i64 0, .int .i64 0] 32)).heap.size by simp))
  clear hc
  go_enter Try.func60, Try.ntmps60
  go_wp2_with fail
  refine (c_DrawUnpackCodes _ _ _ _ HCo.out).mono ?_
  rintro e w1 ⟨k, A, cap, s, rfl, hw, hl, hs, ho1, hb1⟩
  have hbd1 : Below w.heap.size w w1 := bel_trans (bel_alloc (Below.refl _ _) _) hb1
  have HX := hid (k0.on hb1)
  have HO := hid (own_mono ho1 (show w.heap.size ≤ (w.alloc (.cells #[.int .i64 0, .int .i64 0, .int .i64 0, .slice none 0 0, .int .i64 0, .int .i64 0] 32)).heap.size by simp))
  clear HCo k0 hb1 ho1 
  obtain ⟨r0, r1, r2, r3, r4, r5⟩ := HX.out.cells6
  obtain ⟨f0, f1, f2, f3, f4, f5⟩ := HX.out.free6
  obtain ⟨j0, j1, j2, j3, j4, j5⟩ := (HX.out.put6 (.int .i64 k.o) (.int .i64 k.l) (.int .i64 k.m) (.slice A k.ps.length cap) (.int .i64 k.base) (.int .i64 k.last)).cells6
  have HQ := hid (show AKnownStr w (.returned (.tuple #[.agg #[.int .i64 k.o, .int .i64 k.l, .int .i64 k.m, .slice A k.ps.length cap, .int .i64 k.base, .int .i64 k.last], .string s])) _ from ⟨k, A, cap, s, rfl, hw, hl, hs, own_mono (own_put6 HO.out HX.out tykn_tp (.int .i64 k.o) (.int .i64 k.l) (.int .i64 k.m) (.slice A k.ps.length cap) (.int .i64 k.base) (.int .i64 k.last)) (by omega), by (repeat (first | with_reducible (first | assumption | exact Below.refl _ _ | refine bel_alloc ?_ _ | refine bel_drew ?_ | refine bel_drewN ?_ _ | refine bel_set ?_ (by first | omega | (simp; done) | (simp; omega)) _ | refine bel_trans ?_ (by assumption)) | assumption | refine bel_trans ?_ (by assumption)))⟩)
  clear HO hbd1
  go_wp2
  exact bodyPost_ret (v := .tuple #[.agg #[.int .i64 k.o, .int .i64 k.l, .int .i64 k.m, .slice A k.ps.length cap, .int .i64 k.base, .int .i64 k.last], .string s]) (by simp [results, Try.results60, go_sem, j0, j1, j2, j3, j4, j5]) rfl HQ.out

set_option maxHeartbeats 4000000 in
set_option maxRecDepth 100000 in
theorem c_DrawRepackStream (A' : Option Addr) (n cap' : Nat) (w : World) (hc : CodeAt w w.heap.size A' n cap') : Calls Try.prog 63 #[.slice A' n cap'] w (AKnownStr w) := by
  have k0 := Blk.new w 32 #[.int .i64 0, .int .i64 0, .int .i64 0, .slice none 0 0, .int .i64 0, .int .i64 0]
  have HCo := hid (codeAt_mono (hc.keep (fun k hk => Below.heap_alloc w (.cells #[.int .i64 0, .int .i64 0, .int .i64 0, .slice none 0 0, .int .i64 0, .int .i64 0] 32) k (by omega))) (show w.heap.size ≤ (w.alloc (.cells #[.int .i64 0, .int .i64 0, .int .i64 0, .slice none 0 0, .int .i64 0, .int .i64 0] 32)).heap.size by simp))
  clear hc
  go_enter Try.func63, Try.ntmps63
  go_wp2_with fail
  refine (c_DrawUnpackCodes _ _ _ _ HCo.out).mono ?_
  rintro e w1 ⟨k, A, cap, s, rfl, hw, hl, hs, ho1, hb1⟩
  have hbd1 : Below w.heap.size w w1 := bel_trans (bel_alloc (Below.refl _ _) _) hb1
  have HX := hid (k0.on hb1)
  have HO := hid (own_mono ho1 (show w.heap.size ≤ (w.alloc (.cells #[.int .i64 0, .int .i64 0, .int .i64 0, .slice none 0 0, .int .i64 0, .int .i64 0] 32)).heap.size by simp))
  clear HCo k0 hb1 ho1 
  obtain ⟨r0, r1, r2, r3, r4, r5⟩ := HX.out.cells6
  obtain ⟨f0, f1, f2, f3, f4, f5⟩ := HX.out.free6
  obtain ⟨j0, j1, j2, j3, j4, j5⟩ := (HX.out.put6 (.int .i64 k.o) (.int .i64 k.l) (.int .i64 k.m) (.slice A k.ps.length cap) (.int .i64 k.base) (.int .i64 k.last)).cells6
  have HQ := hid (show AKnownStr w (.returned (.tuple #[.agg #[.int .i64 k.o, .int .i64 k.l, .int .i64 k.m, .slice A k.ps.length cap, .int .i64 k.base, .int .i64 k.last], .string s])) _ from ⟨k, A, cap, s, rfl, hw, hl, hs, own_mono (own_put6 HO.out HX.out tykn_tp (.int .i64 k.o) (.int .i64 k.l) (.int .i64 k.m) (.slice A k.ps.length cap) (.int .i64 k.base) (.int .i64 k.last)) (by omega), by (repeat (first | with_reducible (first | assumption | exact Below.refl _ _ | refine bel_alloc ?_ _ | refine bel_drew ?_ | refine bel_drewN ?_ _ | refine bel_set ?_ (by first | omega | (simp; done) | (simp; omega)) _ | refine bel_trans ?_ (by assumption)) | assumption | refine bel_trans ?_ (by assumption)))⟩)
  clear HO hbd1
  go_wp2
  exact bodyPost_ret (v := .tuple #[.agg #[.int .i64 k.o, .int .i64 k.l, .int .i64 k.m, .slice A k.ps.length cap, .int .i64 k.base, .int .i64 k.last], .string s]) (by simp [results, Try.results63, go_sem, j0, j1, j2, j3, j4, j5]) rfl HQ.out
end Go.Proofs.Ytophlgnmfhoeiaa
