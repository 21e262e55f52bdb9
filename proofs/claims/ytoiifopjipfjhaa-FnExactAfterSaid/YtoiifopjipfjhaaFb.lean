/- Contracts of firstByte, of the library's slices.Clone at pairs, and of ownCopy. No condition but that what is known is valid. -/
import Derived.Test.YtoiifopjipfjhaaWo
import Derived.Lib.SliceRun
namespace Go.Proofs.Ytoiifopjipfjhaa
open Go.ChangeShapes Go.WideShapes Go.ChangeAt Go.RowKit Go.Joins
set_option linter.unusedVariables false

theorem c_Clone (A : Option Addr) (cap L : Nat) (ps : List Pr) (w : World) (h : PsAt w L A cap ps) (hL : L ≤ w.heap.size) (hn : ps.length ≤ 1048576) : Calls Try.prog 173 #[.slice A ps.length cap] w fun e w' => ∃ v, e = .returned v ∧ w'.ownsRow w.heap.size 41 2 v ps.length (prs ps) ∧ Below w.heap.size w w' := by
  have q22 : ∀ (w : World) (a : Option Addr) (n c n' c' : Nat), (binOp .eql 26 (.slice a n c) (.slice none n' c')).run Try.prog w = .ok (.bool a.isNone) w := fun w a n c n' c' => Go.Lib.run_eql_slice_nil w _ _ a n c n' c' Try.underlying26
  have HH := hid h
  cases A with
  | none =>
    have hc := h.2.2.1 rfl
    have h0 : ps = [] := List.length_eq_zero_iff.1 (by have := h.1; omega)
    subst hc h0
    clear h
    go_enter Try.func173, Try.ntmps173
    go_wp2
    go_ret
    exact ⟨_, rfl, World.ownsRow_nil _ _ _ _, by (repeat (first | with_reducible assumption | with_reducible exact Below.refl _ _ | with_reducible refine bel_alloc ?_ _ | with_reducible refine bel_drew ?_ | with_reducible refine bel_drewN ?_ _ | with_reducible refine bel_set ?_ (by first | omega | (simp; done) | (simp; omega)) _ | with_reducible refine bel_trans ?_ (by with_reducible assumption) | exact Below.refl _ _ | assumption | refine bel_alloc ?_ _ | refine bel_drew ?_ | refine bel_drewN ?_ _ | refine bel_set ?_ (by first | omega | (simp; done) | (simp; omega)) _ | refine bel_trans ?_ (by assumption)))⟩
  | some a =>
    clear h
    go_enter Try.func173, Try.ntmps173
    go_wp2_with (at_builtin; refine app_pairs rfl _ _ 26 rfl w.heap.size 41 Try.underlying26 Try.info_pair _ 0 [] rfl (World.ownsRow_made w #[] 0 (Nat.le_refl _) (Nat.zero_le _) rfl) (some a) cap L ps.length ps (HH.out.alloc hL _) rfl rfl (by omega) (by simp) ?_; intro v1 w1 hown1 hb1 hg1)
    go_ret
    exact ⟨_, rfl, by simpa using hown1, Below.trans (by (repeat (first | with_reducible assumption | with_reducible exact Below.refl _ _ | with_reducible refine bel_alloc ?_ _ | with_reducible refine bel_drew ?_ | with_reducible refine bel_drewN ?_ _ | with_reducible refine bel_set ?_ (by first | omega | (simp; done) | (simp; omega)) _ | with_reducible refine bel_trans ?_ (by with_reducible assumption) | exact Below.refl _ _ | assumption | refine bel_alloc ?_ _ | refine bel_drew ?_ | refine bel_drewN ?_ _ | refine bel_set ?_ (by first | omega | (simp; done) | (simp; omega)) _ | refine bel_trans ?_ (by assumption)))) hb1⟩

theorem c_ownCopy (k : Kn) (A : Option Addr) (cap L : Nat) (w : World) (h : PsAt w L A cap k.ps) (hL : L ≤ w.heap.size) (hn : k.ps.length ≤ 1048576) : Calls Try.prog 110 #[.agg #[.int .i64 k.o, .int .i64 k.l, .int .i64 k.m, .slice A k.ps.length cap, .int .i64 k.base, .int .i64 k.last]] w fun e w' => ∃ A' cap', e = .returned (.agg #[.int .i64 k.o, .int .i64 k.l, .int .i64 k.m, .slice A' k.ps.length cap', .int .i64 k.base, .int .i64 k.last]) ∧ w'.ownsRow w.heap.size 41 2 (.slice A' k.ps.length cap') k.ps.length (prs k.ps) ∧ Below w.heap.size w w' := by
  have HH := hid h
  clear h
  have hs2 : ∀ (o1 o2 : Obj), ((w.alloc o1).alloc o2).heap.size = w.heap.size + 2 := fun o1 o2 => by simp
  go_enter Try.func110, Try.ntmps110
  go_wp2_with fail
  refine (c_Clone A cap L k.ps _ ((HH.out.alloc hL _).alloc (by simp; omega) _) (by simp; omega) hn).mono ?_
  rintro e w1 ⟨v1, rfl, hown1, hb1⟩
  obtain ⟨A1, c1, hv1, hps1, _, _⟩ := own_ps hown1
  subst hv1
  rw [hs2] at hown1
  have kN := ((Blk.new w 28 #[.int .i64 k.o, .int .i64 k.l, .int .i64 k.m, .slice A k.ps.length cap, .int .i64 k.base, .int .i64 k.last]).alloc _).on hb1
  have kR := (Blk.top w _ _ _).on hb1
  have hB1 : Below w.heap.size w w1 := by (repeat (first | with_reducible assumption | with_reducible exact Below.refl _ _ | with_reducible refine bel_alloc ?_ _ | with_reducible refine bel_drew ?_ | with_reducible refine bel_drewN ?_ _ | with_reducible refine bel_set ?_ (by first | omega | (simp; done) | (simp; omega)) _ | with_reducible refine bel_trans ?_ (by with_reducible assumption) | exact Below.refl _ _ | assumption | refine bel_alloc ?_ _ | refine bel_drew ?_ | refine bel_drewN ?_ _ | refine bel_set ?_ (by first | omega | (simp; done) | (simp; omega)) _ | refine bel_trans ?_ (by assumption)))
  clear hb1
  obtain ⟨p0, p1, p2, p3, p4, p5⟩ := kN.cells6
  obtain ⟨u0, u1, u2, u3, u4, u5⟩ := kN.free6
  obtain ⟨t0, t1, t2, t3, t4, t5⟩ := kR.cells6
  obtain ⟨v0, v1, v2, v3, v4, v5⟩ := kR.free6
  obtain ⟨j0, j1, j2, j3, j4, j5⟩ := ((kR.far (R := w.heap.size) 3 (.slice A1 k.ps.length c1) (by omega)).put6 (.int .i64 k.o) (.int .i64 k.l) (.int .i64 k.m) (.slice A1 k.ps.length c1) (.int .i64 k.base) (.int .i64 k.last)).cells6
  clear kN kR
  go_wp2
  refine bodyPost_ret (v := .agg #[.int .i64 k.o, .int .i64 k.l, .int .i64 k.m, .slice A1 k.ps.length c1, .int .i64 k.base, .int .i64 k.last]) (by simp [results, Try.results110, go_sem, j0, j1, j2, j3, j4, j5]) rfl ⟨A1, c1, rfl, ?_, by (repeat (first | with_reducible assumption | with_reducible exact Below.refl _ _ | with_reducible refine bel_alloc ?_ _ | with_reducible refine bel_drew ?_ | with_reducible refine bel_drewN ?_ _ | with_reducible refine bel_set ?_ (by first | omega | (simp; done) | (simp; omega)) _ | with_reducible refine bel_trans ?_ (by with_reducible assumption) | exact Below.refl _ _ | assumption | refine bel_alloc ?_ _ | refine bel_drew ?_ | refine bel_drewN ?_ _ | refine bel_set ?_ (by first | omega | (simp; done) | (simp; omega)) _ | refine bel_trans ?_ (by assumption)))⟩
  refine own_mono (B := w.heap.size + 2) ?_ (by omega)
  repeat refine ownsRow_setCell_below ?_ (by simp <;> omega) _
  exact hown1

theorem c_firstByte_has (b : Nat) (k : Kn) (A : Option Addr) (cap L : Nat) (w : World) (h : k.Ok) (hk : KAt w b k (.slice A k.ps.length cap)) (hps : PsAt w L A cap k.ps) (hL : L ≤ w.heap.size) (F code : Int) (next : Bool)
    (hc : next = true → code = k.next ∧ k.grows = true ∧ F = fstN k.c k.ps k.last) (hc2 : next = false → HasW (pow2 k.l) code k.ps.length ∧ F = fstN k.c k.ps code) :
    Calls Try.prog 174 #[.pointer (some ⟨b, 0, none⟩), .int .i64 code] w fun e w' => e = .returned (.int .i64 F) ∧ Below w.heap.size w w' := by
  have hp := set_bd h.set
  have hlen := h.len
  have hb := hk.1
  have HK := hid hk
  have HP := hid hps
  have HOk := hid h
  have HN := hid (fun (v : World) (hv : KAt v b k (.slice A k.ps.length cap)) => c_nextWord b k A cap v h hv)
  have HF := hid (fun (v : World) (hv : KAt v b k (.slice A k.ps.length cap)) => c_firstWord b k A cap v h hv)
  have hne : (code == k.next) = next := by
    cases next with
    | true => simp [(hc rfl).1]
    | false => exact has_ne (hc2 rfl).1
  have HA := hid (show HasW (pow2 k.l) (if next then k.last else code) k.ps.length ∧ F = fstN k.c k.ps (if next then k.last else code) by
    cases next with
    | true => exact ⟨h.lastW (hc rfl).2.1, (hc rfl).2.2⟩
    | false => exact hc2 rfl)
  clear hk hps h hc hc2
  have key : ∀ (w1 : World) (hb1 : Below w.heap.size w w1), True := fun _ _ => trivial
  cases next with
  | true =>
    go_enter Try.func174, Try.ntmps174
    go_wp2_with fail
    refine (HN.out _ HK.out).mono ?_
    rintro e w1 ⟨rfl, hb1⟩
    obtain ⟨q0, q1, q2, q3, q4, q5, q6⟩ := HK.out.on hb1 hb
    go_wp2_with fail
    clear q1 q2 q3 q4 q5 q6
    go_loopw [1] (fun i wr => ∃ cd : Int, i = .int .i64 cd ∧ Hid (HasW (pow2 k.l) cd k.ps.length ∧ F = fstN k.c k.ps cd) ∧ Below w.heap.size w wr) (fun i _ => (intOf i).toNat)
    case atStart => exact ⟨_, rfl, HA, by (repeat (first | with_reducible assumption | with_reducible exact Below.refl _ _ | with_reducible refine bel_alloc ?_ _ | with_reducible refine bel_drew ?_ | with_reducible refine bel_drewN ?_ _ | with_reducible refine bel_set ?_ (by first | omega | (simp; done) | (simp; omega)) _ | with_reducible refine bel_trans ?_ (by with_reducible assumption) | exact Below.refl _ _ | assumption | refine bel_alloc ?_ _ | refine bel_drew ?_ | refine bel_drewN ?_ _ | refine bel_set ?_ (by first | omega | (simp; done) | (simp; omega)) _ | refine bel_trans ?_ (by assumption)))⟩
    case round =>
      obtain ⟨cd, rfl, HH, hbl⟩ := hrel
      have hk2 := HK.out.on hbl hb
      by_cases hlt : pow2 k.l + 2 ≤ cd
      · obtain ⟨i, hi⟩ : ∃ i : Nat, cd = pow2 k.l + 2 + i := ⟨(cd - pow2 k.l - 2).toNat, by omega⟩
        subst hi
        have hil : i < k.ps.length := by have := HH.out.1; unfold HasW at this; omega
        obtain ⟨d, off, rfl, hd, hd0, hd1⟩ := pair_at (HP.out.below hbl hL) i hil
        have HG := hid (List.getElem?_eq_getElem hil)
        obtain ⟨p, hp2⟩ : ∃ p, p = k.ps[i] := ⟨_, rfl⟩
        rw [← hp2] at hd0 hd1 HG
        clear hp2
        have hpk := HOk.out.pairs i p HG.out
        have HX := hid (show HasW (pow2 k.l) p.1 k.ps.length ∧ F = fstN k.c k.ps p.1 from ⟨hpk.1.mono (by omega), HH.out.2.trans (fstN_pair _ _ HOk.out.pairs i p HG.out)⟩)
        obtain ⟨x, y⟩ := p
        simp only at hd0 hd1 hpk HX
        have hxlt : x < pow2 k.l + 2 + i ∧ 0 ≤ x := by have := hpk.1; unfold HasW at this; unfold Kn.c at this; omega
        have ew : IntKind.i64.wrap (pow2 k.l + 2 + (i : Int) - (pow2 k.l + 2)) = (i : Int) := (IntWalk.i64_in _ (by omega)).trans (by omega)
        clear hpk
        obtain ⟨q0, q1, q2, q3, q4, q5, q6⟩ := hk2
        have HS := hid (And.intro q1 (And.intro q2 (And.intro q3 (And.intro q4 (And.intro q5 (And.intro q6 (And.intro hd0 (And.intro hd1 (Below.refl wr.heap.size wr)))))))))
        clear q1 q2 q3 q4 q5 q6 hd0 hd1
        go_wp2_with fail
        refine (HF.out _ (HK.out.on hbl hb)).mono ?_
        rintro e w2 ⟨rfl, hb2⟩
        go_wp2_with fail
        have hS := s8_bel hb2 HS.out
        refine wp_region_noPanic ?_
        refine wp_region_held_drew (S := (fun v => v.cell? ⟨b, 0, none⟩ = some (.int .i64 k.o) ∧ v.cell? ⟨b, 1, none⟩ = some (.int .i64 k.l) ∧ v.cell? ⟨b, 2, none⟩ = some (.int .i64 k.m) ∧ v.cell? ⟨b, 3, none⟩ = some (.slice (some ⟨d, off, none⟩) k.ps.length cap) ∧ v.cell? ⟨b, 4, none⟩ = some (.int .i64 k.base) ∧ v.cell? ⟨b, 5, none⟩ = some (.int .i64 k.last) ∧ v.cell? ⟨d, off + i * 2, none⟩ = some (.int .i64 x) ∧ v.cell? ⟨d, off + i * 2 + 1, none⟩ = some (.int .i64 y) ∧ Below wr.heap.size wr v)) (by kernel_rfl) (s8_drew hS) (fun hHeld => ?_)
        refine wpAnyH_take (i := 0) (oi := ?or28_0) (v := ?vr28_0) ?ir28_0 (by kernel_rfl) (by kernel_rfl) (by kernel_rfl) (fun _ _ _ h => h) ?yr28_0 (by assumption) ?wr28_0
        case ir28_0 => (simp only [List.getElem?_toArray, List.getElem?_cons_zero]; rfl)
        case yr28_0 => exact Or.inl ⟨by rfl, by intro v hSw; (try dsimp only at hSw); go_simp; try with_reducible rfl⟩
        try simp only [Act.put, List.setIfInBounds_toArray, List.set_cons_zero, List.set_cons_succ]
        refine wpAnyH_take (i := 1) (oi := ?or28_1) (v := ?vr28_1) ?ir28_1 (by kernel_rfl) (by kernel_rfl) (by kernel_rfl) (fun _ _ _ h => h) ?yr28_1 (by assumption) ?wr28_1
        case ir28_1 => (simp only [List.getElem?_toArray, List.getElem?_cons_succ, List.getElem?_cons_zero]; rfl)
        case yr28_1 => exact Or.inl ⟨by rfl, by intro v hSw; (try dsimp only at hSw); go_simp; try with_reducible rfl⟩
        try simp only [Act.put, List.setIfInBounds_toArray, List.set_cons_zero, List.set_cons_succ]
        refine wpAnyH_take (i := 2) (oi := ?or28_2) (v := ?vr28_2) ?ir28_2 (by kernel_rfl) (by kernel_rfl) (by kernel_rfl) (fun _ _ _ h => h) ?yr28_2 (by assumption) ?wr28_2
        case ir28_2 => (simp only [List.getElem?_toArray, List.getElem?_cons_succ, List.getElem?_cons_zero]; rfl)
        case yr28_2 => exact Or.inl ⟨by rfl, by intro v hSw; (try dsimp only at hSw); go_simp; try with_reducible rfl⟩
        try simp only [Act.put, List.setIfInBounds_toArray, List.set_cons_zero, List.set_cons_succ]
        refine wpAnyH_take (i := 3) (oi := ?or28_3) (v := ?vr28_3) ?ir28_3 (by kernel_rfl) (by kernel_rfl) (by kernel_rfl) (fun _ _ _ h => h) ?yr28_3 (by assumption) ?wr28_3
        case ir28_3 => (simp only [List.getElem?_toArray, List.getElem?_cons_succ, List.getElem?_cons_zero]; rfl)
        case yr28_3 => exact Or.inl ⟨by rfl, by intro v hSw; (try dsimp only at hSw); go_simp; try with_reducible rfl⟩
        try simp only [Act.put, List.setIfInBounds_toArray, List.set_cons_zero, List.set_cons_succ]
        refine wpAnyH_take (i := 4) (oi := ?or28_4) (v := ?vr28_4) ?ir28_4 (by kernel_rfl) (by kernel_rfl) (by kernel_rfl) (fun _ _ _ h => h) ?yr28_4 (by assumption) ?wr28_4
        case ir28_4 => (simp only [List.getElem?_toArray, List.getElem?_cons_succ, List.getElem?_cons_zero]; rfl)
        case yr28_4 => exact Or.inl ⟨by rfl, by intro v hSw; (try dsimp only at hSw); go_simp; try with_reducible rfl⟩
        try simp only [Act.put, List.setIfInBounds_toArray, List.set_cons_zero, List.set_cons_succ]
        refine wpAnyH_take (i := 5) (oi := ?or28_5) (v := ?vr28_5) ?ir28_5 (by kernel_rfl) (by kernel_rfl) (by kernel_rfl) (fun _ _ _ h => h) ?yr28_5 (by assumption) ?wr28_5
        case ir28_5 => (simp only [List.getElem?_toArray, List.getElem?_cons_succ, List.getElem?_cons_zero]; rfl)
        case yr28_5 => exact Or.inl ⟨by rfl, by intro v hSw; (try dsimp only at hSw); go_simp; try with_reducible rfl⟩
        try simp only [Act.put, List.setIfInBounds_toArray, List.set_cons_zero, List.set_cons_succ]
        refine wpAnyH_ready (rs := [6]) (by kernel_rfl) (by simp) ?_
        refine AllReadyH.cons (o := ?or28_6) ?ir28_6 (fun K hK => ?sr28_6) AllReadyH.nil
        case ir28_6 => (simp only [List.getElem?_toArray, List.getElem?_cons_succ, List.getElem?_cons_zero]; rfl)
        (first | (go_simp; (first | (go_at_call 170; refine (HF.out _ (HK.out.on (B := w.heap.size) (bel_trans hbl hHeld.2.2.2.2.2.2.2.2) hb)).mono ?_; rintro e w3 ⟨rfl, hb3⟩) | skip)))
        refine hK.out _ _ ?kr28_6 (fun hHeld => ?_)
        case kr28_6 => (try dsimp only); (first | with_reducible assumption | exact s8_bel (by assumption) (by assumption) | assumption | exact s8_alloc (by assumption) _)
        clear hK K
        try simp only [Act.put, List.setIfInBounds_toArray, List.set_cons_zero, List.set_cons_succ]
        refine wpAnyH_take (i := 7) (oi := ?or28_7) (v := ?vr28_7) ?ir28_7 (by kernel_rfl) (by kernel_rfl) (by kernel_rfl) (fun _ _ _ h => h) ?yr28_7 (by assumption) ?wr28_7
        case ir28_7 => (simp only [List.getElem?_toArray, List.getElem?_cons_succ, List.getElem?_cons_zero]; rfl)
        case yr28_7 => exact Or.inl ⟨by rfl, by intro v hSw; (try dsimp only at hSw); go_simp; try with_reducible rfl⟩
        try simp only [Act.put, List.setIfInBounds_toArray, List.set_cons_zero, List.set_cons_succ]
        refine wpAnyH_take (i := 8) (oi := ?or28_8) (v := ?vr28_8) ?ir28_8 (by kernel_rfl) (by kernel_rfl) (by kernel_rfl) (fun _ _ _ h => h) ?yr28_8 (by assumption) ?wr28_8
        case ir28_8 => (simp only [List.getElem?_toArray, List.getElem?_cons_succ, List.getElem?_cons_zero]; rfl)
        case yr28_8 => exact Or.inl ⟨by rfl, by intro v hSw; (try dsimp only at hSw); go_simp; try with_reducible rfl⟩
        try simp only [Act.put, List.setIfInBounds_toArray, List.set_cons_zero, List.set_cons_succ]
        refine wpAnyH_take (i := 9) (oi := ?or28_9) (v := ?vr28_9) ?ir28_9 (by kernel_rfl) (by kernel_rfl) (by kernel_rfl) (fun _ _ _ h => h) ?yr28_9 (by assumption) ?wr28_9
        case ir28_9 => (simp only [List.getElem?_toArray, List.getElem?_cons_succ, List.getElem?_cons_zero]; rfl)
        case yr28_9 => exact Or.inl ⟨by rfl, by intro v hSw; (try dsimp only at hSw); go_simp; try with_reducible rfl⟩
        try simp only [Act.put, List.setIfInBounds_toArray, List.set_cons_zero, List.set_cons_succ]
        refine wpAnyH_take (i := 10) (oi := ?or28_10) (v := ?vr28_10) ?ir28_10 (by kernel_rfl) (by kernel_rfl) (by kernel_rfl) (fun _ _ _ h => h) ?yr28_10 (by assumption) ?wr28_10
        case ir28_10 => (simp only [List.getElem?_toArray, List.getElem?_cons_succ, List.getElem?_cons_zero]; rfl)
        case yr28_10 => exact Or.inl ⟨by rfl, by intro v hSw; (try dsimp only at hSw); go_simp; try with_reducible rfl⟩
        try simp only [Act.put, List.setIfInBounds_toArray, List.set_cons_zero, List.set_cons_succ]
        refine wpAnyH_take (i := 11) (oi := ?or28_11) (v := ?vr28_11) ?ir28_11 (by kernel_rfl) (by kernel_rfl) (by kernel_rfl) (fun _ _ _ h => h) ?yr28_11 (by assumption) ?wr28_11
        case ir28_11 => (simp only [List.getElem?_toArray, List.getElem?_cons_succ, List.getElem?_cons_zero]; rfl)
        case yr28_11 => exact Or.inl ⟨by rfl, by intro v hSw; (try dsimp only at hSw); go_simp; try with_reducible rfl⟩
        try simp only [Act.put, List.setIfInBounds_toArray, List.set_cons_zero, List.set_cons_succ]
        refine wpAnyH_done (by kernel_rfl) ?_ _
        refine NoPanic.normal ?_
        all_goals
          clear hS hHeld
          go_wp2
          go_roundw
          case rel => exact ⟨x, rfl, HX, by (repeat (first | with_reducible assumption | with_reducible exact Below.refl _ _ | with_reducible refine bel_alloc ?_ _ | with_reducible refine bel_drew ?_ | with_reducible refine bel_drewN ?_ _ | with_reducible refine bel_set ?_ (by first | omega | (simp; done) | (simp; omega)) _ | with_reducible refine bel_trans ?_ (by with_reducible assumption) | exact Below.refl _ _ | assumption | refine bel_alloc ?_ _ | refine bel_drew ?_ | refine bel_drewN ?_ _ | refine bel_set ?_ (by first | omega | (simp; done) | (simp; omega)) _ | refine bel_trans ?_ (by assumption)))⟩
          case measure => simp [intOf]; omega
      · have hcd : 0 ≤ cd ∧ cd < pow2 k.l := by have := HH.out.1; unfold HasW at this; omega
        have HR := hid (show F = cd from HH.out.2.trans (fstN_lit _ _ (by unfold Kn.c; omega) cd hcd.1 hcd.2))
        obtain ⟨q0, q1, q2, q3, q4, q5, q6⟩ := hk2
        go_wp2_with fail
        clear q1 q2 q3 q4 q5 q6
        refine (HF.out _ (HK.out.on hbl hb)).mono ?_
        rintro e w2 ⟨rfl, hb2⟩
        go_wp2
        go_ret
        exact ⟨ret_int HR.out.symm, by (repeat (first | with_reducible assumption | with_reducible exact Below.refl _ _ | with_reducible refine bel_alloc ?_ _ | with_reducible refine bel_drew ?_ | with_reducible refine bel_drewN ?_ _ | with_reducible refine bel_set ?_ (by first | omega | (simp; done) | (simp; omega)) _ | with_reducible refine bel_trans ?_ (by with_reducible assumption) | exact Below.refl _ _ | assumption | refine bel_alloc ?_ _ | refine bel_drew ?_ | refine bel_drewN ?_ _ | refine bel_set ?_ (by first | omega | (simp; done) | (simp; omega)) _ | refine bel_trans ?_ (by assumption)))⟩
  | false =>
    go_enter Try.func174, Try.ntmps174
    go_wp2_with fail
    refine (HN.out _ HK.out).mono ?_
    rintro e w1 ⟨rfl, hb1⟩
    go_wp2_with fail
    go_loopw [1] (fun i wr => ∃ cd : Int, i = .int .i64 cd ∧ Hid (HasW (pow2 k.l) cd k.ps.length ∧ F = fstN k.c k.ps cd) ∧ Below w.heap.size w wr) (fun i _ => (intOf i).toNat)
    case atStart => exact ⟨_, rfl, HA, by (repeat (first | with_reducible assumption | with_reducible exact Below.refl _ _ | with_reducible refine bel_alloc ?_ _ | with_reducible refine bel_drew ?_ | with_reducible refine bel_drewN ?_ _ | with_reducible refine bel_set ?_ (by first | omega | (simp; done) | (simp; omega)) _ | with_reducible refine bel_trans ?_ (by with_reducible assumption) | exact Below.refl _ _ | assumption | refine bel_alloc ?_ _ | refine bel_drew ?_ | refine bel_drewN ?_ _ | refine bel_set ?_ (by first | omega | (simp; done) | (simp; omega)) _ | refine bel_trans ?_ (by assumption)))⟩
    case round =>
      obtain ⟨cd, rfl, HH, hbl⟩ := hrel
      have hk2 := HK.out.on hbl hb
      by_cases hlt : pow2 k.l + 2 ≤ cd
      · obtain ⟨i, hi⟩ : ∃ i : Nat, cd = pow2 k.l + 2 + i := ⟨(cd - pow2 k.l - 2).toNat, by omega⟩
        subst hi
        have hil : i < k.ps.length := by have := HH.out.1; unfold HasW at this; omega
        obtain ⟨d, off, rfl, hd, hd0, hd1⟩ := pair_at (HP.out.below hbl hL) i hil
        have HG := hid (List.getElem?_eq_getElem hil)
        obtain ⟨p, hp2⟩ : ∃ p, p = k.ps[i] := ⟨_, rfl⟩
        rw [← hp2] at hd0 hd1 HG
        clear hp2
        have hpk := HOk.out.pairs i p HG.out
        have HX := hid (show HasW (pow2 k.l) p.1 k.ps.length ∧ F = fstN k.c k.ps p.1 from ⟨hpk.1.mono (by omega), HH.out.2.trans (fstN_pair _ _ HOk.out.pairs i p HG.out)⟩)
        obtain ⟨x, y⟩ := p
        simp only at hd0 hd1 hpk HX
        have hxlt : x < pow2 k.l + 2 + i ∧ 0 ≤ x := by have := hpk.1; unfold HasW at this; unfold Kn.c at this; omega
        have ew : IntKind.i64.wrap (pow2 k.l + 2 + (i : Int) - (pow2 k.l + 2)) = (i : Int) := (IntWalk.i64_in _ (by omega)).trans (by omega)
        clear hpk
        obtain ⟨q0, q1, q2, q3, q4, q5, q6⟩ := hk2
        have HS := hid (And.intro q1 (And.intro q2 (And.intro q3 (And.intro q4 (And.intro q5 (And.intro q6 (And.intro hd0 (And.intro hd1 (Below.refl wr.heap.size wr)))))))))
        clear q1 q2 q3 q4 q5 q6 hd0 hd1
        go_wp2_with fail
        refine (HF.out _ (HK.out.on hbl hb)).mono ?_
        rintro e w2 ⟨rfl, hb2⟩
        go_wp2_with fail
        have hS := s8_bel hb2 HS.out
        refine wp_region_noPanic ?_
        refine wp_region_held_drew (S := (fun v => v.cell? ⟨b, 0, none⟩ = some (.int .i64 k.o) ∧ v.cell? ⟨b, 1, none⟩ = some (.int .i64 k.l) ∧ v.cell? ⟨b, 2, none⟩ = some (.int .i64 k.m) ∧ v.cell? ⟨b, 3, none⟩ = some (.slice (some ⟨d, off, none⟩) k.ps.length cap) ∧ v.cell? ⟨b, 4, none⟩ = some (.int .i64 k.base) ∧ v.cell? ⟨b, 5, none⟩ = some (.int .i64 k.last) ∧ v.cell? ⟨d, off + i * 2, none⟩ = some (.int .i64 x) ∧ v.cell? ⟨d, off + i * 2 + 1, none⟩ = some (.int .i64 y) ∧ Below wr.heap.size wr v)) (by kernel_rfl) (s8_drew hS) (fun hHeld => ?_)
        refine wpAnyH_take (i := 0) (oi := ?or29_0) (v := ?vr29_0) ?ir29_0 (by kernel_rfl) (by kernel_rfl) (by kernel_rfl) (fun _ _ _ h => h) ?yr29_0 (by assumption) ?wr29_0
        case ir29_0 => (simp only [List.getElem?_toArray, List.getElem?_cons_zero]; rfl)
        case yr29_0 => exact Or.inl ⟨by rfl, by intro v hSw; (try dsimp only at hSw); go_simp; try with_reducible rfl⟩
        try simp only [Act.put, List.setIfInBounds_toArray, List.set_cons_zero, List.set_cons_succ]
        refine wpAnyH_take (i := 1) (oi := ?or29_1) (v := ?vr29_1) ?ir29_1 (by kernel_rfl) (by kernel_rfl) (by kernel_rfl) (fun _ _ _ h => h) ?yr29_1 (by assumption) ?wr29_1
        case ir29_1 => (simp only [List.getElem?_toArray, List.getElem?_cons_succ, List.getElem?_cons_zero]; rfl)
        case yr29_1 => exact Or.inl ⟨by rfl, by intro v hSw; (try dsimp only at hSw); go_simp; try with_reducible rfl⟩
        try simp only [Act.put, List.setIfInBounds_toArray, List.set_cons_zero, List.set_cons_succ]
        refine wpAnyH_take (i := 2) (oi := ?or29_2) (v := ?vr29_2) ?ir29_2 (by kernel_rfl) (by kernel_rfl) (by kernel_rfl) (fun _ _ _ h => h) ?yr29_2 (by assumption) ?wr29_2
        case ir29_2 => (simp only [List.getElem?_toArray, List.getElem?_cons_succ, List.getElem?_cons_zero]; rfl)
        case yr29_2 => exact Or.inl ⟨by rfl, by intro v hSw; (try dsimp only at hSw); go_simp; try with_reducible rfl⟩
        try simp only [Act.put, List.setIfInBounds_toArray, List.set_cons_zero, List.set_cons_succ]
        refine wpAnyH_take (i := 3) (oi := ?or29_3) (v := ?vr29_3) ?ir29_3 (by kernel_rfl) (by kernel_rfl) (by kernel_rfl) (fun _ _ _ h => h) ?yr29_3 (by assumption) ?wr29_3
        case ir29_3 => (simp only [List.getElem?_toArray, List.getElem?_cons_succ, List.getElem?_cons_zero]; rfl)
        case yr29_3 => exact Or.inl ⟨by rfl, by intro v hSw; (try dsimp only at hSw); go_simp; try with_reducible rfl⟩
        try simp only [Act.put, List.setIfInBounds_toArray, List.set_cons_zero, List.set_cons_succ]
        refine wpAnyH_take (i := 4) (oi := ?or29_4) (v := ?vr29_4) ?ir29_4 (by kernel_rfl) (by kernel_rfl) (by kernel_rfl) (fun _ _ _ h => h) ?yr29_4 (by assumption) ?wr29_4
        case ir29_4 => (simp only [List.getElem?_toArray, List.getElem?_cons_succ, List.getElem?_cons_zero]; rfl)
        case yr29_4 => exact Or.inl ⟨by rfl, by intro v hSw; (try dsimp only at hSw); go_simp; try with_reducible rfl⟩
        try simp only [Act.put, List.setIfInBounds_toArray, List.set_cons_zero, List.set_cons_succ]
        refine wpAnyH_take (i := 5) (oi := ?or29_5) (v := ?vr29_5) ?ir29_5 (by kernel_rfl) (by kernel_rfl) (by kernel_rfl) (fun _ _ _ h => h) ?yr29_5 (by assumption) ?wr29_5
        case ir29_5 => (simp only [List.getElem?_toArray, List.getElem?_cons_succ, List.getElem?_cons_zero]; rfl)
        case yr29_5 => exact Or.inl ⟨by rfl, by intro v hSw; (try dsimp only at hSw); go_simp; try with_reducible rfl⟩
        try simp only [Act.put, List.setIfInBounds_toArray, List.set_cons_zero, List.set_cons_succ]
        refine wpAnyH_ready (rs := [6]) (by kernel_rfl) (by simp) ?_
        refine AllReadyH.cons (o := ?or29_6) ?ir29_6 (fun K hK => ?sr29_6) AllReadyH.nil
        case ir29_6 => (simp only [List.getElem?_toArray, List.getElem?_cons_succ, List.getElem?_cons_zero]; rfl)
        (first | (go_simp; (first | (go_at_call 170; refine (HF.out _ (HK.out.on (B := w.heap.size) (bel_trans hbl hHeld.2.2.2.2.2.2.2.2) hb)).mono ?_; rintro e w3 ⟨rfl, hb3⟩) | skip)))
        refine hK.out _ _ ?kr29_6 (fun hHeld => ?_)
        case kr29_6 => (try dsimp only); (first | with_reducible assumption | exact s8_bel (by assumption) (by assumption) | assumption | exact s8_alloc (by assumption) _)
        clear hK K
        try simp only [Act.put, List.setIfInBounds_toArray, List.set_cons_zero, List.set_cons_succ]
        refine wpAnyH_take (i := 7) (oi := ?or29_7) (v := ?vr29_7) ?ir29_7 (by kernel_rfl) (by kernel_rfl) (by kernel_rfl) (fun _ _ _ h => h) ?yr29_7 (by assumption) ?wr29_7
        case ir29_7 => (simp only [List.getElem?_toArray, List.getElem?_cons_succ, List.getElem?_cons_zero]; rfl)
        case yr29_7 => exact Or.inl ⟨by rfl, by intro v hSw; (try dsimp only at hSw); go_simp; try with_reducible rfl⟩
        try simp only [Act.put, List.setIfInBounds_toArray, List.set_cons_zero, List.set_cons_succ]
        refine wpAnyH_take (i := 8) (oi := ?or29_8) (v := ?vr29_8) ?ir29_8 (by kernel_rfl) (by kernel_rfl) (by kernel_rfl) (fun _ _ _ h => h) ?yr29_8 (by assumption) ?wr29_8
        case ir29_8 => (simp only [List.getElem?_toArray, List.getElem?_cons_succ, List.getElem?_cons_zero]; rfl)
        case yr29_8 => exact Or.inl ⟨by rfl, by intro v hSw; (try dsimp only at hSw); go_simp; try with_reducible rfl⟩
        try simp only [Act.put, List.setIfInBounds_toArray, List.set_cons_zero, List.set_cons_succ]
        refine wpAnyH_take (i := 9) (oi := ?or29_9) (v := ?vr29_9) ?ir29_9 (by kernel_rfl) (by kernel_rfl) (by kernel_rfl) (fun _ _ _ h => h) ?yr29_9 (by assumption) ?wr29_9
        case ir29_9 => (simp only [List.getElem?_toArray, List.getElem?_cons_succ, List.getElem?_cons_zero]; rfl)
        case yr29_9 => exact Or.inl ⟨by rfl, by intro v hSw; (try dsimp only at hSw); go_simp; try with_reducible rfl⟩
        try simp only [Act.put, List.setIfInBounds_toArray, List.set_cons_zero, List.set_cons_succ]
        refine wpAnyH_take (i := 10) (oi := ?or29_10) (v := ?vr29_10) ?ir29_10 (by kernel_rfl) (by kernel_rfl) (by kernel_rfl) (fun _ _ _ h => h) ?yr29_10 (by assumption) ?wr29_10
        case ir29_10 => (simp only [List.getElem?_toArray, List.getElem?_cons_succ, List.getElem?_cons_zero]; rfl)
        case yr29_10 => exact Or.inl ⟨by rfl, by intro v hSw; (try dsimp only at hSw); go_simp; try with_reducible rfl⟩
        try simp only [Act.put, List.setIfInBounds_toArray, List.set_cons_zero, List.set_cons_succ]
        refine wpAnyH_take (i := 11) (oi := ?or29_11) (v := ?vr29_11) ?ir29_11 (by kernel_rfl) (by kernel_rfl) (by kernel_rfl) (fun _ _ _ h => h) ?yr29_11 (by assumption) ?wr29_11
        case ir29_11 => (simp only [List.getElem?_toArray, List.getElem?_cons_succ, List.getElem?_cons_zero]; rfl)
        case yr29_11 => exact Or.inl ⟨by rfl, by intro v hSw; (try dsimp only at hSw); go_simp; try with_reducible rfl⟩
        try simp only [Act.put, List.setIfInBounds_toArray, List.set_cons_zero, List.set_cons_succ]
        refine wpAnyH_done (by kernel_rfl) ?_ _
        refine NoPanic.normal ?_
        all_goals
          clear hS hHeld
          go_wp2
          go_roundw
          case rel => exact ⟨x, rfl, HX, by (repeat (first | with_reducible assumption | with_reducible exact Below.refl _ _ | with_reducible refine bel_alloc ?_ _ | with_reducible refine bel_drew ?_ | with_reducible refine bel_drewN ?_ _ | with_reducible refine bel_set ?_ (by first | omega | (simp; done) | (simp; omega)) _ | with_reducible refine bel_trans ?_ (by with_reducible assumption) | exact Below.refl _ _ | assumption | refine bel_alloc ?_ _ | refine bel_drew ?_ | refine bel_drewN ?_ _ | refine bel_set ?_ (by first | omega | (simp; done) | (simp; omega)) _ | refine bel_trans ?_ (by assumption)))⟩
          case measure => simp [intOf]; omega
      · have hcd : 0 ≤ cd ∧ cd < pow2 k.l := by have := HH.out.1; unfold HasW at this; omega
        have HR := hid (show F = cd from HH.out.2.trans (fstN_lit _ _ (by unfold Kn.c; omega) cd hcd.1 hcd.2))
        obtain ⟨q0, q1, q2, q3, q4, q5, q6⟩ := hk2
        go_wp2_with fail
        clear q1 q2 q3 q4 q5 q6
        refine (HF.out _ (HK.out.on hbl hb)).mono ?_
        rintro e w2 ⟨rfl, hb2⟩
        go_wp2
        go_ret
        exact ⟨ret_int HR.out.symm, by (repeat (first | with_reducible assumption | with_reducible exact Below.refl _ _ | with_reducible refine bel_alloc ?_ _ | with_reducible refine bel_drew ?_ | with_reducible refine bel_drewN ?_ _ | with_reducible refine bel_set ?_ (by first | omega | (simp; done) | (simp; omega)) _ | with_reducible refine bel_trans ?_ (by with_reducible assumption) | exact Below.refl _ _ | assumption | refine bel_alloc ?_ _ | refine bel_drew ?_ | refine bel_drewN ?_ _ | refine bel_set ?_ (by first | omega | (simp; done) | (simp; omega)) _ | refine bel_trans ?_ (by assumption)))⟩

theorem c_firstByte (b : Nat) (k : Kn) (A : Option Addr) (cap L : Nat) (w : World) (h : k.Ok) (hk : KAt w b k (.slice A k.ps.length cap)) (hps : PsAt w L A cap k.ps) (hL : L ≤ w.heap.size) (code : Int) (hc : k.Fol code) :
    Calls Try.prog 174 #[.pointer (some ⟨b, 0, none⟩), .int .i64 code] w fun e w' => e = .returned (.int .i64 (k.fst code)) ∧ Below w.heap.size w w' := by
  rcases hc with hc | ⟨hg, rfl⟩
  · exact c_firstByte_has b k A cap L w h hk hps hL _ code false (by simp) (fun _ => ⟨hc, Kn.fst_has hc⟩)
  · exact c_firstByte_has b k A cap L w h hk hps hL _ k.next true (fun _ => ⟨rfl, hg, h.fst_next hg⟩) (by simp)
end Go.Proofs.Ytoiifopjipfjhaa
