/- The law's argument 'what is known', opened: its numbers, and where its pairs lie. No condition. The walk of FnExactKnownValid: its Go text returns true, and writes nothing that was there. Contracts of the next code, of what grows, of the greatest code and its width, in both programs. No condition but that what is known is valid. Contracts of NextWord, Grows, Greatest, Width in both programs. No condition but that the numbers are int's. The contract of the library's slices.Reverse at bytes that the caller owns. No condition. Contracts of the words of codes in both programs. No condition but that what is known is valid. Contracts of the words of codes that can follow, in the program. No condition but that what is known is valid. -/
import Derived.Test.YtgaihfmopenfeaaChecked
import Derived.Test.YtgaihfmopenfeaaBb
import Derived.Test.YtgaihfmopenfeaaBd
import Derived.Deep.SlicePairs
import Derived.Test.YtgaihfmopenfeaaBa
namespace Go.Proofs.Ytgaihfmopenfeaa
section
open Go.ChangeShapes Go.WideShapes Go.ChangeAt Go.RowKit Go.Joins Go.Deep
set_option linter.unusedVariables false

theorem array_six {α : Type} {cs : Array α} (h : cs.size = 6) : ∃ a b c d e f, cs = #[a, b, c, d, e, f] := by
  obtain ⟨l⟩ := cs
  simp at h
  match l, h with
  | [a, b, c, d, e, f], _ => exact ⟨a, b, c, d, e, f, rfl⟩

theorem agg_six {P : Program} {w : World} {r : Reach} {b0 : Nat} {t : TypeId} {fs : Array Field} {v : Value} (hs : P.underlying t = some (.struct fs)) (hC : P.cellsOf t = 6) (hv : Value.okWide P w r b0 t v) : ∃ a b c d e f, v = .agg #[a, b, c, d, e, f] := by
  obtain ⟨cs, rfl, hsz⟩ := okWide_struct hs hv
  obtain ⟨c0, c1, c2, c3, c4, c5, rfl⟩ := array_six (hsz.trans hC)
  exact ⟨_, _, _, _, _, _, rfl⟩

set_option maxRecDepth 100000 in
theorem open_pairs {H : Type} {enc : TypeId × Value → H} {w : World} {spare : Nat → Bool} {held : Bool} {fuel : Nat} {c : Value} {x : DataW H × List MemPlace} (h : DataW.trod enc Try.prog w 0 spare held fuel 24 [c] = some x) :
    ∃ (A : Option Addr) (cap : Nat) (ps : List Pr), c = .slice A ps.length cap ∧ PsAt w w.heap.size A cap ps ∧ PsB ps := by
  rcases open_slice_pairs Try.underlying24 Try.underlying72 (by kernel_rfl) rfl rfl (by kernel_rfl) (by kernel_rfl) h with ⟨hc, _⟩ | ⟨a, len, cap, m, n, V0, V1, D0, D1, P0, P1, hc, _, hl, hcm, hm, _, hx⟩
  · simp at hc
    exact ⟨none, 0, [], hc, PsAt.nil _ _, fun i p hp => by simp at hp⟩
  · simp at hc
    have hlm : len ≤ m := by rw [hm]; split <;> omega
    have each : ∀ i, i < len → ∃ q : Int × Int, w.cell? (a.add (i * 2)) = some (.int .i64 q.1) ∧ w.cell? (a.add (i * 2 + 1)) = some (.int .i64 q.2) ∧ (-9223372036854775808 ≤ q.1 ∧ q.1 ≤ 9223372036854775807) ∧ (-9223372036854775808 ≤ q.2 ∧ q.2 ≤ 9223372036854775807) := by
      intro i hi
      obtain ⟨h0, h1, t0, t1⟩ := hx i (by omega)
      obtain ⟨y0, e0, _, w0⟩ := DataW.trod_int Try.underlying3 t0
      obtain ⟨y1, e1, _, w1⟩ := DataW.trod_int Try.underlying3 t1
      simp only [List.cons.injEq, and_true] at e0 e1
      rw [e0] at h0
      rw [e1] at h1
      exact ⟨(y0, y1), h0, h1, wf_bounds w0, wf_bounds w1⟩
    obtain ⟨q, hq⟩ := choose_lt each
    have hlen : ((List.range len).map q).length = len := by simp
    have hget : ∀ i p, ((List.range len).map q)[i]? = some p → i < len ∧ p = q i := by
      intro i p hp
      have := get_lt hp
      rw [hlen] at this
      simp [this] at hp
      exact ⟨this, hp.symm⟩
    refine ⟨some a, cap, (List.range len).map q, by rw [hlen]; exact hc, ⟨by rw [hlen]; exact hl, hcm, by simp, fun hn => ?_⟩, fun i p hp => ?_⟩
    · rw [hlen] at hn
      obtain ⟨b, off, spot⟩ := a
      have hc0 := (hq 0 hn).1
      have hspot : spot = none := by simpa [Addr.add] using World.cell?_spot hc0
      subst hspot
      refine ⟨b, off, rfl, ?_, fun i p hp => ?_⟩
      · have := World.block_lt_of_cell? _ _ hc0
        simpa [Addr.add] using this
      · obtain ⟨hi, rfl⟩ := hget i p hp
        have h1 := hq i hi
        have ea : ∀ j, ((⟨b, off, none⟩ : Addr).add j) = ⟨b, off + j, none⟩ := by intro j; unfold Addr.add; split <;> simp_all
        rw [ea, ea] at h1
        exact ⟨h1.1, h1.2.1⟩
    · obtain ⟨hi, rfl⟩ := hget i p hp
      have h1 := hq i hi
      exact ⟨h1.2.2.1, h1.2.2.2⟩

/-- the law's argument, a value of its own type -/
structure Kn.In (k : Kn) : Prop where
  pairs : PsB k.ps
  base : -9223372036854775808 ≤ k.base ∧ k.base ≤ 9223372036854775807
  last : -9223372036854775808 ≤ k.last ∧ k.last ≤ 9223372036854775807

set_option maxRecDepth 100000 in
theorem open_known {H : Type} {enc : TypeId × Value → H} {w : World} {spare : Nat → Bool} {held : Bool} {r : Reach} {b0 : Nat} {v : Value} {d : DataW H} {p : List MemPlace} (hv : Value.okWide Try.prog w r b0 26 v) (h : DataW.Trod enc Try.prog w 0 spare held 26 v d p) :
    ∃ (k : Kn) (A : Option Addr) (cap : Nat), v = .agg #[.int .i64 k.o, .int .i64 k.l, .int .i64 k.m, .slice A k.ps.length cap, .int .i64 k.base, .int .i64 k.last] ∧ PsAt w w.heap.size A cap k.ps ∧ k.In := by
  have hC : Try.prog.cellsOf 26 = 6 := by kernel_rfl
  have hU := Try.underlying26
  have h6 := agg_six hU hC hv
  obtain ⟨c0, c1, c2, c3, c4, c5, rfl⟩ := h6
  obtain ⟨fuel, hf⟩ := h
  obtain ⟨xs, n, _, _, _, hxl, hx⟩ := DataW.trod_struct Try.underlying26 hf
  have cS : Try.prog.cellsOf 23 = 3 := by kernel_rfl
  have cP : Try.prog.cellsOf 24 = 1 := by kernel_rfl
  have cI : Try.prog.cellsOf 3 = 1 := by kernel_rfl
  have hlen : xs.length = 4 := hxl
  have g0 : DataW.trod enc Try.prog w 0 spare held n 23 (List.take (Try.prog.cellsOf 23) (List.drop 0 [c0, c1, c2, c3, c4, c5])) = xs[0]? := hx 0 _ rfl
  rw [cS, List.getElem?_eq_getElem (by omega)] at g0
  have g0 : DataW.trod enc Try.prog w 0 spare held n 23 [c0, c1, c2] = some xs[0] := g0
  have g1 : DataW.trod enc Try.prog w 0 spare held n 24 (List.take (Try.prog.cellsOf 24) (List.drop 3 [c0, c1, c2, c3, c4, c5])) = xs[1]? := hx 1 _ rfl
  rw [cP, List.getElem?_eq_getElem (by omega)] at g1
  have g1 : DataW.trod enc Try.prog w 0 spare held n 24 [c3] = some xs[1] := g1
  have g2 : DataW.trod enc Try.prog w 0 spare held n 3 (List.take (Try.prog.cellsOf 3) (List.drop 4 [c0, c1, c2, c3, c4, c5])) = xs[2]? := hx 2 _ rfl
  rw [cI, List.getElem?_eq_getElem (by omega)] at g2
  have g2 : DataW.trod enc Try.prog w 0 spare held n 3 [c4] = some xs[2] := g2
  have g3 : DataW.trod enc Try.prog w 0 spare held n 3 (List.take (Try.prog.cellsOf 3) (List.drop 5 [c0, c1, c2, c3, c4, c5])) = xs[3]? := hx 3 _ rfl
  rw [cI, List.getElem?_eq_getElem (by omega)] at g3
  have g3 : DataW.trod enc Try.prog w 0 spare held n 3 [c5] = some xs[3] := g3
  obtain ⟨ys, m, _, _, _, hyl, hy⟩ := DataW.trod_struct Try.underlying23 g0
  have hlen2 : ys.length = 3 := hyl
  have k0 : DataW.trod enc Try.prog w 0 spare held m 3 (List.take (Try.prog.cellsOf 3) (List.drop 0 [c0, c1, c2])) = ys[0]? := hy 0 _ rfl
  rw [cI, List.getElem?_eq_getElem (by omega)] at k0
  have k0 : DataW.trod enc Try.prog w 0 spare held m 3 [c0] = some ys[0] := k0
  have k1 : DataW.trod enc Try.prog w 0 spare held m 3 (List.take (Try.prog.cellsOf 3) (List.drop 1 [c0, c1, c2])) = ys[1]? := hy 1 _ rfl
  rw [cI, List.getElem?_eq_getElem (by omega)] at k1
  have k1 : DataW.trod enc Try.prog w 0 spare held m 3 [c1] = some ys[1] := k1
  have k2 : DataW.trod enc Try.prog w 0 spare held m 3 (List.take (Try.prog.cellsOf 3) (List.drop 2 [c0, c1, c2])) = ys[2]? := hy 2 _ rfl
  rw [cI, List.getElem?_eq_getElem (by omega)] at k2
  have k2 : DataW.trod enc Try.prog w 0 spare held m 3 [c2] = some ys[2] := k2
  obtain ⟨o, e0, _, w0⟩ := DataW.trod_int Try.underlying3 k0
  obtain ⟨l, e1, _, w1⟩ := DataW.trod_int Try.underlying3 k1
  obtain ⟨mm, e2, _, w2⟩ := DataW.trod_int Try.underlying3 k2
  obtain ⟨A, cap, ps, e3, hps, hpb⟩ := open_pairs g1
  obtain ⟨bb, e4, _, w4⟩ := DataW.trod_int Try.underlying3 g2
  obtain ⟨tt, e5, _, w5⟩ := DataW.trod_int Try.underlying3 g3
  simp only [List.cons.injEq, and_true] at e0 e1 e2 e4 e5
  subst e0 e1 e2 e3 e4 e5
  exact ⟨⟨o, l, mm, ps, bb, tt⟩, A, cap, rfl, hps, ⟨hpb, wf_bounds w4, wf_bounds w5⟩⟩
end

section
open Go.ChangeShapes Go.WideShapes Go.ChangeAt Go.RowKit Go.Joins
set_option linter.unusedVariables false

theorem Kn.In.wf {k : Kn} (h : k.In) (hn : k.ps.length ≤ 1048576) : k.Wf := ⟨h.pairs, h.base, h.last, hn⟩
/-- an own slice of pairs, read -/
theorem own_at {w : World} {B : Nat} {e : TypeId} {g n cap : Nat} {ps : List Pr} (h : w.ownsRow B e 2 (.slice (some ⟨g, 0, none⟩) n cap) n (prs ps)) : PsAt w w.heap.size (some ⟨g, 0, none⟩) cap ps := by
  obtain ⟨A, c, e1, hp, e2, _⟩ := own_ps h
  simp at e1
  obtain ⟨rfl, _, rfl⟩ := e1
  exact hp

theorem held12 {v0 v : World} {a0 a1 a2 a3 a4 a5 b0 b1 b2 b3 b4 b5 : Addr} {x0 x1 x2 x3 x4 x5 y0 y1 y2 y3 y4 y5 : Value} (h : v.cell? a0 = some x0 ∧ v.cell? a1 = some x1 ∧ v.cell? a2 = some x2 ∧ v.cell? a3 = some x3 ∧ v.cell? a4 = some x4 ∧ v.cell? a5 = some x5) (k : v.cell? b0 = some y0 ∧ v.cell? b1 = some y1 ∧ v.cell? b2 = some y2 ∧ v.cell? b3 = some y3 ∧ v.cell? b4 = some y4 ∧ v.cell? b5 = some y5) (hb : Below v0.heap.size v0 v) :
    v.cell? a0 = some x0 ∧ v.cell? a1 = some x1 ∧ v.cell? a2 = some x2 ∧ v.cell? a3 = some x3 ∧ v.cell? a4 = some x4 ∧ v.cell? a5 = some x5 ∧ v.cell? b0 = some y0 ∧ v.cell? b1 = some y1 ∧ v.cell? b2 = some y2 ∧ v.cell? b3 = some y3 ∧ v.cell? b4 = some y4 ∧ v.cell? b5 = some y5 ∧ Below v0.heap.size v0 v := by
  obtain ⟨h0, h1, h2, h3, h4, h5⟩ := h
  obtain ⟨k0, k1, k2, k3, k4, k5⟩ := k
  exact ⟨h0, h1, h2, h3, h4, h5, k0, k1, k2, k3, k4, k5, hb⟩
end

section
open Go.ChangeShapes Go.WideShapes Go.ChangeAt Go.RowKit Go.Joins
set_option linter.unusedVariables false

theorem next_eq (k : Kn) : k.next = pow2 k.l + 2 + k.ps.length := rfl
theorem next_bd {k : Kn} (h : k.Ok) : 4 ≤ k.next ∧ k.next ≤ 1024 := by have := h.next_le; have := h.cbd; rw [next_eq]; have := h.cbd; unfold Kn.c at *; unfold Kn.next Kn.c at *; omega

theorem c_l2Next (k : Kn) (A : Option Addr) (cap : Nat) (w : World) (h : k.Ok) : Calls Try.prog 56 #[.agg #[.int .i64 k.o, .int .i64 k.l, .int .i64 k.m, .slice A k.ps.length cap, .int .i64 k.base, .int .i64 k.last]] w fun e w' => e = .returned (.int .i64 k.next) ∧ Below w.heap.size w w' := by
  have hp := set_bd h.set
  obtain ⟨_, ⟨hl1, hl2⟩, hm1, hm2⟩ := setOk_iff.1 h.set
  have hlen := h.len
  have HS := hid ((Blk.new w 33 #[.int .i64 k.o, .int .i64 k.l, .int .i64 k.m, .slice A k.ps.length cap, .int .i64 k.base, .int .i64 k.last]).kat.held (bel_alloc (Below.refl _ w) (.cells #[.int .i64 k.o, .int .i64 k.l, .int .i64 k.m, .slice A k.ps.length cap, .int .i64 k.base, .int .i64 k.last] 33)))
  have HE := hid (fun (v : World) => c_l1End k.o k.l k.m v (by omega) (by omega))
  have ew1 : IntKind.i64.wrap (pow2 k.l + 1 + 1) = pow2 k.l + 1 + 1 := IntWalk.i64_in _ (by omega)
  have ew2 : IntKind.i64.wrap (pow2 k.l + 1 + 1 + (k.ps.length : Int)) = pow2 k.l + 1 + 1 + (k.ps.length : Int) := IntWalk.i64_in _ (by omega)
  go_enter Try.func56, Try.ntmps56
  go_wp2_with fail
  have hS := HS.out
  refine wp_region_noPanic ?_
  refine wp_region_held_drew (S := (fun v => v.cell? ⟨w.heap.size, 0, none⟩ = some (.int .i64 k.o) ∧ v.cell? ⟨w.heap.size, 1, none⟩ = some (.int .i64 k.l) ∧ v.cell? ⟨w.heap.size, 2, none⟩ = some (.int .i64 k.m) ∧ v.cell? ⟨w.heap.size, 3, none⟩ = some (.slice A k.ps.length cap) ∧ v.cell? ⟨w.heap.size, 4, none⟩ = some (.int .i64 k.base) ∧ v.cell? ⟨w.heap.size, 5, none⟩ = some (.int .i64 k.last) ∧ Below w.heap.size w v)) (by kernel_rfl) (s6_drew hS) (fun hHeld => ?_)
  refine tk 0 ?_
  refine tk 1 ?_
  refine tk 4 ?_
  refine tk 5 ?_
  refine tk 6 ?_
  refine wpAnyH_ready (rs := [2]) (by kernel_rfl) (by simp) ?_
  refine AllReadyH.cons (o := ?or1_2) ?ir1_2 (fun K hK => ?sr1_2) AllReadyH.nil
  case ir1_2 => (simp only [List.getElem?_toArray, List.getElem?_cons_succ, List.getElem?_cons_zero]; rfl)
  (first | (go_simp; (first | (go_at_call 44; refine (HE.out _).mono ?_; rintro e w1 ⟨rfl, hb1⟩) | skip)))
  refine hK.out _ _ ?kr1_2 (fun hHeld => ?_)
  case kr1_2 => (try dsimp only); (first | with_reducible assumption | exact s6_bel (by assumption) (by assumption) | assumption | exact s6_alloc (by assumption) _)
  clear hK K
  try simp only [Act.put, List.setIfInBounds_toArray, List.set_cons_zero, List.set_cons_succ]
  refine tk 3 ?_
  refine tk 7 ?_
  refine tk 8 ?_
  refine wpAnyH_done (by kernel_rfl) ?_ _
  refine NoPanic.normal ?_
  go_wp2
  go_ret
  exact ⟨ret_int (by rw [next_eq]; omega), by (repeat (first | with_reducible (first | assumption | exact Below.refl _ _ | refine bel_alloc ?_ _ | refine bel_drew ?_ | refine bel_drewN ?_ _ | refine bel_set ?_ (by first | omega | (simp; done) | (simp; omega)) _ | refine bel_trans ?_ (by assumption)) | assumption | refine bel_trans ?_ (by assumption)))⟩

theorem c_l2Grows (k : Kn) (A : Option Addr) (cap : Nat) (w : World) (h : k.Ok) : Calls Try.prog 73 #[.agg #[.int .i64 k.o, .int .i64 k.l, .int .i64 k.m, .slice A k.ps.length cap, .int .i64 k.base, .int .i64 k.last]] w fun e w' => e = .returned (.bool k.grows) ∧ Below w.heap.size w w' := by
  have hp := set_bd h.set
  obtain ⟨_, ⟨hl1, hl2⟩, hm1, hm2⟩ := setOk_iff.1 h.set
  have hlen := h.len
  have HS := hid ((Blk.new w 33 #[.int .i64 k.o, .int .i64 k.l, .int .i64 k.m, .slice A k.ps.length cap, .int .i64 k.base, .int .i64 k.last]).kat.held (bel_alloc (Below.refl _ w) (.cells #[.int .i64 k.o, .int .i64 k.l, .int .i64 k.m, .slice A k.ps.length cap, .int .i64 k.base, .int .i64 k.last] 33)))
  have HN := hid (fun (v : World) => c_l2Next k A cap v h)
  have HL := hid (fun (v : World) => c_l1Last k.o k.l k.m v (by omega) (by omega))
  have hlb := h.lastBd
  have hnb := next_bd h
  generalize hnx : k.next = nx at hnb
  rw [hnx] at HN
  by_cases h1 : 0 ≤ k.last
  · have h2 : decide (0 ≤ k.last) = true := by simp [h1]
    have HG := hid (show k.grows = decide (nx ≤ pow2 k.m - 1) by rw [← hnx]; simp [Kn.grows, h1, Kn.lc])
    clear hnx hlb
    go_enter Try.func73, Try.ntmps73
    go_wp2_with fail
    have hS := HS.out
    refine wp_region_noPanic ?_
    refine wp_region_held_drew (S := (fun v => v.cell? ⟨w.heap.size, 0, none⟩ = some (.int .i64 k.o) ∧ v.cell? ⟨w.heap.size, 1, none⟩ = some (.int .i64 k.l) ∧ v.cell? ⟨w.heap.size, 2, none⟩ = some (.int .i64 k.m) ∧ v.cell? ⟨w.heap.size, 3, none⟩ = some (.slice A k.ps.length cap) ∧ v.cell? ⟨w.heap.size, 4, none⟩ = some (.int .i64 k.base) ∧ v.cell? ⟨w.heap.size, 5, none⟩ = some (.int .i64 k.last) ∧ Below w.heap.size w v)) (by kernel_rfl) (s6_drew hS) (fun hHeld => ?_)
    refine tk 0 ?_
    refine tk 1 ?_
    refine tk 2 ?_
    refine tk 3 ?_
    refine tk 4 ?_
    refine tk 6 ?_
    refine tk 7 ?_
    refine wpAnyH_ready (rs := [5]) (by kernel_rfl) (by simp) ?_
    refine AllReadyH.cons (o := ?or2_5) ?ir2_5 (fun K hK => ?sr2_5) AllReadyH.nil
    case ir2_5 => (simp only [List.getElem?_toArray, List.getElem?_cons_succ, List.getElem?_cons_zero]; rfl)
    (first | (go_simp; (first | (go_at_call 56; refine (HN.out _).mono ?_; rintro e w1 ⟨rfl, hb1⟩) | (go_at_call 43; refine (HL.out _).mono ?_; rintro e w1 ⟨rfl, hb1⟩) | skip)))
    refine hK.out _ _ ?kr2_5 (fun hHeld => ?_)
    case kr2_5 => (try dsimp only); (first | with_reducible assumption | exact s6_bel (by assumption) (by assumption) | assumption | exact s6_alloc (by assumption) _)
    clear hK K
    try simp only [Act.put, List.setIfInBounds_toArray, List.set_cons_zero, List.set_cons_succ]
    refine wpAnyH_ready (rs := [8]) (by kernel_rfl) (by simp) ?_
    refine AllReadyH.cons (o := ?or2_8) ?ir2_8 (fun K hK => ?sr2_8) AllReadyH.nil
    case ir2_8 => (simp only [List.getElem?_toArray, List.getElem?_cons_succ, List.getElem?_cons_zero]; rfl)
    (first | (go_simp; (first | (go_at_call 56; refine (HN.out _).mono ?_; rintro e w1 ⟨rfl, hb1⟩) | (go_at_call 43; refine (HL.out _).mono ?_; rintro e w1 ⟨rfl, hb1⟩) | skip)))
    refine hK.out _ _ ?kr2_8 (fun hHeld => ?_)
    case kr2_8 => (try dsimp only); (first | with_reducible assumption | exact s6_bel (by assumption) (by assumption) | assumption | exact s6_alloc (by assumption) _)
    clear hK K
    try simp only [Act.put, List.setIfInBounds_toArray, List.set_cons_zero, List.set_cons_succ]
    refine tk 9 ?_
    refine tk 10 ?_
    refine tk 11 ?_
    refine wpAnyH_done (by kernel_rfl) ?_ _
    refine NoPanic.normal ?_
    all_goals
      go_wp2
      go_ret
      exact ⟨ret_bool HG.out.symm, by (repeat (first | with_reducible (first | assumption | exact Below.refl _ _ | refine bel_alloc ?_ _ | refine bel_drew ?_ | refine bel_drewN ?_ _ | refine bel_set ?_ (by first | omega | (simp; done) | (simp; omega)) _ | refine bel_trans ?_ (by assumption)) | assumption | refine bel_trans ?_ (by assumption)))⟩
  · have h2 : decide (0 ≤ k.last) = false := by simp; omega
    have HG := hid (show k.grows = false by simp [Kn.grows]; omega)
    clear hnx hlb
    go_enter Try.func73, Try.ntmps73
    go_wp2_with fail
    have hS := HS.out
    refine wp_region_noPanic ?_
    refine wp_region_held_drew (S := (fun v => v.cell? ⟨w.heap.size, 0, none⟩ = some (.int .i64 k.o) ∧ v.cell? ⟨w.heap.size, 1, none⟩ = some (.int .i64 k.l) ∧ v.cell? ⟨w.heap.size, 2, none⟩ = some (.int .i64 k.m) ∧ v.cell? ⟨w.heap.size, 3, none⟩ = some (.slice A k.ps.length cap) ∧ v.cell? ⟨w.heap.size, 4, none⟩ = some (.int .i64 k.base) ∧ v.cell? ⟨w.heap.size, 5, none⟩ = some (.int .i64 k.last) ∧ Below w.heap.size w v)) (by kernel_rfl) (s6_drew hS) (fun hHeld => ?_)
    refine tk 0 ?_
    refine tk 1 ?_
    refine tk 2 ?_
    refine tk 3 ?_
    refine tu 4 ?_
    refine tu 5 ?_
    refine tu 6 ?_
    refine tu 7 ?_
    refine tu 8 ?_
    refine tu 9 ?_
    refine tk 10 ?_
    refine tk 11 ?_
    refine wpAnyH_done (by kernel_rfl) ?_ _
    refine NoPanic.normal ?_
    go_wp2
    go_ret
    exact ⟨ret_bool HG.out.symm, by (repeat (first | with_reducible (first | assumption | exact Below.refl _ _ | refine bel_alloc ?_ _ | refine bel_drew ?_ | refine bel_drewN ?_ _ | refine bel_set ?_ (by first | omega | (simp; done) | (simp; omega)) _ | refine bel_trans ?_ (by assumption)) | assumption | refine bel_trans ?_ (by assumption)))⟩

theorem c_l2Greatest (k : Kn) (A : Option Addr) (cap : Nat) (w : World) (h : k.Ok) : Calls Try.prog 71 #[.agg #[.int .i64 k.o, .int .i64 k.l, .int .i64 k.m, .slice A k.ps.length cap, .int .i64 k.base, .int .i64 k.last]] w fun e w' => e = .returned (.int .i64 k.great) ∧ Below w.heap.size w w' := by
  have HN := hid (fun (v : World) => c_l2Next k A cap v h)
  have HG := hid (fun (v : World) => c_l2Grows k A cap v h)
  have hnb := next_bd h
  generalize hnx : k.next = nx at hnb
  rw [hnx] at HN
  cases hg : k.grows with
  | true =>
    rw [hg] at HG
    have HR := hid (show k.great = nx by rw [← hnx]; simp [Kn.great, hg])
    clear hnx hg
    go_enter Try.func71, Try.ntmps71
    go_wp2_with fail
    refine (HG.out _).mono ?_
    rintro e w1 ⟨rfl, hb1⟩
    have hc1 := bcell hb1
    have hz1_0 : w.heap.size < w1.heap.size := (by have := hb1.size; first | omega | (simp at this; omega))
    go_wp2_with fail
    refine (HN.out _).mono ?_
    rintro e w2 ⟨rfl, hb2⟩
    have hc2 := bcell hb2
    have hz2_0 : w.heap.size < w2.heap.size := (by have := hb2.size; first | omega | (simp at this; omega))
    go_wp2
    go_ret
    exact ⟨ret_int HR.out.symm, by (repeat (first | with_reducible (first | assumption | exact Below.refl _ _ | refine bel_alloc ?_ _ | refine bel_drew ?_ | refine bel_drewN ?_ _ | refine bel_set ?_ (by first | omega | (simp; done) | (simp; omega)) _ | refine bel_trans ?_ (by assumption)) | assumption | refine bel_trans ?_ (by assumption)))⟩
  | false =>
    rw [hg] at HG
    have HR := hid (show k.great = nx - 1 by rw [← hnx]; simp [Kn.great, hg])
    clear hnx hg
    go_enter Try.func71, Try.ntmps71
    go_wp2_with fail
    refine (HG.out _).mono ?_
    rintro e w1 ⟨rfl, hb1⟩
    have hc1 := bcell hb1
    have hz1_0 : w.heap.size < w1.heap.size := (by have := hb1.size; first | omega | (simp at this; omega))
    go_wp2_with fail
    refine (HN.out _).mono ?_
    rintro e w2 ⟨rfl, hb2⟩
    have hc2 := bcell hb2
    have hz2_0 : w.heap.size < w2.heap.size := (by have := hb2.size; first | omega | (simp at this; omega))
    go_wp2
    go_ret
    exact ⟨ret_int HR.out.symm, by (repeat (first | with_reducible (first | assumption | exact Below.refl _ _ | refine bel_alloc ?_ _ | refine bel_drew ?_ | refine bel_drewN ?_ _ | refine bel_set ?_ (by first | omega | (simp; done) | (simp; omega)) _ | refine bel_trans ?_ (by assumption)) | assumption | refine bel_trans ?_ (by assumption)))⟩

theorem c_firstWord (b : Nat) (k : Kn) (A : Option Addr) (cap : Nat) (w : World) (h : k.Ok) (hk : KAt w b k (.slice A k.ps.length cap)) : Calls Try.prog 39 #[.pointer (some ⟨b, 0, none⟩)] w fun e w' => e = .returned (.int .i64 (pow2 k.l + 2)) ∧ Below w.heap.size w w' := by
  have hp := set_bd h.set
  obtain ⟨_, ⟨hl1, hl2⟩, hm1, hm2⟩ := setOk_iff.1 h.set
  have hlen := h.len
  have HS := hid (hk.held (Below.refl _ w))
  obtain ⟨hb, q0, q1, q2, q3, q4, q5⟩ := hk
  have HE := hid (fun (v : World) => c_EndCode_yes k.o k.l k.m v h.set)
  clear HS
  go_enter Try.func39, Try.ntmps39
  go_wp2_with fail
  refine (HE.out _).mono ?_
  rintro e w1 ⟨rfl, hb1⟩
  have hc1 := bcell hb1
  go_wp2
  go_ret
  exact ⟨ret_int (by omega), by (repeat (first | with_reducible (first | assumption | exact Below.refl _ _ | refine bel_alloc ?_ _ | refine bel_drew ?_ | refine bel_drewN ?_ _ | refine bel_set ?_ (by first | omega | (simp; done) | (simp; omega)) _ | refine bel_trans ?_ (by assumption)) | assumption | refine bel_trans ?_ (by assumption)))⟩

theorem c_nextWord (b : Nat) (k : Kn) (A : Option Addr) (cap : Nat) (w : World) (h : k.Ok) (hk : KAt w b k (.slice A k.ps.length cap)) : Calls Try.prog 40 #[.pointer (some ⟨b, 0, none⟩)] w fun e w' => e = .returned (.int .i64 k.next) ∧ Below w.heap.size w w' := by
  have HF := hid (fun (v : World) (hv : KAt v b k (.slice A k.ps.length cap)) => c_firstWord b k A cap v h hv)
  have hp := set_bd h.set
  obtain ⟨_, ⟨hl1, hl2⟩, hm1, hm2⟩ := setOk_iff.1 h.set
  have hlen := h.len
  have HS := hid (hk.held (Below.refl _ w))
  obtain ⟨hb, q0, q1, q2, q3, q4, q5⟩ := hk
  have ew : IntKind.i64.wrap (pow2 k.l + 2 + (k.ps.length : Int)) = pow2 k.l + 2 + (k.ps.length : Int) := IntWalk.i64_in _ (by omega)
  have hb0 := Below.refl w.heap.size w
  go_enter Try.func40, Try.ntmps40
  go_wp2_with fail
  have hS := HS.out
  refine wp_region_noPanic ?_
  refine wp_region_held_drew (S := (fun v => v.cell? ⟨b, 0, none⟩ = some (.int .i64 k.o) ∧ v.cell? ⟨b, 1, none⟩ = some (.int .i64 k.l) ∧ v.cell? ⟨b, 2, none⟩ = some (.int .i64 k.m) ∧ v.cell? ⟨b, 3, none⟩ = some (.slice A k.ps.length cap) ∧ v.cell? ⟨b, 4, none⟩ = some (.int .i64 k.base) ∧ v.cell? ⟨b, 5, none⟩ = some (.int .i64 k.last) ∧ Below w.heap.size w v)) (by kernel_rfl) (s6_drew hS) (fun hHeld => ?_)
  refine tk 0 ?_
  refine tk 2 ?_
  refine tk 3 ?_
  refine tk 4 ?_
  refine tk 5 ?_
  refine tk 6 ?_
  refine wpAnyH_ready (rs := [1]) (by kernel_rfl) (by simp) ?_
  refine AllReadyH.cons (o := ?or4_1) ?ir4_1 (fun K hK => ?sr4_1) AllReadyH.nil
  case ir4_1 => (simp only [List.getElem?_toArray, List.getElem?_cons_succ, List.getElem?_cons_zero]; rfl)
  (first | (go_simp; (first | (go_at_call 39; refine (HF.out _ (kat6 hHeld).1).mono ?_; rintro e w1 ⟨rfl, hb1⟩) | skip)))
  refine hK.out _ _ ?kr4_1 (fun hHeld => ?_)
  case kr4_1 => (try dsimp only); (first | with_reducible assumption | exact s6_bel (by assumption) (by assumption) | assumption | exact s6_alloc (by assumption) _)
  clear hK K
  try simp only [Act.put, List.setIfInBounds_toArray, List.set_cons_zero, List.set_cons_succ]
  refine tk 7 ?_
  refine tk 8 ?_
  refine wpAnyH_done (by kernel_rfl) ?_ _
  refine NoPanic.normal ?_
  go_wp2
  go_ret
  exact ⟨rfl, by (repeat (first | with_reducible (first | assumption | exact Below.refl _ _ | refine bel_alloc ?_ _ | refine bel_drew ?_ | refine bel_drewN ?_ _ | refine bel_set ?_ (by first | omega | (simp; done) | (simp; omega)) _ | refine bel_trans ?_ (by assumption)) | assumption | refine bel_trans ?_ (by assumption)))⟩
end

section
open Go.ChangeShapes Go.WideShapes Go.ChangeAt Go.RowKit Go.Joins
set_option linter.unusedVariables false
end

section
open Go.ChangeShapes Go.WideShapes Go.ChangeAt Go.RowKit Go.Joins
set_option linter.unusedVariables false

/-- the first k and the last k elements exchanged -/
def rv (l : List UInt8) (k : Nat) : List UInt8 := (List.range l.length).map fun i => if i < k ∨ l.length ≤ i + k then (l[l.length - 1 - i]?).getD 0 else (l[i]?).getD 0
theorem rv_len (l : List UInt8) (k : Nat) : (rv l k).length = l.length := by simp [rv]
theorem rv_get (l : List UInt8) (k i : Nat) (h : i < l.length) : (rv l k)[i]? = some (if i < k ∨ l.length ≤ i + k then (l[l.length - 1 - i]?).getD 0 else (l[i]?).getD 0) := by simp [rv, h]
theorem rv_zero (l : List UInt8) : rv l 0 = l := by
  apply List.ext_getElem?
  intro i
  by_cases h : i < l.length
  · rw [rv_get _ _ _ h, if_neg (by omega), List.getElem?_eq_getElem h]; rfl
  · rw [List.getElem?_eq_none (by rw [rv_len]; omega), List.getElem?_eq_none (by omega)]
theorem rv_all (l : List UInt8) (k : Nat) (h : l.length ≤ 2 * k + 1) : rv l k = l.reverse := by
  apply List.ext_getElem?
  intro i
  by_cases hi : i < l.length
  · rw [rv_get _ _ _ hi, List.getElem?_reverse hi]
    split
    · rw [List.getElem?_eq_getElem (by omega)]; rfl
    · have : l.length - 1 - i = i := by omega
      rw [this, List.getElem?_eq_getElem hi]; rfl
  · rw [List.getElem?_eq_none (by rw [rv_len]; omega), List.getElem?_eq_none (by simp; omega)]
theorem rv_step (l : List UInt8) (k : Nat) (h : 2 * k + 1 < l.length) : rv l (k + 1) = ((rv l k).set k ((l[l.length - 1 - k]?).getD 0)).set (l.length - 1 - k) ((l[k]?).getD 0) := by
  apply List.ext_getElem?
  intro i
  by_cases hi : i < l.length
  · rw [rv_get _ _ _ hi, List.getElem?_set, List.length_set, rv_len]
    by_cases h1 : l.length - 1 - k = i
    · rw [if_pos h1, if_pos (by omega), if_pos (by omega)]
      have : l.length - 1 - i = k := by omega
      rw [this]
    · rw [if_neg h1, List.getElem?_set, rv_len]
      by_cases h2 : k = i
      · rw [if_pos h2, if_pos (by omega), if_pos (by omega), h2]
      · rw [if_neg h2, rv_get _ _ _ hi]
        by_cases h3 : i < k ∨ l.length ≤ i + k
        · rw [if_pos (by omega), if_pos h3]
        · rw [if_neg (by omega), if_neg h3]
  · rw [List.getElem?_eq_none (by rw [rv_len]; omega), List.getElem?_eq_none (by simp [rv_len]; omega)]
theorem rv_mid (l : List UInt8) (k : Nat) (h : 2 * k + 1 < l.length) : (rv l k)[k]? = some ((l[k]?).getD 0) ∧ (rv l k)[l.length - 1 - k]? = some ((l[l.length - 1 - k]?).getD 0) := by
  constructor
  · rw [rv_get _ _ _ (by omega), if_neg (by omega)]
  · rw [rv_get _ _ _ (by omega), if_neg (by omega)]

theorem own_bytes_set {w : World} {B : Nat} {e : TypeId} {G n cap : Nat} {l : List UInt8} (h : w.ownsRow B e 1 (.slice (some ⟨G, 0, none⟩) n cap) n (l.map vb)) (k : Nat) (c : UInt8) :
    (w.setCell ⟨G, k, none⟩ (.int .u8 (c.toNat : Int))).ownsRow B e 1 (.slice (some ⟨G, 0, none⟩) n cap) n ((l.set k c).map vb) := by
  have h1 := (h.stored k (.int .u8 (c.toNat : Int))).1
  have e1 : (l.map vb).set k (.int .u8 (c.toNat : Int)) = (l.set k c).map vb := by rw [List.map_set]; rfl
  rw [← e1]; exact h1
theorem own_byte {w : World} {B : Nat} {e : TypeId} {G n cap : Nat} {l : List UInt8} (h : w.ownsRow B e 1 (.slice (some ⟨G, 0, none⟩) n cap) n (l.map vb)) (k : Nat) (c : UInt8) (hk : l[k]? = some c) : w.cell? ⟨G, k, none⟩ = some (.int .u8 (c.toNat : Int)) := by
  have hl := own_len h
  have hk2 := get_lt hk
  rw [h.cellAt k (by omega), List.getElem?_map, hk]
  rfl

theorem c_Reverse (B G cap n : Nat) (l : List UInt8) (w : World) (h : w.ownsRow B 5 1 (.slice (some ⟨G, 0, none⟩) n cap) n (l.map vb)) (hn : n ≤ 1000000) : Calls Try.prog 60 #[.slice (some ⟨G, 0, none⟩) n cap] w fun e w' => e = .returned (.tuple #[]) ∧ w'.ownsRow B 5 1 (.slice (some ⟨G, 0, none⟩) n cap) n (l.reverse.map vb) ∧ w.grownBy w' (some G) := by
  have hl := own_len h
  have HH := hid h
  have HL := hid hl
  clear h hl
  go_enter Try.func60, Try.ntmps60
  go_wp2_with fail
  go_loopw [2, 3] (fun i j wr => ∃ k : Nat, 2 * k ≤ n + 1 ∧ i = .int .i64 k ∧ j = .int .i64 ((n : Int) - 1 - k) ∧ wr.ownsRow B 5 1 (.slice (some ⟨G, 0, none⟩) n cap) n ((rv l k).map vb) ∧ w.grownBy wr (some G)) (fun i _ _ => n - (intOf i).toNat)
  case atStart => exact ⟨0, by omega, rfl, by simp, by rw [rv_zero]; exact HH.out, grown_refl _ _⟩
  case round =>
    obtain ⟨k, hk, rfl, rfl, hown, hgr⟩ := hrel
    by_cases hlt : 2 * k + 1 < n
    · have HM := hid (rv_mid l k (by have := HL.out; omega))
      have HS := hid (rv_step l k (by have := HL.out; omega))
      rw [HL.out] at HM HS
      obtain ⟨x, hx⟩ : ∃ x, x = (l[k]?).getD 0 := ⟨_, rfl⟩
      obtain ⟨y, hy⟩ : ∃ y, y = (l[n - 1 - k]?).getD 0 := ⟨_, rfl⟩
      rw [← hx, ← hy] at HM HS
      clear hx hy
      obtain ⟨m, hm⟩ : ∃ m : Nat, m = n - 1 - k := ⟨_, rfl⟩
      have hm2 : ((n : Int) - 1 - k) = (m : Int) := by omega
      rw [← hm] at HM HS
      rw [hm2]
      have HMk := hid hm
      have hmn : m < n := by omega
      have hkm : k < m := by omega
      clear hm hm2
      have q0 := own_byte hown k x HM.out.1
      have q1 := own_byte hown m y HM.out.2
      have f0 := hown.frozenAt k
      have f1 := hown.frozenAt m
      have hst := own_bytes_set (own_bytes_set hown k y) m x
      rw [← HS.out] at hst
      have hst2 := grown_set (grown_set hgr k (.int .u8 (y.toNat : Int))) m (.int .u8 (x.toNat : Int))
      have HT := hid (And.intro hst hst2)
      clear hst hst2 hown hgr
      go_wp2_with fail
      go_region
      all_goals
        go_wp2
        go_roundw
        case rel => exact ⟨k + 1, by omega, by go_num, vint (by have := HMk.out; omega), (HT.out.1).drew, grown_drew HT.out.2⟩
        case measure => simp [intOf]; omega
    · have hlast : rv l k = l.reverse := rv_all l k (by have := HL.out; omega)
      have HD := hid hlast
      rw [HD.out] at hown
      clear hlast
      go_wp2

      exact bodyPost_end (v := .tuple #[]) (by simp [results, Try.results60, go_sem]) rfl ⟨rfl, hown, hgr⟩
end

section
open Go.ChangeShapes Go.WideShapes Go.ChangeAt Go.RowKit Go.Joins
set_option linter.unusedVariables false

theorem Try.info_u8w : (Try.prog.info? 5).map (fun i => (i.zero, i.size, i.bytes)) = some (some (.int .u8 0), 1, 1) := by kernel_rfl
theorem word_step (k : Kn) (h : k.Ok) (i : Nat) (p : Pr) (hp : k.ps[i]? = some p) (rl : List UInt8) (code : Int) (H : k.word code = wd k.c k.ps (k.c + 2 + i) ++ rl.reverse) : k.word code = wd k.c k.ps p.1 ++ (rl ++ [byt p.2]).reverse := by
  rw [H, word_pair _ _ h.pairs _ _ hp]; simp
theorem word_bottom (k : Kn) (cd : Int) (hc : cd < k.c + 2) (rl : List UInt8) (code : Int) (H : k.word code = wd k.c k.ps cd ++ rl.reverse) : k.word code = (rl ++ [byt cd]).reverse := by
  rw [H, word_lit _ _ _ hc]; simp
theorem own_form {w : World} {B : Nat} {e : TypeId} {v : Value} {n : Nat} {xs : List Value} {size : Nat} (h : w.ownsRow B e size v n xs) (hn : 0 < n) : ∃ g cap, v = .slice (some ⟨g, 0, none⟩) n cap ∧ B ≤ g ∧ g < w.heap.size := by
  have hlt := h.lt
  rcases h.2 with ⟨_, h0⟩ | ⟨g, cap, cur, rfl, hb, _⟩
  · omega
  · exact ⟨g, cap, rfl, (hlt g rfl).1, (hlt g rfl).2⟩
theorem run_own_str {P : Program} {w : World} {base : Nat} {e : TypeId} {n : Nat} {v : Value} {l : List UInt8} {src dst : TypeId} (hs : P.underlying src = some (.slice e)) (he : P.underlying e = some (.int .u8)) (hd : P.underlying dst = some .string)
    (hown : w.ownsRow base e 1 v n (l.map vb)) : (convert src dst v).run P w = .ok (.string (str l)) w := run_str hs he hd hown

set_option maxHeartbeats 1000000 in
theorem c_word_has (b : Nat) (k : Kn) (A : Option Addr) (cap L : Nat) (w : World) (h : k.Ok) (hk : KAt w b k (.slice A k.ps.length cap)) (hps : PsAt w L A cap k.ps) (hL : L ≤ w.heap.size) (code : Int) (hc : HasW (pow2 k.l) code k.ps.length) :
    Calls Try.prog 41 #[.pointer (some ⟨b, 0, none⟩), .int .i64 code] w fun e w' => e = .returned (.string (str (k.word code))) ∧ Below w.heap.size w w' := by
  have hp := set_bd h.set
  have hlen := h.len
  have hb := hk.1
  have HK := hid hk
  have HP := hid hps
  have HOk := hid h
  have HN := hid (fun (v : World) (hv : KAt v b k (.slice A k.ps.length cap)) => c_nextWord b k A cap v h hv)
  have HF := hid (fun (v : World) (hv : KAt v b k (.slice A k.ps.length cap)) => c_firstWord b k A cap v h hv)
  have hne : (code == k.next) = false := by
    have := next_eq k
    unfold HasW at hc
    rw [beq_eq_false_iff_ne]; omega
  have HWL := hid (word_len _ _ h.pairs _ hc)
  have HC := hid hc
  clear hk hps h hc
  go_enter Try.func41, Try.ntmps41
  go_wp2_with fail
  refine (HN.out _ HK.out).mono ?_
  rintro e w1 ⟨rfl, hb1⟩
  go_wp2_with fail
  go_loopw [1, 6] (fun i v wr => ∃ (cd : Int) (rl : List UInt8), i = .int .i64 cd ∧ Hid (HasW (pow2 k.l) cd k.ps.length) ∧ wr.ownsRow w.heap.size 5 1 v rl.length (rl.map vb) ∧ Hid (k.word code = wd k.c k.ps cd ++ rl.reverse) ∧ Below w.heap.size w wr) (fun i _ _ => (intOf i).toNat)
  case atStart => exact ⟨code, [], rfl, HC, own_nil _ _ _, hid (by simp [Kn.word]), by (repeat (first | with_reducible (first | assumption | exact Below.refl _ _ | refine bel_alloc ?_ _ | refine bel_drew ?_ | refine bel_drewN ?_ _ | refine bel_set ?_ (by first | omega | (simp; done) | (simp; omega)) _ | refine bel_trans ?_ (by assumption)) | assumption | refine bel_trans ?_ (by assumption)))⟩
  case round =>
    obtain ⟨cd, rl, rfl, HH, hown, HW, hbl⟩ := hrel
    have hk2 := HK.out.on hbl hb
    have hrl : rl.length ≤ 1021 := by
      have h1 := HWL.out
      have h2 := congrArg List.length HW.out
      simp only [List.length_append, List.length_reverse] at h2
      unfold Kn.word at h2; omega
    by_cases hlt : pow2 k.l + 2 ≤ cd
    · obtain ⟨i, hi⟩ : ∃ i : Nat, cd = pow2 k.l + 2 + i := ⟨(cd - pow2 k.l - 2).toNat, by omega⟩
      subst hi
      have hil : i < k.ps.length := by have := HH.out; unfold HasW at this; omega
      obtain ⟨d, off, rfl, hd, hd0, hd1⟩ := pair_at (HP.out.below hbl hL) i hil
      have HG := hid (List.getElem?_eq_getElem hil)
      obtain ⟨p, hp2⟩ : ∃ p, p = k.ps[i] := ⟨_, rfl⟩
      rw [← hp2] at hd0 hd1 HG
      clear hp2
      have hpk := HOk.out.pairs i p HG.out
      have HS2 := hid (word_step k HOk.out i p HG.out rl code HW.out)
      obtain ⟨x, y⟩ := p
      simp only at hd0 hd1 hpk HS2
      obtain ⟨hx, hy0, hy1⟩ := hpk
      have hy2 : y < pow2 k.l := hy1
      have HX := hid (show HasW (pow2 k.l) x k.ps.length from hx.mono (by omega))
      have hxlt : x < pow2 k.l + 2 + i ∧ 0 ≤ x := by unfold HasW at hx; unfold Kn.c at hx; omega
      have ey := IntWalk.u8_in y (by omega)
      have HY := hid (byt_nat hy0 (by omega))
      have ew : IntKind.i64.wrap (pow2 k.l + 2 + (i : Int) - (pow2 k.l + 2)) = (i : Int) := (IntWalk.i64_in _ (by omega)).trans (by omega)
      clear hx hy1
      obtain ⟨q0, q1, q2, q3, q4, q5, q6⟩ := hk2
      have HS := hid (And.intro q1 (And.intro q2 (And.intro q3 (And.intro q4 (And.intro q5 (And.intro q6 (And.intro hd0 (And.intro hd1 (Below.refl wr.heap.size wr)))))))))
      clear q1 q2 q3 q4 q5 q6 hd0 hd1
      go_wp2_with fail
      refine (HF.out _ (HK.out.on hbl hb)).mono ?_
      rintro e w2 ⟨rfl, hb2⟩
      go_wp2_with fail
      have hS := s8_bel hb2 HS.out
      have hz2 := hb2.size
      have HS2q := hid HS2
      clear HS2
      refine wp_region_noPanic ?_
      refine wp_region_held_drew (S := (fun v => v.cell? ⟨b, 0, none⟩ = some (.int .i64 k.o) ∧ v.cell? ⟨b, 1, none⟩ = some (.int .i64 k.l) ∧ v.cell? ⟨b, 2, none⟩ = some (.int .i64 k.m) ∧ v.cell? ⟨b, 3, none⟩ = some (.slice (some ⟨d, off, none⟩) k.ps.length cap) ∧ v.cell? ⟨b, 4, none⟩ = some (.int .i64 k.base) ∧ v.cell? ⟨b, 5, none⟩ = some (.int .i64 k.last) ∧ v.cell? ⟨d, off + i * 2, none⟩ = some (.int .i64 x) ∧ v.cell? ⟨d, off + i * 2 + 1, none⟩ = some (.int .i64 y) ∧ Below wr.heap.size wr v)) (by kernel_rfl) (s8_drew hS) (fun hHeld => ?_)
      refine tk 0 ?_
      refine tk 1 ?_
      refine tk 2 ?_
      refine tk 3 ?_
      refine tk 4 ?_
      refine tk 5 ?_
      refine wpAnyH_ready (rs := [6, 10]) (by kernel_rfl) (by simp) ?_
      refine AllReadyH.cons (o := ?or1_6) ?ir1_6 (fun K hK => ?sr1_6) (AllReadyH.cons (o := ?or1_10) ?ir1_10 (fun K hK => ?sr1_10) AllReadyH.nil)
      case ir1_6 => (simp only [List.getElem?_toArray, List.getElem?_cons_succ, List.getElem?_cons_zero]; rfl)
      case ir1_10 => (simp only [List.getElem?_toArray, List.getElem?_cons_succ, List.getElem?_cons_zero]; rfl)
      case' sr1_6 =>
        (first | (go_simp; (first | (go_at_call 39; (refine (HF.out _ (HK.out.on (B := w.heap.size) (bel_trans hbl hHeld.2.2.2.2.2.2.2.2) hb)).mono ?_; rintro e w3 ⟨rfl, hb3⟩; have kk : Blk w3 w2.heap.size 69 #[.int .i64 0, .int .i64 0] := (Blk.new w2.drew 69 #[.int .i64 0, .int .i64 0]).on hb3; obtain ⟨z0, z1⟩ := kk.cells2; have z2 := kk.frozen 0; have z3 := kk.frozen 1; have kW : Blk ((w3.setCell ⟨w2.heap.size, 0, none⟩ (.int .i64 x)).setCell ⟨w2.heap.size, 1, none⟩ (.int .i64 y)) w2.heap.size 69 #[.int .i64 x, .int .i64 y] := (kk.set_ 0 (.int .i64 x)).set_ 1 (.int .i64 y))) | (go_at_call 39; refine (HF.out _ (HK.out.on (B := w.heap.size) (bel_trans hbl hHeld.2.2.2.2.2.2.2.2) hb)).mono ?_; rintro e w3 ⟨rfl, hb3⟩; have kW := Blk.new w3 69 #[.int .i64 x, .int .i64 y]) | skip)))
        refine hK.out _ _ ?kr1_6 (fun hHeld => ?_)
        case kr1_6 => (try dsimp only); (first | with_reducible assumption | with_reducible exact s8_bel (by (repeat (first | with_reducible (first | assumption | with_reducible exact Below.refl _ _ | refine bel_alloc ?_ _ | refine bel_drew ?_ | refine bel_drewN ?_ _ | refine bel_set ?_ (by first | omega | (simp; done) | (simp; omega)) _ | refine bel_trans ?_ (by assumption)) | assumption | refine bel_trans ?_ (by assumption)))) HS.out | exact s8_bel (by assumption) (by assumption) | assumption | exact s8_alloc (by assumption) _ | exact s8_bel (by (repeat (first | (first | assumption | exact Below.refl _ _ | refine bel_alloc ?_ _ | refine bel_drew ?_ | refine bel_drewN ?_ _ | refine bel_set ?_ (by first | omega | (simp; done) | (simp; omega)) _ | refine bel_trans ?_ (by assumption)) | assumption | refine bel_trans ?_ (by assumption)))) HS.out)
        clear hK K
        try simp only [Act.put, List.setIfInBounds_toArray, List.set_cons_zero, List.set_cons_succ]
        refine tk 7 ?_
        refine tk 8 ?_
        refine tk 9 ?_
        refine wpAnyH_ready (rs := [10]) (by kernel_rfl) (by simp) ?_
        refine AllReadyH.cons (o := ?or1b1_10) ?ir1b1_10 (fun K hK => ?sr1b1_10) AllReadyH.nil
        case ir1b1_10 => (simp only [List.getElem?_toArray, List.getElem?_cons_succ, List.getElem?_cons_zero]; rfl)
        (first | (go_simp; (first | (go_at_call 39; (refine (HF.out _ (HK.out.on (B := w.heap.size) (bel_trans hbl hHeld.2.2.2.2.2.2.2.2) hb)).mono ?_; rintro e w3 ⟨rfl, hb3⟩; have kk : Blk w3 w2.heap.size 69 #[.int .i64 0, .int .i64 0] := (Blk.new w2.drew 69 #[.int .i64 0, .int .i64 0]).on hb3; obtain ⟨z0, z1⟩ := kk.cells2; have z2 := kk.frozen 0; have z3 := kk.frozen 1; have kW : Blk ((w3.setCell ⟨w2.heap.size, 0, none⟩ (.int .i64 x)).setCell ⟨w2.heap.size, 1, none⟩ (.int .i64 y)) w2.heap.size 69 #[.int .i64 x, .int .i64 y] := (kk.set_ 0 (.int .i64 x)).set_ 1 (.int .i64 y))) | (go_at_call 39; refine (HF.out _ (HK.out.on (B := w.heap.size) (bel_trans hbl hHeld.2.2.2.2.2.2.2.2) hb)).mono ?_; rintro e w3 ⟨rfl, hb3⟩; have kW := Blk.new w3 69 #[.int .i64 x, .int .i64 y]) | skip)))
        refine hK.out _ _ ?kr1b1_10 (fun hHeld => ?_)
        case kr1b1_10 => (try dsimp only); (first | with_reducible assumption | with_reducible exact s8_bel (by (repeat (first | with_reducible (first | assumption | with_reducible exact Below.refl _ _ | refine bel_alloc ?_ _ | refine bel_drew ?_ | refine bel_drewN ?_ _ | refine bel_set ?_ (by first | omega | (simp; done) | (simp; omega)) _ | refine bel_trans ?_ (by assumption)) | assumption | refine bel_trans ?_ (by assumption)))) HS.out | exact s8_bel (by assumption) (by assumption) | assumption | exact s8_alloc (by assumption) _ | exact s8_bel (by (repeat (first | (first | assumption | exact Below.refl _ _ | refine bel_alloc ?_ _ | refine bel_drew ?_ | refine bel_drewN ?_ _ | refine bel_set ?_ (by first | omega | (simp; done) | (simp; omega)) _ | refine bel_trans ?_ (by assumption)) | assumption | refine bel_trans ?_ (by assumption)))) HS.out)
        clear hK K
        try simp only [Act.put, List.setIfInBounds_toArray, List.set_cons_zero, List.set_cons_succ]
        refine wpAnyH_ready (rs := [11]) (by kernel_rfl) (by simp) ?_
        refine AllReadyH.cons (o := ?or1b1_11) ?ir1b1_11 (fun K hK => ?sr1b1_11) AllReadyH.nil
        case ir1b1_11 => (simp only [List.getElem?_toArray, List.getElem?_cons_succ, List.getElem?_cons_zero]; rfl)
        (first | (go_simp; (first | (go_at_call 39; (refine (HF.out _ (HK.out.on (B := w.heap.size) (bel_trans hbl hHeld.2.2.2.2.2.2.2.2) hb)).mono ?_; rintro e w3 ⟨rfl, hb3⟩; have kk : Blk w3 w2.heap.size 69 #[.int .i64 0, .int .i64 0] := (Blk.new w2.drew 69 #[.int .i64 0, .int .i64 0]).on hb3; obtain ⟨z0, z1⟩ := kk.cells2; have z2 := kk.frozen 0; have z3 := kk.frozen 1; have kW : Blk ((w3.setCell ⟨w2.heap.size, 0, none⟩ (.int .i64 x)).setCell ⟨w2.heap.size, 1, none⟩ (.int .i64 y)) w2.heap.size 69 #[.int .i64 x, .int .i64 y] := (kk.set_ 0 (.int .i64 x)).set_ 1 (.int .i64 y))) | (go_at_call 39; refine (HF.out _ (HK.out.on (B := w.heap.size) (bel_trans hbl hHeld.2.2.2.2.2.2.2.2) hb)).mono ?_; rintro e w3 ⟨rfl, hb3⟩; have kW := Blk.new w3 69 #[.int .i64 x, .int .i64 y]) | skip)))
        refine hK.out _ _ ?kr1b1_11 (fun hHeld => ?_)
        case kr1b1_11 => (try dsimp only); (first | with_reducible assumption | with_reducible exact s8_bel (by (repeat (first | with_reducible (first | assumption | with_reducible exact Below.refl _ _ | refine bel_alloc ?_ _ | refine bel_drew ?_ | refine bel_drewN ?_ _ | refine bel_set ?_ (by first | omega | (simp; done) | (simp; omega)) _ | refine bel_trans ?_ (by assumption)) | assumption | refine bel_trans ?_ (by assumption)))) HS.out | exact s8_bel (by assumption) (by assumption) | assumption | exact s8_alloc (by assumption) _ | exact s8_bel (by (repeat (first | (first | assumption | exact Below.refl _ _ | refine bel_alloc ?_ _ | refine bel_drew ?_ | refine bel_drewN ?_ _ | refine bel_set ?_ (by first | omega | (simp; done) | (simp; omega)) _ | refine bel_trans ?_ (by assumption)) | assumption | refine bel_trans ?_ (by assumption)))) HS.out)
        clear hK K
        try simp only [Act.put, List.setIfInBounds_toArray, List.set_cons_zero, List.set_cons_succ]
        refine wpAnyH_done (by kernel_rfl) ?_ _
        refine NoPanic.normal ?_
      case' sr1_10 =>
        (first | (go_simp; (first | (go_at_call 39; (refine (HF.out _ (HK.out.on (B := w.heap.size) (bel_trans hbl hHeld.2.2.2.2.2.2.2.2) hb)).mono ?_; rintro e w3 ⟨rfl, hb3⟩; have kk : Blk w3 w2.heap.size 69 #[.int .i64 0, .int .i64 0] := (Blk.new w2.drew 69 #[.int .i64 0, .int .i64 0]).on hb3; obtain ⟨z0, z1⟩ := kk.cells2; have z2 := kk.frozen 0; have z3 := kk.frozen 1; have kW : Blk ((w3.setCell ⟨w2.heap.size, 0, none⟩ (.int .i64 x)).setCell ⟨w2.heap.size, 1, none⟩ (.int .i64 y)) w2.heap.size 69 #[.int .i64 x, .int .i64 y] := (kk.set_ 0 (.int .i64 x)).set_ 1 (.int .i64 y))) | (go_at_call 39; refine (HF.out _ (HK.out.on (B := w.heap.size) (bel_trans hbl hHeld.2.2.2.2.2.2.2.2) hb)).mono ?_; rintro e w3 ⟨rfl, hb3⟩; have kW := Blk.new w3 69 #[.int .i64 x, .int .i64 y]) | skip)))
        refine hK.out _ _ ?kr1_10 (fun hHeld => ?_)
        case kr1_10 => (try dsimp only); (first | with_reducible assumption | with_reducible exact s8_bel (by (repeat (first | with_reducible (first | assumption | with_reducible exact Below.refl _ _ | refine bel_alloc ?_ _ | refine bel_drew ?_ | refine bel_drewN ?_ _ | refine bel_set ?_ (by first | omega | (simp; done) | (simp; omega)) _ | refine bel_trans ?_ (by assumption)) | assumption | refine bel_trans ?_ (by assumption)))) HS.out | exact s8_bel (by assumption) (by assumption) | assumption | exact s8_alloc (by assumption) _ | exact s8_bel (by (repeat (first | (first | assumption | exact Below.refl _ _ | refine bel_alloc ?_ _ | refine bel_drew ?_ | refine bel_drewN ?_ _ | refine bel_set ?_ (by first | omega | (simp; done) | (simp; omega)) _ | refine bel_trans ?_ (by assumption)) | assumption | refine bel_trans ?_ (by assumption)))) HS.out)
        clear hK K
        try simp only [Act.put, List.setIfInBounds_toArray, List.set_cons_zero, List.set_cons_succ]
        refine wpAnyH_ready (rs := [6]) (by kernel_rfl) (by simp) ?_
        refine AllReadyH.cons (o := ?or1b2_6) ?ir1b2_6 (fun K hK => ?sr1b2_6) AllReadyH.nil
        case ir1b2_6 => (simp only [List.getElem?_toArray, List.getElem?_cons_succ, List.getElem?_cons_zero]; rfl)
        (first | (go_simp; (first | (go_at_call 39; (refine (HF.out _ (HK.out.on (B := w.heap.size) (bel_trans hbl hHeld.2.2.2.2.2.2.2.2) hb)).mono ?_; rintro e w3 ⟨rfl, hb3⟩; have kk : Blk w3 w2.heap.size 69 #[.int .i64 0, .int .i64 0] := (Blk.new w2.drew 69 #[.int .i64 0, .int .i64 0]).on hb3; obtain ⟨z0, z1⟩ := kk.cells2; have z2 := kk.frozen 0; have z3 := kk.frozen 1; have kW : Blk ((w3.setCell ⟨w2.heap.size, 0, none⟩ (.int .i64 x)).setCell ⟨w2.heap.size, 1, none⟩ (.int .i64 y)) w2.heap.size 69 #[.int .i64 x, .int .i64 y] := (kk.set_ 0 (.int .i64 x)).set_ 1 (.int .i64 y))) | (go_at_call 39; refine (HF.out _ (HK.out.on (B := w.heap.size) (bel_trans hbl hHeld.2.2.2.2.2.2.2.2) hb)).mono ?_; rintro e w3 ⟨rfl, hb3⟩; have kW := Blk.new w3 69 #[.int .i64 x, .int .i64 y]) | skip)))
        refine hK.out _ _ ?kr1b2_6 (fun hHeld => ?_)
        case kr1b2_6 => (try dsimp only); (first | with_reducible assumption | with_reducible exact s8_bel (by (repeat (first | with_reducible (first | assumption | with_reducible exact Below.refl _ _ | refine bel_alloc ?_ _ | refine bel_drew ?_ | refine bel_drewN ?_ _ | refine bel_set ?_ (by first | omega | (simp; done) | (simp; omega)) _ | refine bel_trans ?_ (by assumption)) | assumption | refine bel_trans ?_ (by assumption)))) HS.out | exact s8_bel (by assumption) (by assumption) | assumption | exact s8_alloc (by assumption) _ | exact s8_bel (by (repeat (first | (first | assumption | exact Below.refl _ _ | refine bel_alloc ?_ _ | refine bel_drew ?_ | refine bel_drewN ?_ _ | refine bel_set ?_ (by first | omega | (simp; done) | (simp; omega)) _ | refine bel_trans ?_ (by assumption)) | assumption | refine bel_trans ?_ (by assumption)))) HS.out)
        clear hK K
        try simp only [Act.put, List.setIfInBounds_toArray, List.set_cons_zero, List.set_cons_succ]
        refine tk 7 ?_
        refine tk 8 ?_
        refine tk 9 ?_
        refine wpAnyH_ready (rs := [11]) (by kernel_rfl) (by simp) ?_
        refine AllReadyH.cons (o := ?or1b2_11) ?ir1b2_11 (fun K hK => ?sr1b2_11) AllReadyH.nil
        case ir1b2_11 => (simp only [List.getElem?_toArray, List.getElem?_cons_succ, List.getElem?_cons_zero]; rfl)
        (first | (go_simp; (first | (go_at_call 39; (refine (HF.out _ (HK.out.on (B := w.heap.size) (bel_trans hbl hHeld.2.2.2.2.2.2.2.2) hb)).mono ?_; rintro e w3 ⟨rfl, hb3⟩; have kk : Blk w3 w2.heap.size 69 #[.int .i64 0, .int .i64 0] := (Blk.new w2.drew 69 #[.int .i64 0, .int .i64 0]).on hb3; obtain ⟨z0, z1⟩ := kk.cells2; have z2 := kk.frozen 0; have z3 := kk.frozen 1; have kW : Blk ((w3.setCell ⟨w2.heap.size, 0, none⟩ (.int .i64 x)).setCell ⟨w2.heap.size, 1, none⟩ (.int .i64 y)) w2.heap.size 69 #[.int .i64 x, .int .i64 y] := (kk.set_ 0 (.int .i64 x)).set_ 1 (.int .i64 y))) | (go_at_call 39; refine (HF.out _ (HK.out.on (B := w.heap.size) (bel_trans hbl hHeld.2.2.2.2.2.2.2.2) hb)).mono ?_; rintro e w3 ⟨rfl, hb3⟩; have kW := Blk.new w3 69 #[.int .i64 x, .int .i64 y]) | skip)))
        refine hK.out _ _ ?kr1b2_11 (fun hHeld => ?_)
        case kr1b2_11 => (try dsimp only); (first | with_reducible assumption | with_reducible exact s8_bel (by (repeat (first | with_reducible (first | assumption | with_reducible exact Below.refl _ _ | refine bel_alloc ?_ _ | refine bel_drew ?_ | refine bel_drewN ?_ _ | refine bel_set ?_ (by first | omega | (simp; done) | (simp; omega)) _ | refine bel_trans ?_ (by assumption)) | assumption | refine bel_trans ?_ (by assumption)))) HS.out | exact s8_bel (by assumption) (by assumption) | assumption | exact s8_alloc (by assumption) _ | exact s8_bel (by (repeat (first | (first | assumption | exact Below.refl _ _ | refine bel_alloc ?_ _ | refine bel_drew ?_ | refine bel_drewN ?_ _ | refine bel_set ?_ (by first | omega | (simp; done) | (simp; omega)) _ | refine bel_trans ?_ (by assumption)) | assumption | refine bel_trans ?_ (by assumption)))) HS.out)
        clear hK K
        try simp only [Act.put, List.setIfInBounds_toArray, List.set_cons_zero, List.set_cons_succ]
        refine wpAnyH_done (by kernel_rfl) ?_ _
        refine NoPanic.normal ?_
      all_goals
        have hz3 := hb3.size
        have hz4 : w2.heap.size ≤ w3.heap.size := by first | exact hz3 | (simp at hz3; omega)
        have hz5 := hbl.size
        clear hz3 HS hS hHeld
        go_wp2_with (at_builtin; go_loud (refine app_byte rfl _ _ 40 rfl w.heap.size 5 Try.underlying40 Try.info_u8w _ _ _ rfl (own_on hown (by (repeat (first | with_reducible (first | assumption | exact Below.refl _ _ | refine bel_alloc ?_ _ | refine bel_drew ?_ | refine bel_drewN ?_ _ | refine bel_set ?_ (by first | omega | (simp; done) | (simp; omega)) _ | refine bel_trans ?_ (by assumption)) | assumption | refine bel_trans ?_ (by assumption))))) (byt y) _ HY.out.symm 1 (by first | with_reducible rfl | simp [Act.eval]) (by omega) (by have := hbl.size; simp; omega) ?_; intro v9 w9 hown9 hb9 hg9; have kP := kW.grown hg9 (fun e => by have := (hown.lt _ e.symm).2; omega); obtain ⟨z4, z5⟩ := kP.cells2))
        go_roundw
        case rel => exact ⟨x, rl ++ [byt y], rfl, HX, by simpa using hown9, HS2q, Below.trans (by (repeat (first | with_reducible (first | assumption | exact Below.refl _ _ | refine bel_alloc ?_ _ | refine bel_drew ?_ | refine bel_drewN ?_ _ | refine bel_set ?_ (by first | omega | (simp; done) | (simp; omega)) _ | refine bel_trans ?_ (by assumption)) | assumption | refine bel_trans ?_ (by assumption)))) hb9⟩
        case measure => simp [intOf]; omega
    · obtain ⟨q0, q1, q2, q3, q4, q5, q6⟩ := hk2
      have hcd : 0 ≤ cd ∧ cd < pow2 k.l := by have := HH.out; unfold HasW at this; omega
      have ey := IntWalk.u8_in cd (by omega)
      have HY := hid (byt_nat hcd.1 (by omega))
      have HR := hid (word_bottom k cd (by unfold Kn.c; omega) rl code HW.out)
      go_wp2_with fail
      refine (HF.out _ (HK.out.on hbl hb)).mono ?_
      rintro e w2 ⟨rfl, hb2⟩
      have hz2 := hb2.size
      go_wp2_with (at_builtin; refine app_byte rfl _ _ 40 rfl w.heap.size 5 Try.underlying40 Try.info_u8w _ _ _ rfl (own_on hown (by (repeat (first | with_reducible (first | assumption | exact Below.refl _ _ | refine bel_alloc ?_ _ | refine bel_drew ?_ | refine bel_drewN ?_ _ | refine bel_set ?_ (by first | omega | (simp; done) | (simp; omega)) _ | refine bel_trans ?_ (by assumption)) | assumption | refine bel_trans ?_ (by assumption))))) (byt cd) _ HY.out.symm 1 rfl (by omega) (by have := hbl.size; omega) ?_; intro v9 w9 hown9 hb9 hg9)
      obtain ⟨g9, c9, hv9, hg1, hg2⟩ := own_form hown9 (by omega)
      subst hv9
      have hB9 : Below w.heap.size w w9 := Below.trans (by (repeat (first | with_reducible (first | assumption | exact Below.refl _ _ | refine bel_alloc ?_ _ | refine bel_drew ?_ | refine bel_drewN ?_ _ | refine bel_set ?_ (by first | omega | (simp; done) | (simp; omega)) _ | refine bel_trans ?_ (by assumption)) | assumption | refine bel_trans ?_ (by assumption)))) hb9
      clear hb9 hg9
      refine (c_Reverse w.heap.size _ _ _ (rl ++ [byt cd]) _ hown9 (by omega)).mono ?_
      rintro e w10 ⟨rfl, hown10, hg10⟩
      have hB10 : Below w.heap.size w9 w10 := below_of_grown hg10 (by omega) (by rintro g' e; simp at e; omega)
      rw [← HR.out] at hown10
      have hcv := run_own_str (P := Try.prog) Try.underlying40 Try.underlying5 Try.underlying9 hown10
      clear hown9 hg10
      go_wp2
      go_ret
      exact ⟨rfl, Below.trans hB9 hB10⟩
end

section
open Go.ChangeShapes Go.WideShapes Go.ChangeAt Go.RowKit Go.Joins
set_option linter.unusedVariables false

theorem str_take (l : List UInt8) (n : Nat) (T : ByteArray) (hT : T = str l) : T.extract 0 n = str (l.take n) := by
  subst hT
  apply ByteArray.ext
  apply Array.ext'
  simp [str]
theorem c_word (b : Nat) (k : Kn) (A : Option Addr) (cap L : Nat) (w : World) (h : k.Ok) (hk : KAt w b k (.slice A k.ps.length cap)) (hps : PsAt w L A cap k.ps) (hL : L ≤ w.heap.size) (code : Int) (hc : k.Fol code) :
    Calls Try.prog 41 #[.pointer (some ⟨b, 0, none⟩), .int .i64 code] w fun e w' => e = .returned (.string (str (k.any code))) ∧ Below w.heap.size w w' := by
  rcases hc with hc | ⟨hg, rfl⟩
  · rw [Kn.any_has hc]
    exact c_word_has b k A cap L w h hk hps hL code hc
  · have hlw := h.lastW hg
    have hlen := h.len
    obtain ⟨T, hT⟩ : ∃ T, T = str (k.word k.last) := ⟨_, rfl⟩
    have hTl := word_len _ _ h.pairs _ hlw
    have hTn := word_ne _ _ h.pairs _ hlw
    have hT1 : 1 ≤ T.size := by rw [hT, str_size]; have := List.length_pos_iff.2 hTn; unfold Kn.word; omega
    have hT2 : T.size ≤ 1021 := by rw [hT, str_size]; unfold Kn.word; omega
    have HA := hid (show str (k.any k.next) = T ++ T.extract 0 1 by rw [Kn.any_next, ← str_append, str_take _ 1 T hT, hT])
    have HN := hid (fun (v : World) (hv : KAt v b k (.slice A k.ps.length cap)) => c_nextWord b k A cap v h hv)
    have HW := hid (fun (v : World) (hv : KAt v b k (.slice A k.ps.length cap)) (hb : Below w.heap.size w v) => c_word_has b k A cap L v h hv (hps.below hb hL) (Nat.le_trans hL hb.size) k.last hlw)
    rw [← hT] at HW
    have HK := hid hk
    have hb := hk.1
    clear hT hTl hTn hlw hk hps
    go_enter Try.func41, Try.ntmps41
    go_wp2_with fail
    refine (HN.out _ HK.out).mono ?_
    rintro e w1 ⟨rfl, hb1⟩
    have hk1 := HK.out.on hb1 hb
    obtain ⟨q0, q1, q2, q3, q4, q5, q6⟩ := hk1
    go_wp2_with fail
    refine (HW.out _ (HK.out.on hb1 hb) hb1).mono ?_
    rintro e w2 ⟨rfl, hb2⟩
    go_wp2
    go_ret
    exact ⟨ret_str HA.out.symm, by (repeat (first | with_reducible (first | assumption | exact Below.refl _ _ | refine bel_alloc ?_ _ | refine bel_drew ?_ | refine bel_drewN ?_ _ | refine bel_set ?_ (by first | omega | (simp; done) | (simp; omega)) _ | refine bel_trans ?_ (by assumption)) | assumption | refine bel_trans ?_ (by assumption)))⟩
end
end Go.Proofs.Ytgaihfmopenfeaa
