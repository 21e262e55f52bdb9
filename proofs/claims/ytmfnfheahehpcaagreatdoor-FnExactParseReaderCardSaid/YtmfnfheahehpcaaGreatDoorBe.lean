/- The law's argument 'what is known', opened: its numbers, and where its pairs lie. No condition. The walk of FnExactKnownValid: its Go text returns true, and writes nothing that was there. Contracts of the next code, of what grows, of the greatest code and its width, in both programs. No condition but that what is known is valid. Contracts of NextWord, Grows, Greatest, Width in both programs. No condition but that the numbers are int's. The contract of the library's slices.Reverse at bytes that the caller owns. No condition. Contracts of the words of codes in both programs. No condition but that what is known is valid. Contracts of the words of codes that can follow, in the program. No condition but that what is known is valid. -/
import Derived.Test.YtmfnfheahehpcaaGreatDoorChecked
import Derived.Test.YtmfnfheahehpcaaGreatDoorBb
import Derived.Test.YtmfnfheahehpcaaGreatDoorBd
import Derived.Deep.SlicePairs
import Derived.Test.YtmfnfheahehpcaaGreatDoorBa
namespace Go.Proofs.YtmfnfheahehpcaaGreatDoor
section
open Go.ChangeShapes Go.WideShapes Go.ChangeAt Go.RowKit Go.Joins Go.Deep
set_option linter.unusedVariables false

theorem array_six {α : Type} {cs : Array α} (h : cs.size = 6) : ∃ a b c d e f, cs = #[a, b, c, d, e, f] := by
  obtain ⟨l⟩ := cs
  simp at h
  match l, h with
  | [a, b, c, d, e, f], _ => exact ⟨a, b, c, d, e, f, rfl⟩

theorem agg_six {P : Program} {w : World} {r : Reach} {b0 : Nat} {t : TypeId} {fs : Array Field} {v : Value} (hs : P.underlying t = some (.struct fs)) (hC : P.cellsOf t = 6) (hv : Value.okWide P w r b0 t v) : ∃ a b c d e f, v = .agg #[a, b, c, d, e, f] := by
  obtain ⟨cs, rfl, hsz⟩ := okWide_struct hs hv
  obtain ⟨c0, c1, c2, c3, c4, c5, rfl⟩ := array_six (hsz.trans hC)
  exact ⟨_, _, _, _, _, _, rfl⟩

/-- the law's argument, a value of its own type -/
structure Kn.In (k : Kn) : Prop where
  pairs : PsB k.ps
  base : -9223372036854775808 ≤ k.base ∧ k.base ≤ 9223372036854775807
  last : -9223372036854775808 ≤ k.last ∧ k.last ≤ 9223372036854775807
end

section
open Go.ChangeShapes Go.WideShapes Go.ChangeAt Go.RowKit Go.Joins
set_option linter.unusedVariables false

theorem Kn.In.wf {k : Kn} (h : k.In) (hn : k.ps.length ≤ 1048576) : k.Wf := ⟨h.pairs, h.base, h.last, hn⟩
/-- an own slice of pairs, read -/
theorem own_at {w : World} {B : Nat} {e : TypeId} {g n cap : Nat} {ps : List Pr} (h : w.ownsRow B e 2 (.slice (some ⟨g, 0, none⟩) n cap) n (prs ps)) : PsAt w w.heap.size (some ⟨g, 0, none⟩) cap ps := by
  obtain ⟨A, c, e1, hp, e2, _⟩ := own_ps h
  simp at e1
  obtain ⟨rfl, _, rfl⟩ := e1
  exact hp

theorem held12 {v0 v : World} {a0 a1 a2 a3 a4 a5 b0 b1 b2 b3 b4 b5 : Addr} {x0 x1 x2 x3 x4 x5 y0 y1 y2 y3 y4 y5 : Value} (h : v.cell? a0 = some x0 ∧ v.cell? a1 = some x1 ∧ v.cell? a2 = some x2 ∧ v.cell? a3 = some x3 ∧ v.cell? a4 = some x4 ∧ v.cell? a5 = some x5) (k : v.cell? b0 = some y0 ∧ v.cell? b1 = some y1 ∧ v.cell? b2 = some y2 ∧ v.cell? b3 = some y3 ∧ v.cell? b4 = some y4 ∧ v.cell? b5 = some y5) (hb : Below v0.heap.size v0 v) :
    v.cell? a0 = some x0 ∧ v.cell? a1 = some x1 ∧ v.cell? a2 = some x2 ∧ v.cell? a3 = some x3 ∧ v.cell? a4 = some x4 ∧ v.cell? a5 = some x5 ∧ v.cell? b0 = some y0 ∧ v.cell? b1 = some y1 ∧ v.cell? b2 = some y2 ∧ v.cell? b3 = some y3 ∧ v.cell? b4 = some y4 ∧ v.cell? b5 = some y5 ∧ Below v0.heap.size v0 v := by
  obtain ⟨h0, h1, h2, h3, h4, h5⟩ := h
  obtain ⟨k0, k1, k2, k3, k4, k5⟩ := k
  exact ⟨h0, h1, h2, h3, h4, h5, k0, k1, k2, k3, k4, k5, hb⟩
end

section
open Go.ChangeShapes Go.WideShapes Go.ChangeAt Go.RowKit Go.Joins
set_option linter.unusedVariables false

theorem next_eq (k : Kn) : k.next = pow2 k.l + 2 + k.ps.length := rfl
theorem next_bd {k : Kn} (h : k.Ok) : 4 ≤ k.next ∧ k.next ≤ 1024 := by have := h.next_le; have := h.cbd; rw [next_eq]; have := h.cbd; unfold Kn.c at *; unfold Kn.next Kn.c at *; omega

theorem c_l2Next (k : Kn) (A : Option Addr) (cap : Nat) (w : World) (h : k.Ok) : Calls Tryz.prog 89 #[.agg #[.int .i64 k.o, .int .i64 k.l, .int .i64 k.m, .slice A k.ps.length cap, .int .i64 k.base, .int .i64 k.last]] w fun e w' => e = .returned (.int .i64 k.next) ∧ Below w.heap.size w w' := by
  have hp := set_bd h.set
  obtain ⟨_, ⟨hl1, hl2⟩, hm1, hm2⟩ := setOk_iff.1 h.set
  have hlen := h.len
  have HS := hid ((Blk.new w 27 #[.int .i64 k.o, .int .i64 k.l, .int .i64 k.m, .slice A k.ps.length cap, .int .i64 k.base, .int .i64 k.last]).kat.held (bel_alloc (Below.refl _ w) (.cells #[.int .i64 k.o, .int .i64 k.l, .int .i64 k.m, .slice A k.ps.length cap, .int .i64 k.base, .int .i64 k.last] 27)))
  have HE := hid (fun (v : World) => c_l1End k.o k.l k.m v (by omega) (by omega))
  have ew1 : IntKind.i64.wrap (pow2 k.l + 1 + 1) = pow2 k.l + 1 + 1 := IntWalk.i64_in _ (by omega)
  have ew2 : IntKind.i64.wrap (pow2 k.l + 1 + 1 + (k.ps.length : Int)) = pow2 k.l + 1 + 1 + (k.ps.length : Int) := IntWalk.i64_in _ (by omega)
  go_enter Tryz.func89, Tryz.ntmps89
  go_wp2_with fail
  have hS := HS.out
  refine wp_region_noPanic ?_
  refine wp_region_held_drew (S := (fun v => v.cell? ⟨w.heap.size, 0, none⟩ = some (.int .i64 k.o) ∧ v.cell? ⟨w.heap.size, 1, none⟩ = some (.int .i64 k.l) ∧ v.cell? ⟨w.heap.size, 2, none⟩ = some (.int .i64 k.m) ∧ v.cell? ⟨w.heap.size, 3, none⟩ = some (.slice A k.ps.length cap) ∧ v.cell? ⟨w.heap.size, 4, none⟩ = some (.int .i64 k.base) ∧ v.cell? ⟨w.heap.size, 5, none⟩ = some (.int .i64 k.last) ∧ Below w.heap.size w v)) (by kernel_rfl) (s6_drew hS) (fun hHeld => ?_)
  refine tk 0 ?_
  refine tk 1 ?_
  refine tk 4 ?_
  refine tk 5 ?_
  refine tk 6 ?_
  refine wpAnyH_ready (rs := [2]) (by kernel_rfl) (by simp) ?_
  refine AllReadyH.cons (o := ?or1_2) ?ir1_2 (fun K hK => ?sr1_2) AllReadyH.nil
  case ir1_2 => (simp only [List.getElem?_toArray, List.getElem?_cons_succ, List.getElem?_cons_zero]; rfl)
  (first | (go_simp; (first | (go_at_call 64; refine (HE.out _).mono ?_; rintro e w1 ⟨rfl, hb1⟩) | skip)))
  refine hK.out _ _ ?kr1_2 (fun hHeld => ?_)
  case kr1_2 => (try dsimp only); (first | with_reducible assumption | exact s6_bel (by assumption) (by assumption) | assumption | exact s6_alloc (by assumption) _)
  clear hK K
  try simp only [Act.put, List.setIfInBounds_toArray, List.set_cons_zero, List.set_cons_succ]
  refine tk 3 ?_
  refine tk 7 ?_
  refine tk 8 ?_
  refine wpAnyH_done (by kernel_rfl) ?_ _
  refine NoPanic.normal ?_
  go_wp2
  go_ret
  exact ⟨ret_int (by rw [next_eq]; omega), by exact obB⟩

theorem c_l2Grows (k : Kn) (A : Option Addr) (cap : Nat) (w : World) (h : k.Ok) : Calls Tryz.prog 105 #[.agg #[.int .i64 k.o, .int .i64 k.l, .int .i64 k.m, .slice A k.ps.length cap, .int .i64 k.base, .int .i64 k.last]] w fun e w' => e = .returned (.bool k.grows) ∧ Below w.heap.size w w' := by
  have hp := set_bd h.set
  obtain ⟨_, ⟨hl1, hl2⟩, hm1, hm2⟩ := setOk_iff.1 h.set
  have hlen := h.len
  have HS := hid ((Blk.new w 27 #[.int .i64 k.o, .int .i64 k.l, .int .i64 k.m, .slice A k.ps.length cap, .int .i64 k.base, .int .i64 k.last]).kat.held (bel_alloc (Below.refl _ w) (.cells #[.int .i64 k.o, .int .i64 k.l, .int .i64 k.m, .slice A k.ps.length cap, .int .i64 k.base, .int .i64 k.last] 27)))
  have HN := hid (fun (v : World) => c_l2Next k A cap v h)
  have HL := hid (fun (v : World) => c_l1Last k.o k.l k.m v (by omega) (by omega))
  have hlb := h.lastBd
  have hnb := next_bd h
  generalize hnx : k.next = nx at hnb
  rw [hnx] at HN
  by_cases h1 : 0 ≤ k.last
  · have h2 : decide (0 ≤ k.last) = true := by simp [h1]
    have HG := hid (show k.grows = decide (nx ≤ pow2 k.m - 1) by rw [← hnx]; simp [Kn.grows, h1, Kn.lc])
    clear hnx hlb
    go_enter Tryz.func105, Tryz.ntmps105
    go_wp2_with fail
    have hS := HS.out
    refine wp_region_noPanic ?_
    refine wp_region_held_drew (S := (fun v => v.cell? ⟨w.heap.size, 0, none⟩ = some (.int .i64 k.o) ∧ v.cell? ⟨w.heap.size, 1, none⟩ = some (.int .i64 k.l) ∧ v.cell? ⟨w.heap.size, 2, none⟩ = some (.int .i64 k.m) ∧ v.cell? ⟨w.heap.size, 3, none⟩ = some (.slice A k.ps.length cap) ∧ v.cell? ⟨w.heap.size, 4, none⟩ = some (.int .i64 k.base) ∧ v.cell? ⟨w.heap.size, 5, none⟩ = some (.int .i64 k.last) ∧ Below w.heap.size w v)) (by kernel_rfl) (s6_drew hS) (fun hHeld => ?_)
    refine tk 0 ?_
    refine tk 1 ?_
    refine tk 2 ?_
    refine tk 3 ?_
    refine tk 4 ?_
    refine tk 6 ?_
    refine tk 7 ?_
    refine wpAnyH_ready (rs := [5]) (by kernel_rfl) (by simp) ?_
    refine AllReadyH.cons (o := ?or2_5) ?ir2_5 (fun K hK => ?sr2_5) AllReadyH.nil
    case ir2_5 => (simp only [List.getElem?_toArray, List.getElem?_cons_succ, List.getElem?_cons_zero]; rfl)
    (first | (go_simp; (first | (go_at_call 89; refine (HN.out _).mono ?_; rintro e w1 ⟨rfl, hb1⟩) | (go_at_call 63; refine (HL.out _).mono ?_; rintro e w1 ⟨rfl, hb1⟩) | skip)))
    refine hK.out _ _ ?kr2_5 (fun hHeld => ?_)
    case kr2_5 => (try dsimp only); (first | with_reducible assumption | exact s6_bel (by assumption) (by assumption) | assumption | exact s6_alloc (by assumption) _)
    clear hK K
    try simp only [Act.put, List.setIfInBounds_toArray, List.set_cons_zero, List.set_cons_succ]
    refine wpAnyH_ready (rs := [8]) (by kernel_rfl) (by simp) ?_
    refine AllReadyH.cons (o := ?or2_8) ?ir2_8 (fun K hK => ?sr2_8) AllReadyH.nil
    case ir2_8 => (simp only [List.getElem?_toArray, List.getElem?_cons_succ, List.getElem?_cons_zero]; rfl)
    (first | (go_simp; (first | (go_at_call 89; refine (HN.out _).mono ?_; rintro e w1 ⟨rfl, hb1⟩) | (go_at_call 63; refine (HL.out _).mono ?_; rintro e w1 ⟨rfl, hb1⟩) | skip)))
    refine hK.out _ _ ?kr2_8 (fun hHeld => ?_)
    case kr2_8 => (try dsimp only); (first | with_reducible assumption | exact s6_bel (by assumption) (by assumption) | assumption | exact s6_alloc (by assumption) _)
    clear hK K
    try simp only [Act.put, List.setIfInBounds_toArray, List.set_cons_zero, List.set_cons_succ]
    refine tk 9 ?_
    refine tk 10 ?_
    refine tk 11 ?_
    refine wpAnyH_done (by kernel_rfl) ?_ _
    refine NoPanic.normal ?_
    all_goals
      go_wp2
      go_ret
      exact ⟨ret_bool HG.out.symm, by exact obB⟩
  · have h2 : decide (0 ≤ k.last) = false := by simp; omega
    have HG := hid (show k.grows = false by simp [Kn.grows]; omega)
    clear hnx hlb
    go_enter Tryz.func105, Tryz.ntmps105
    go_wp2_with fail
    have hS := HS.out
    refine wp_region_noPanic ?_
    refine wp_region_held_drew (S := (fun v => v.cell? ⟨w.heap.size, 0, none⟩ = some (.int .i64 k.o) ∧ v.cell? ⟨w.heap.size, 1, none⟩ = some (.int .i64 k.l) ∧ v.cell? ⟨w.heap.size, 2, none⟩ = some (.int .i64 k.m) ∧ v.cell? ⟨w.heap.size, 3, none⟩ = some (.slice A k.ps.length cap) ∧ v.cell? ⟨w.heap.size, 4, none⟩ = some (.int .i64 k.base) ∧ v.cell? ⟨w.heap.size, 5, none⟩ = some (.int .i64 k.last) ∧ Below w.heap.size w v)) (by kernel_rfl) (s6_drew hS) (fun hHeld => ?_)
    refine tk 0 ?_
    refine tk 1 ?_
    refine tk 2 ?_
    refine tk 3 ?_
    refine tu 4 ?_
    refine tu 5 ?_
    refine tu 6 ?_
    refine tu 7 ?_
    refine tu 8 ?_
    refine tu 9 ?_
    refine tk 10 ?_
    refine tk 11 ?_
    refine wpAnyH_done (by kernel_rfl) ?_ _
    refine NoPanic.normal ?_
    go_wp2
    go_ret
    exact ⟨ret_bool HG.out.symm, by exact obB⟩

theorem c_l2Greatest (k : Kn) (A : Option Addr) (cap : Nat) (w : World) (h : k.Ok) : Calls Tryz.prog 126 #[.agg #[.int .i64 k.o, .int .i64 k.l, .int .i64 k.m, .slice A k.ps.length cap, .int .i64 k.base, .int .i64 k.last]] w fun e w' => e = .returned (.int .i64 k.great) ∧ Below w.heap.size w w' := by
  have HN := hid (fun (v : World) => c_l2Next k A cap v h)
  have HG := hid (fun (v : World) => c_l2Grows k A cap v h)
  have hnb := next_bd h
  generalize hnx : k.next = nx at hnb
  rw [hnx] at HN
  cases hg : k.grows with
  | true =>
    rw [hg] at HG
    have HR := hid (show k.great = nx by rw [← hnx]; simp [Kn.great, hg])
    clear hnx hg
    go_enter Tryz.func126, Tryz.ntmps126
    go_wp2_with fail
    refine (HG.out _).mono ?_
    rintro e w1 ⟨rfl, hb1⟩
    have hc1 := bcell hb1
    have hz1_0 : w.heap.size < w1.heap.size := (by have := hb1.size; first | omega | (simp at this; omega))
    go_wp2_with fail
    refine (HN.out _).mono ?_
    rintro e w2 ⟨rfl, hb2⟩
    have hc2 := bcell hb2
    have hz2_0 : w.heap.size < w2.heap.size := (by have := hb2.size; first | omega | (simp at this; omega))
    go_wp2
    go_ret
    exact ⟨ret_int HR.out.symm, by exact obB⟩
  | false =>
    rw [hg] at HG
    have HR := hid (show k.great = nx - 1 by rw [← hnx]; simp [Kn.great, hg])
    clear hnx hg
    go_enter Tryz.func126, Tryz.ntmps126
    go_wp2_with fail
    refine (HG.out _).mono ?_
    rintro e w1 ⟨rfl, hb1⟩
    have hc1 := bcell hb1
    have hz1_0 : w.heap.size < w1.heap.size := (by have := hb1.size; first | omega | (simp at this; omega))
    go_wp2_with fail
    refine (HN.out _).mono ?_
    rintro e w2 ⟨rfl, hb2⟩
    have hc2 := bcell hb2
    have hz2_0 : w.heap.size < w2.heap.size := (by have := hb2.size; first | omega | (simp at this; omega))
    go_wp2
    go_ret
    exact ⟨ret_int HR.out.symm, by exact obB⟩

theorem c_l2Width (k : Kn) (A : Option Addr) (cap : Nat) (w : World) (h : k.Ok) : Calls Tryz.prog 108 #[.agg #[.int .i64 k.o, .int .i64 k.l, .int .i64 k.m, .slice A k.ps.length cap, .int .i64 k.base, .int .i64 k.last]] w fun e w' => e = .returned (.int .i64 k.width) ∧ Below w.heap.size w w' := by
  have hp := set_bd h.set
  obtain ⟨_, ⟨hl1, hl2⟩, hm1, hm2⟩ := setOk_iff.1 h.set
  have hlen := h.len
  have HS := hid ((Blk.new w 27 #[.int .i64 k.o, .int .i64 k.l, .int .i64 k.m, .slice A k.ps.length cap, .int .i64 k.base, .int .i64 k.last]).kat.held (bel_alloc (Below.refl _ w) (.cells #[.int .i64 k.o, .int .i64 k.l, .int .i64 k.m, .slice A k.ps.length cap, .int .i64 k.base, .int .i64 k.last] 27)))
  have hgb := h.great_bd
  have hcb := h.cbd
  have HG := hid (fun (v : World) => c_l2Greatest k A cap v h)
  have HD := hid (fun (v : World) => c_l1Needed k.great v (by omega) (by omega))
  have ew : IntKind.i64.wrap (k.l + 1) = k.l + 1 := IntWalk.i64_in _ (by omega)
  have HR := hid (show k.width = max (k.l + 1) (nd k.great.toNat : Int) from rfl)
  generalize k.great = gr at HG HD HR
  clear hgb hcb
  go_enter Tryz.func108, Tryz.ntmps108
  go_wp2_with fail
  have hS := HS.out
  refine wp_region_noPanic ?_
  refine wp_region_held_drew (S := (fun v => v.cell? ⟨w.heap.size, 0, none⟩ = some (.int .i64 k.o) ∧ v.cell? ⟨w.heap.size, 1, none⟩ = some (.int .i64 k.l) ∧ v.cell? ⟨w.heap.size, 2, none⟩ = some (.int .i64 k.m) ∧ v.cell? ⟨w.heap.size, 3, none⟩ = some (.slice A k.ps.length cap) ∧ v.cell? ⟨w.heap.size, 4, none⟩ = some (.int .i64 k.base) ∧ v.cell? ⟨w.heap.size, 5, none⟩ = some (.int .i64 k.last) ∧ Below w.heap.size w v)) (by kernel_rfl) (s6_drew hS) (fun hHeld => ?_)
  refine tk 0 ?_
  refine tk 1 ?_
  refine tk 2 ?_
  refine tk 3 ?_
  refine tk 4 ?_
  refine wpAnyH_ready (rs := [5]) (by kernel_rfl) (by simp) ?_
  refine AllReadyH.cons (o := ?or4_5) ?ir4_5 (fun K hK => ?sr4_5) AllReadyH.nil
  case ir4_5 => (simp only [List.getElem?_toArray, List.getElem?_cons_succ, List.getElem?_cons_zero]; rfl)
  (first | (go_simp; (first | (go_at_call 126; refine (HG.out _).mono ?_; rintro e w1 ⟨rfl, hb1⟩) | (go_at_call 125; refine (HD.out _).mono ?_; rintro e w1 ⟨rfl, rfl⟩) | skip)))
  refine hK.out _ _ ?kr4_5 (fun hHeld => ?_)
  case kr4_5 => (try dsimp only); (first | with_reducible assumption | exact s6_bel (by assumption) (by assumption) | assumption | exact s6_alloc (by assumption) _)
  clear hK K
  try simp only [Act.put, List.setIfInBounds_toArray, List.set_cons_zero, List.set_cons_succ]
  refine wpAnyH_ready (rs := [6]) (by kernel_rfl) (by simp) ?_
  refine AllReadyH.cons (o := ?or4_6) ?ir4_6 (fun K hK => ?sr4_6) AllReadyH.nil
  case ir4_6 => (simp only [List.getElem?_toArray, List.getElem?_cons_succ, List.getElem?_cons_zero]; rfl)
  (first | (go_simp; (first | (go_at_call 126; refine (HG.out _).mono ?_; rintro e w1 ⟨rfl, hb1⟩) | (go_at_call 125; refine (HD.out _).mono ?_; rintro e w1 ⟨rfl, rfl⟩) | skip)))
  refine hK.out _ _ ?kr4_6 (fun hHeld => ?_)
  case kr4_6 => (try dsimp only); (first | with_reducible assumption | exact s6_bel (by assumption) (by assumption) | assumption | exact s6_alloc (by assumption) _)
  clear hK K
  try simp only [Act.put, List.setIfInBounds_toArray, List.set_cons_zero, List.set_cons_succ]
  refine tk 7 ?_
  refine tk 8 ?_
  refine wpAnyH_done (by kernel_rfl) ?_ _
  refine NoPanic.normal ?_
  go_wp2
  go_ret
  exact ⟨ret_int (by rw [HR.out]), by exact obB⟩

theorem c_firstWord (b : Nat) (k : Kn) (A : Option Addr) (cap : Nat) (w : World) (h : k.Ok) (hk : KAt w b k (.slice A k.ps.length cap)) : Calls Tryz.prog 150 #[.pointer (some ⟨b, 0, none⟩)] w fun e w' => e = .returned (.int .i64 (pow2 k.l + 2)) ∧ Below w.heap.size w w' := by
  have hp := set_bd h.set
  obtain ⟨_, ⟨hl1, hl2⟩, hm1, hm2⟩ := setOk_iff.1 h.set
  have hlen := h.len
  have HS := hid (hk.held (Below.refl _ w))
  obtain ⟨hb, q0, q1, q2, q3, q4, q5⟩ := hk
  have HE := hid (fun (v : World) => c_EndCode_yes k.o k.l k.m v h.set)
  clear HS
  go_enter Tryz.func150, Tryz.ntmps150
  go_wp2_with fail
  refine (HE.out _).mono ?_
  rintro e w1 ⟨rfl, hb1⟩
  have hc1 := bcell hb1
  go_wp2
  go_ret
  exact ⟨ret_int (by omega), by exact obB⟩

theorem c_nextWord (b : Nat) (k : Kn) (A : Option Addr) (cap : Nat) (w : World) (h : k.Ok) (hk : KAt w b k (.slice A k.ps.length cap)) : Calls Tryz.prog 143 #[.pointer (some ⟨b, 0, none⟩)] w fun e w' => e = .returned (.int .i64 k.next) ∧ Below w.heap.size w w' := by
  have HF := hid (fun (v : World) (hv : KAt v b k (.slice A k.ps.length cap)) => c_firstWord b k A cap v h hv)
  have hp := set_bd h.set
  obtain ⟨_, ⟨hl1, hl2⟩, hm1, hm2⟩ := setOk_iff.1 h.set
  have hlen := h.len
  have HS := hid (hk.held (Below.refl _ w))
  obtain ⟨hb, q0, q1, q2, q3, q4, q5⟩ := hk
  have ew : IntKind.i64.wrap (pow2 k.l + 2 + (k.ps.length : Int)) = pow2 k.l + 2 + (k.ps.length : Int) := IntWalk.i64_in _ (by omega)
  have hb0 := Below.refl w.heap.size w
  go_enter Tryz.func143, Tryz.ntmps143
  go_wp2_with fail
  have hS := HS.out
  refine wp_region_noPanic ?_
  refine wp_region_held_drew (S := (fun v => v.cell? ⟨b, 0, none⟩ = some (.int .i64 k.o) ∧ v.cell? ⟨b, 1, none⟩ = some (.int .i64 k.l) ∧ v.cell? ⟨b, 2, none⟩ = some (.int .i64 k.m) ∧ v.cell? ⟨b, 3, none⟩ = some (.slice A k.ps.length cap) ∧ v.cell? ⟨b, 4, none⟩ = some (.int .i64 k.base) ∧ v.cell? ⟨b, 5, none⟩ = some (.int .i64 k.last) ∧ Below w.heap.size w v)) (by kernel_rfl) (s6_drew hS) (fun hHeld => ?_)
  refine tk 0 ?_
  refine tk 2 ?_
  refine tk 3 ?_
  refine tk 4 ?_
  refine tk 5 ?_
  refine tk 6 ?_
  refine wpAnyH_ready (rs := [1]) (by kernel_rfl) (by simp) ?_
  refine AllReadyH.cons (o := ?or5_1) ?ir5_1 (fun K hK => ?sr5_1) AllReadyH.nil
  case ir5_1 => (simp only [List.getElem?_toArray, List.getElem?_cons_succ, List.getElem?_cons_zero]; rfl)
  (first | (go_simp; (first | (go_at_call 150; refine (HF.out _ (kat6 hHeld).1).mono ?_; rintro e w1 ⟨rfl, hb1⟩) | skip)))
  refine hK.out _ _ ?kr5_1 (fun hHeld => ?_)
  case kr5_1 => (try dsimp only); (first | with_reducible assumption | exact s6_bel (by assumption) (by assumption) | assumption | exact s6_alloc (by assumption) _)
  clear hK K
  try simp only [Act.put, List.setIfInBounds_toArray, List.set_cons_zero, List.set_cons_succ]
  refine tk 7 ?_
  refine tk 8 ?_
  refine wpAnyH_done (by kernel_rfl) ?_ _
  refine NoPanic.normal ?_
  go_wp2
  go_ret
  exact ⟨rfl, by exact obB⟩

theorem c_full (b : Nat) (k : Kn) (A : Option Addr) (cap : Nat) (w : World) (h : k.Ok) (hk : KAt w b k (.slice A k.ps.length cap)) : Calls Tryz.prog 149 #[.pointer (some ⟨b, 0, none⟩)] w fun e w' => e = .returned (.bool (decide (pow2 k.m - 1 < k.next))) ∧ Below w.heap.size w w' := by
  have HN := hid (fun (v : World) (hv : KAt v b k (.slice A k.ps.length cap)) => c_nextWord b k A cap v h hv)
  have HC := hid (fun (v : World) => c_LastCode_yes k.o k.l k.m v h.set)
  have hp := set_bd h.set
  obtain ⟨_, ⟨hl1, hl2⟩, hm1, hm2⟩ := setOk_iff.1 h.set
  have hlen := h.len
  have HS := hid (hk.held (Below.refl _ w))
  have HK := hid hk
  obtain ⟨hb, q0, q1, q2, q3, q4, q5⟩ := hk
  have hb0 := Below.refl w.heap.size w
  go_enter Tryz.func149, Tryz.ntmps149
  go_wp2_with fail
  have hS := HS.out
  refine wp_region_noPanic ?_
  refine wp_region_held_drew (S := (fun v => v.cell? ⟨b, 0, none⟩ = some (.int .i64 k.o) ∧ v.cell? ⟨b, 1, none⟩ = some (.int .i64 k.l) ∧ v.cell? ⟨b, 2, none⟩ = some (.int .i64 k.m) ∧ v.cell? ⟨b, 3, none⟩ = some (.slice A k.ps.length cap) ∧ v.cell? ⟨b, 4, none⟩ = some (.int .i64 k.base) ∧ v.cell? ⟨b, 5, none⟩ = some (.int .i64 k.last) ∧ Below w.heap.size w v)) (by kernel_rfl) (s6_drew hS) (fun hHeld => ?_)
  refine tk 0 ?_
  refine tk 2 ?_
  refine tk 3 ?_
  refine tk 4 ?_
  refine tk 5 ?_
  refine wpAnyH_ready (rs := [1]) (by kernel_rfl) (by simp) ?_
  refine AllReadyH.cons (o := ?or6_1) ?ir6_1 (fun K hK => ?sr6_1) AllReadyH.nil
  case ir6_1 => (simp only [List.getElem?_toArray, List.getElem?_cons_succ, List.getElem?_cons_zero]; rfl)
  (first | (go_simp; (first | (go_at_call 143; refine (HN.out _ (kat6 hHeld).1).mono ?_; rintro e w1 ⟨rfl, hb1⟩) | (go_at_call 33; refine (HC.out _).mono ?_; rintro e w1 ⟨rfl, hb1⟩) | skip)))
  refine hK.out _ _ ?kr6_1 (fun hHeld => ?_)
  case kr6_1 => (try dsimp only); (first | with_reducible assumption | exact s6_bel (by assumption) (by assumption) | assumption | exact s6_alloc (by assumption) _)
  clear hK K
  try simp only [Act.put, List.setIfInBounds_toArray, List.set_cons_zero, List.set_cons_succ]
  refine wpAnyH_ready (rs := [6]) (by kernel_rfl) (by simp) ?_
  refine AllReadyH.cons (o := ?or6_6) ?ir6_6 (fun K hK => ?sr6_6) AllReadyH.nil
  case ir6_6 => (simp only [List.getElem?_toArray, List.getElem?_cons_succ, List.getElem?_cons_zero]; rfl)
  (first | (go_simp; (first | (go_at_call 143; refine (HN.out _ (kat6 hHeld).1).mono ?_; rintro e w1 ⟨rfl, hb1⟩) | (go_at_call 33; refine (HC.out _).mono ?_; rintro e w1 ⟨rfl, hb1⟩) | skip)))
  refine hK.out _ _ ?kr6_6 (fun hHeld => ?_)
  case kr6_6 => (try dsimp only); (first | with_reducible assumption | exact s6_bel (by assumption) (by assumption) | assumption | exact s6_alloc (by assumption) _)
  clear hK K
  try simp only [Act.put, List.setIfInBounds_toArray, List.set_cons_zero, List.set_cons_succ]
  refine tk 7 ?_
  refine tk 8 ?_
  refine wpAnyH_done (by kernel_rfl) ?_ _
  refine NoPanic.normal ?_
  all_goals
    go_wp2
    go_ret
    exact ⟨rfl, by exact obB⟩

theorem c_grows (b : Nat) (k : Kn) (A : Option Addr) (cap : Nat) (w : World) (h : k.Ok) (hk : KAt w b k (.slice A k.ps.length cap)) : Calls Tryz.prog 142 #[.pointer (some ⟨b, 0, none⟩)] w fun e w' => e = .returned (.bool k.grows) ∧ Below w.heap.size w w' := by
  have HF := hid (fun (v : World) (hv : KAt v b k (.slice A k.ps.length cap)) => c_full b k A cap v h hv)
  have hlb := h.lastBd
  have hp := set_bd h.set
  obtain ⟨_, ⟨hl1, hl2⟩, hm1, hm2⟩ := setOk_iff.1 h.set
  have hlen := h.len
  have HS := hid (hk.held (Below.refl _ w))
  have HK := hid hk
  obtain ⟨hb, q0, q1, q2, q3, q4, q5⟩ := hk
  by_cases h1 : k.last = -1
  · have HG := hid (show k.grows = false by simp [Kn.grows]; omega)
    have h2 : (k.last != -1) = false := by simp [h1]
    clear h1
    go_enter Tryz.func142, Tryz.ntmps142
    go_wp2
    go_ret
    exact ⟨ret_bool HG.out.symm, by exact obB⟩
  · have h2 : (k.last != -1) = true := by simp [h1]
    have HG := hid (show k.grows = !(decide (pow2 k.m - 1 < k.next)) by unfold Kn.grows Kn.lc; rw [Bool.eq_iff_iff]; simp only [decide_eq_true_eq, Bool.not_eq_true', decide_eq_false_iff_not]; omega)
    clear h1
    go_enter Tryz.func142, Tryz.ntmps142
    go_wp2_with fail
    refine (HF.out _ HK.out).mono ?_
    rintro e w1 ⟨rfl, hb1⟩
    go_wp2
    go_ret
    exact ⟨ret_bool HG.out.symm, by exact obB⟩

theorem c_greatest (b : Nat) (k : Kn) (A : Option Addr) (cap : Nat) (w : World) (h : k.Ok) (hk : KAt w b k (.slice A k.ps.length cap)) : Calls Tryz.prog 128 #[.pointer (some ⟨b, 0, none⟩)] w fun e w' => e = .returned (.int .i64 k.great) ∧ Below w.heap.size w w' := by
  have HG := hid (c_grows b k A cap w h hk)
  have HN := hid (fun (v : World) (hv : KAt v b k (.slice A k.ps.length cap)) => c_nextWord b k A cap v h hv)
  have hnb := next_bd h
  have HK := hid hk
  have hb := hk.1
  generalize hnx : k.next = nx at hnb
  rw [hnx] at HN
  cases hg : k.grows with
  | true =>
    rw [hg] at HG
    have HR := hid (show k.great = nx by rw [← hnx]; simp [Kn.great, hg])
    clear hnx hg hk
    go_enter Tryz.func128, Tryz.ntmps128
    go_wp2_with fail
    refine HG.out.mono ?_
    rintro e w1 ⟨rfl, hb1⟩
    go_wp2_with fail
    refine (HN.out _ (HK.out.on hb1 hb)).mono ?_
    rintro e w2 ⟨rfl, hb2⟩
    go_wp2
    go_ret
    exact ⟨ret_int HR.out.symm, by exact obB⟩
  | false =>
    rw [hg] at HG
    have HR := hid (show k.great = nx - 1 by rw [← hnx]; simp [Kn.great, hg])
    clear hnx hg hk
    go_enter Tryz.func128, Tryz.ntmps128
    go_wp2_with fail
    refine HG.out.mono ?_
    rintro e w1 ⟨rfl, hb1⟩
    go_wp2_with fail
    refine (HN.out _ (HK.out.on hb1 hb)).mono ?_
    rintro e w2 ⟨rfl, hb2⟩
    go_wp2
    go_ret
    exact ⟨ret_int HR.out.symm, by exact obB⟩

theorem c_width (b : Nat) (k : Kn) (A : Option Addr) (cap : Nat) (w : World) (h : k.Ok) (hk : KAt w b k (.slice A k.ps.length cap)) : Calls Tryz.prog 110 #[.pointer (some ⟨b, 0, none⟩)] w fun e w' => e = .returned (.int .i64 k.width) ∧ Below w.heap.size w w' := by
  have hgb := h.great_bd
  have hcb := h.cbd
  have HG := hid (fun (v : World) (hv : KAt v b k (.slice A k.ps.length cap)) => c_greatest b k A cap v h hv)
  have HD := hid (fun (v : World) => c_BitsNeeded k.great v (by omega))
  have hp := set_bd h.set
  obtain ⟨_, ⟨hl1, hl2⟩, hm1, hm2⟩ := setOk_iff.1 h.set
  have hlen := h.len
  have HS := hid (hk.held (Below.refl _ w))
  have HK := hid hk
  obtain ⟨hb, q0, q1, q2, q3, q4, q5⟩ := hk
  have ew : IntKind.i64.wrap (k.l + 1) = k.l + 1 := IntWalk.i64_in _ (by omega)
  have HR := hid (show k.width = max (k.l + 1) (bitsNeeded k.great) by unfold Kn.width bitsNeeded; rw [if_neg (by omega)])
  have hb0 := Below.refl w.heap.size w
  generalize bitsNeeded k.great = nb at HD HR
  generalize k.great = gr at HG HD HR
  clear hgb hcb
  go_enter Tryz.func110, Tryz.ntmps110
  go_wp2_with fail
  have hS := HS.out
  refine wp_region_noPanic ?_
  refine wp_region_held_drew (S := (fun v => v.cell? ⟨b, 0, none⟩ = some (.int .i64 k.o) ∧ v.cell? ⟨b, 1, none⟩ = some (.int .i64 k.l) ∧ v.cell? ⟨b, 2, none⟩ = some (.int .i64 k.m) ∧ v.cell? ⟨b, 3, none⟩ = some (.slice A k.ps.length cap) ∧ v.cell? ⟨b, 4, none⟩ = some (.int .i64 k.base) ∧ v.cell? ⟨b, 5, none⟩ = some (.int .i64 k.last) ∧ Below w.heap.size w v)) (by kernel_rfl) (s6_drew hS) (fun hHeld => ?_)
  refine tk 0 ?_
  refine tk 3 ?_
  refine tk 4 ?_
  refine tk 5 ?_
  refine tk 6 ?_
  refine tk 7 ?_
  refine tk 8 ?_
  refine wpAnyH_ready (rs := [1]) (by kernel_rfl) (by simp) ?_
  refine AllReadyH.cons (o := ?or7_1) ?ir7_1 (fun K hK => ?sr7_1) AllReadyH.nil
  case ir7_1 => (simp only [List.getElem?_toArray, List.getElem?_cons_succ, List.getElem?_cons_zero]; rfl)
  (first | (go_simp; (first | (go_at_call 128; refine (HG.out _ (kat6 hHeld).1).mono ?_; rintro e w1 ⟨rfl, hb1⟩) | (go_at_call 127; refine (HD.out _).mono ?_; rintro e w1 ⟨rfl, rfl⟩) | skip)))
  refine hK.out _ _ ?kr7_1 (fun hHeld => ?_)
  case kr7_1 => (try dsimp only); (first | with_reducible assumption | exact s6_bel (by assumption) (by assumption) | assumption | exact s6_alloc (by assumption) _)
  clear hK K
  try simp only [Act.put, List.setIfInBounds_toArray, List.set_cons_zero, List.set_cons_succ]
  refine wpAnyH_ready (rs := [2]) (by kernel_rfl) (by simp) ?_
  refine AllReadyH.cons (o := ?or7_2) ?ir7_2 (fun K hK => ?sr7_2) AllReadyH.nil
  case ir7_2 => (simp only [List.getElem?_toArray, List.getElem?_cons_succ, List.getElem?_cons_zero]; rfl)
  (first | (go_simp; (first | (go_at_call 128; refine (HG.out _ (kat6 hHeld).1).mono ?_; rintro e w1 ⟨rfl, hb1⟩) | (go_at_call 127; refine (HD.out _).mono ?_; rintro e w1 ⟨rfl, rfl⟩) | skip)))
  refine hK.out _ _ ?kr7_2 (fun hHeld => ?_)
  case kr7_2 => (try dsimp only); (first | with_reducible assumption | exact s6_bel (by assumption) (by assumption) | assumption | exact s6_alloc (by assumption) _)
  clear hK K
  try simp only [Act.put, List.setIfInBounds_toArray, List.set_cons_zero, List.set_cons_succ]
  refine tk 9 ?_
  refine tk 10 ?_
  refine wpAnyH_done (by kernel_rfl) ?_ _
  refine NoPanic.normal ?_
  all_goals
    go_wp2
    go_ret
    exact ⟨ret_int (by rw [HR.out, Int.max_comm]), by exact obB⟩
end

section
open Go.ChangeShapes Go.WideShapes Go.ChangeAt Go.RowKit Go.Joins
set_option linter.unusedVariables false
end

section
open Go.ChangeShapes Go.WideShapes Go.ChangeAt Go.RowKit Go.Joins
set_option linter.unusedVariables false

/-- the first k and the last k elements exchanged -/
def rv (l : List UInt8) (k : Nat) : List UInt8 := (List.range l.length).map fun i => if i < k ∨ l.length ≤ i + k then (l[l.length - 1 - i]?).getD 0 else (l[i]?).getD 0
theorem rv_len (l : List UInt8) (k : Nat) : (rv l k).length = l.length := by simp [rv]
theorem rv_get (l : List UInt8) (k i : Nat) (h : i < l.length) : (rv l k)[i]? = some (if i < k ∨ l.length ≤ i + k then (l[l.length - 1 - i]?).getD 0 else (l[i]?).getD 0) := by simp [rv, h]
theorem rv_zero (l : List UInt8) : rv l 0 = l := by
  apply List.ext_getElem?
  intro i
  by_cases h : i < l.length
  · rw [rv_get _ _ _ h, if_neg (by omega), List.getElem?_eq_getElem h]; rfl
  · rw [List.getElem?_eq_none (by rw [rv_len]; omega), List.getElem?_eq_none (by omega)]
theorem rv_all (l : List UInt8) (k : Nat) (h : l.length ≤ 2 * k + 1) : rv l k = l.reverse := by
  apply List.ext_getElem?
  intro i
  by_cases hi : i < l.length
  · rw [rv_get _ _ _ hi, List.getElem?_reverse hi]
    split
    · rw [List.getElem?_eq_getElem (by omega)]; rfl
    · have : l.length - 1 - i = i := by omega
      rw [this, List.getElem?_eq_getElem hi]; rfl
  · rw [List.getElem?_eq_none (by rw [rv_len]; omega), List.getElem?_eq_none (by simp; omega)]
theorem rv_step (l : List UInt8) (k : Nat) (h : 2 * k + 1 < l.length) : rv l (k + 1) = ((rv l k).set k ((l[l.length - 1 - k]?).getD 0)).set (l.length - 1 - k) ((l[k]?).getD 0) := by
  apply List.ext_getElem?
  intro i
  by_cases hi : i < l.length
  · rw [rv_get _ _ _ hi, List.getElem?_set, List.length_set, rv_len]
    by_cases h1 : l.length - 1 - k = i
    · rw [if_pos h1, if_pos (by omega), if_pos (by omega)]
      have : l.length - 1 - i = k := by omega
      rw [this]
    · rw [if_neg h1, List.getElem?_set, rv_len]
      by_cases h2 : k = i
      · rw [if_pos h2, if_pos (by omega), if_pos (by omega), h2]
      · rw [if_neg h2, rv_get _ _ _ hi]
        by_cases h3 : i < k ∨ l.length ≤ i + k
        · rw [if_pos (by omega), if_pos h3]
        · rw [if_neg (by omega), if_neg h3]
  · rw [List.getElem?_eq_none (by rw [rv_len]; omega), List.getElem?_eq_none (by simp [rv_len]; omega)]
theorem rv_mid (l : List UInt8) (k : Nat) (h : 2 * k + 1 < l.length) : (rv l k)[k]? = some ((l[k]?).getD 0) ∧ (rv l k)[l.length - 1 - k]? = some ((l[l.length - 1 - k]?).getD 0) := by
  constructor
  · rw [rv_get _ _ _ (by omega), if_neg (by omega)]
  · rw [rv_get _ _ _ (by omega), if_neg (by omega)]

theorem own_bytes_set {w : World} {B : Nat} {e : TypeId} {G n cap : Nat} {l : List UInt8} (h : w.ownsRow B e 1 (.slice (some ⟨G, 0, none⟩) n cap) n (l.map vb)) (k : Nat) (c : UInt8) :
    (w.setCell ⟨G, k, none⟩ (.int .u8 (c.toNat : Int))).ownsRow B e 1 (.slice (some ⟨G, 0, none⟩) n cap) n ((l.set k c).map vb) := by
  have h1 := (h.stored k (.int .u8 (c.toNat : Int))).1
  have e1 : (l.map vb).set k (.int .u8 (c.toNat : Int)) = (l.set k c).map vb := by rw [List.map_set]; rfl
  rw [← e1]; exact h1
theorem own_byte {w : World} {B : Nat} {e : TypeId} {G n cap : Nat} {l : List UInt8} (h : w.ownsRow B e 1 (.slice (some ⟨G, 0, none⟩) n cap) n (l.map vb)) (k : Nat) (c : UInt8) (hk : l[k]? = some c) : w.cell? ⟨G, k, none⟩ = some (.int .u8 (c.toNat : Int)) := by
  have hl := own_len h
  have hk2 := get_lt hk
  rw [h.cellAt k (by omega), List.getElem?_map, hk]
  rfl
end

section
open Go.ChangeShapes Go.WideShapes Go.ChangeAt Go.RowKit Go.Joins
set_option linter.unusedVariables false

theorem Tryz.info_u8w : (Tryz.prog.info? 5).map (fun i => (i.zero, i.size, i.bytes)) = some (some (.int .u8 0), 1, 1) := by kernel_rfl
theorem word_step (k : Kn) (h : k.Ok) (i : Nat) (p : Pr) (hp : k.ps[i]? = some p) (rl : List UInt8) (code : Int) (H : k.word code = wd k.c k.ps (k.c + 2 + i) ++ rl.reverse) : k.word code = wd k.c k.ps p.1 ++ (rl ++ [byt p.2]).reverse := by
  rw [H, word_pair _ _ h.pairs _ _ hp]; simp
theorem word_bottom (k : Kn) (cd : Int) (hc : cd < k.c + 2) (rl : List UInt8) (code : Int) (H : k.word code = wd k.c k.ps cd ++ rl.reverse) : k.word code = (rl ++ [byt cd]).reverse := by
  rw [H, word_lit _ _ _ hc]; simp
theorem own_form {w : World} {B : Nat} {e : TypeId} {v : Value} {n : Nat} {xs : List Value} {size : Nat} (h : w.ownsRow B e size v n xs) (hn : 0 < n) : ∃ g cap, v = .slice (some ⟨g, 0, none⟩) n cap ∧ B ≤ g ∧ g < w.heap.size := by
  have hlt := h.lt
  rcases h.2 with ⟨_, h0⟩ | ⟨g, cap, cur, rfl, hb, _⟩
  · omega
  · exact ⟨g, cap, rfl, (hlt g rfl).1, (hlt g rfl).2⟩
theorem run_own_str {P : Program} {w : World} {base : Nat} {e : TypeId} {n : Nat} {v : Value} {l : List UInt8} {src dst : TypeId} (hs : P.underlying src = some (.slice e)) (he : P.underlying e = some (.int .u8)) (hd : P.underlying dst = some .string)
    (hown : w.ownsRow base e 1 v n (l.map vb)) : (convert src dst v).run P w = .ok (.string (str l)) w := run_str hs he hd hown
end

section
open Go.ChangeShapes Go.WideShapes Go.ChangeAt Go.RowKit Go.Joins
set_option linter.unusedVariables false
end
end Go.Proofs.YtmfnfheahehpcaaGreatDoor
