/- Contracts of the laws' own helpers on what is known: copy, compare, mark. No condition but that the pairs are not too many. -/
import Derived.Test.YtoiifopjipfjhaaChecked
import Derived.Test.YtoiifopjipfjhaaPl
import Derived.Test.YtoiifopjipfjhaaSet
import Derived.Test.YtoiifopjipfjhaaTo
import Derived.Deep.SlicePairs
namespace Go.Proofs.Ytoiifopjipfjhaa
open Go.ChangeShapes Go.WideShapes Go.ChangeAt Go.RowKit Go.Joins
set_option linter.unusedVariables false

theorem Try.info_pair : (Try.prog.info? 41).map (fun i => (i.zero, i.size, i.bytes)) = some (some (.agg #[.int .i64 0, .int .i64 0]), 2, 16) := by kernel_rfl

theorem c_szKnown (k : Kn) (A : Option Addr) (cap : Nat) (w : World) (hn : k.ps.length ≤ 1048576) : Calls Try.prog 86 #[.agg #[.int .i64 k.o, .int .i64 k.l, .int .i64 k.m, .slice A k.ps.length cap, .int .i64 k.base, .int .i64 k.last], .int .i64 1048576] w fun e w' => e = .returned (.int .i64 (1048576 - k.ps.length)) ∧ Below w.heap.size w w' := by
  have hz : ∀ w, Calls Try.prog 157 #[.slice A k.ps.length cap, .int .i64 1048576] w (Same (.int .i64 (1048576 - k.ps.length)) w) := by
    intro w
    go_enter Try.func157, Try.ntmps157
    go_wp2
    go_ret
    exact ⟨rfl, rfl⟩
  have HZ := hid hz
  clear hz
  go_enter Try.func86, Try.ntmps86
  go_wp2_with (go_at_call 157; refine (HZ.out _).mono ?_; rintro e w' ⟨rfl, rfl⟩)
  go_ret
  exact ⟨rfl, by (repeat (first | with_reducible assumption | with_reducible exact Below.refl _ _ | with_reducible refine bel_alloc ?_ _ | with_reducible refine bel_drew ?_ | with_reducible refine bel_drewN ?_ _ | with_reducible refine bel_set ?_ (by first | omega | (simp; done) | (simp; omega)) _ | with_reducible refine bel_trans ?_ (by with_reducible assumption) | exact Below.refl _ _ | assumption | refine bel_alloc ?_ _ | refine bel_drew ?_ | refine bel_drewN ?_ _ | refine bel_set ?_ (by first | omega | (simp; done) | (simp; omega)) _ | refine bel_trans ?_ (by assumption)))⟩

theorem c_szKnown_big (k : Kn) (A : Option Addr) (cap : Nat) (w : World) (hn : 1048576 < k.ps.length) (hc : k.ps.length ≤ maxLen) : Calls Try.prog 86 #[.agg #[.int .i64 k.o, .int .i64 k.l, .int .i64 k.m, .slice A k.ps.length cap, .int .i64 k.base, .int .i64 k.last], .int .i64 1048576] w fun e w' => e = .returned (.int .i64 (-1)) ∧ Below w.heap.size w w' := by
  unfold maxLen at hc
  have hz : ∀ w, Calls Try.prog 157 #[.slice A k.ps.length cap, .int .i64 1048576] w (Same (.int .i64 (-1)) w) := by
    intro w
    go_enter Try.func157, Try.ntmps157
    go_wp2
    go_ret
    exact ⟨rfl, rfl⟩
  have HZ := hid hz
  clear hz
  go_enter Try.func86, Try.ntmps86
  go_wp2_with (go_at_call 157; refine (HZ.out _).mono ?_; rintro e w' ⟨rfl, rfl⟩)
  go_ret
  exact ⟨rfl, by (repeat (first | with_reducible assumption | with_reducible exact Below.refl _ _ | with_reducible refine bel_alloc ?_ _ | with_reducible refine bel_drew ?_ | with_reducible refine bel_drewN ?_ _ | with_reducible refine bel_set ?_ (by first | omega | (simp; done) | (simp; omega)) _ | with_reducible refine bel_trans ?_ (by with_reducible assumption) | exact Below.refl _ _ | assumption | refine bel_alloc ?_ _ | refine bel_drew ?_ | refine bel_drewN ?_ _ | refine bel_set ?_ (by first | omega | (simp; done) | (simp; omega)) _ | refine bel_trans ?_ (by assumption)))⟩

theorem c_toPair (a b : Int) (w : World) : Calls Try.prog 197 #[.agg #[.int .i64 a, .int .i64 b]] w fun e w' => e = .returned (.agg #[.int .i64 a, .int .i64 b]) ∧ Below w.heap.size w w' := by
  go_enter Try.func197, Try.ntmps197
  go_wp2
  exact bodyPost_ret (v := .agg #[.int .i64 a, .int .i64 b]) (by simp [results, Try.results197, go_sem]) rfl ⟨rfl, by (repeat (first | with_reducible assumption | with_reducible exact Below.refl _ _ | with_reducible refine bel_alloc ?_ _ | with_reducible refine bel_drew ?_ | with_reducible refine bel_drewN ?_ _ | with_reducible refine bel_set ?_ (by first | omega | (simp; done) | (simp; omega)) _ | with_reducible refine bel_trans ?_ (by with_reducible assumption) | exact Below.refl _ _ | assumption | refine bel_alloc ?_ _ | refine bel_drew ?_ | refine bel_drewN ?_ _ | refine bel_set ?_ (by first | omega | (simp; done) | (simp; omega)) _ | refine bel_trans ?_ (by assumption)))⟩

theorem pair_at {w : World} {L cap : Nat} {A : Option Addr} {ps : List Pr} (h : PsAt w L A cap ps) (i : Nat) (hi : i < ps.length) : ∃ b off, A = some ⟨b, off, none⟩ ∧ b < L ∧ w.cell? ⟨b, off + i * 2, none⟩ = some (.int .i64 ps[i].1) ∧ w.cell? ⟨b, off + i * 2 + 1, none⟩ = some (.int .i64 ps[i].2) := by
  obtain ⟨b, off, e, hb, hc⟩ := h.2.2.2 (by omega)
  have := hc i ps[i] (List.getElem?_eq_getElem hi)
  exact ⟨b, off, e, hb, this.1, this.2⟩
theorem own_pair {w : World} {B : Nat} {e : TypeId} {G n cap : Nat} {l : List Pr} (h : w.ownsRow B e 2 (.slice (some ⟨G, 0, none⟩) n cap) n (prs l)) (k : Nat) (p : Pr) (hk : l[k]? = some p) : w.cell? ⟨G, k * 2, none⟩ = some (.int .i64 p.1) ∧ w.cell? ⟨G, k * 2 + 1, none⟩ = some (.int .i64 p.2) := by
  have hl := h.1
  rw [prs_len] at hl
  have hk2 := get_lt hk
  have := prs_get l k p hk
  exact ⟨(h.cellAt _ (by omega)).trans this.1, (h.cellAt _ (by omega)).trans this.2⟩

theorem c_toPairS (A : Option Addr) (cap : Nat) (ps : List Pr) (L : Nat) (w : World) (h : PsAt w L A cap ps) (hL : L ≤ w.heap.size) (hn : ps.length ≤ 1048576) : Calls Try.prog 159 #[.slice A ps.length cap] w fun e w' => ∃ g, e = .returned (.slice (some ⟨g, 0, none⟩) ps.length ps.length) ∧ w'.ownsRow w.heap.size 41 2 (.slice (some ⟨g, 0, none⟩) ps.length ps.length) ps.length (prs ps) ∧ Below w.heap.size w w' := by
  obtain ⟨N, hN⟩ : ∃ N, N = ps.length := ⟨_, rfl⟩
  have HN := hid hN
  rw [← hN] at hn ⊢
  clear hN
  go_enter Try.func159, Try.ntmps159
  go_wp2_with (at_make; refine make_pairs rfl _ _ 26 rfl w.heap.size 41 Try.underlying26 Try.info_pair .i64 .i64 _ _ N rfl rfl (by omega) (by omega) (by omega) (Nat.le_refl _) ?_; intro w1 hown1 hb1 hg1)
  go_loopw [4] (fun i wr => ∃ k : Nat, k ≤ N ∧ i = .int .i64 k ∧ wr.ownsRow w.heap.size 41 2 (.slice (some ⟨w.heap.size, 0, none⟩) N N) N (prs (ps.take k ++ List.replicate (N - k) (0, 0))) ∧ Below w.heap.size w wr) (fun i _ => N - (intOf i).toNat)
  case atStart => exact ⟨0, Nat.zero_le _, rfl, by simpa using hown1, by (repeat (first | with_reducible assumption | with_reducible exact Below.refl _ _ | with_reducible refine bel_alloc ?_ _ | with_reducible refine bel_drew ?_ | with_reducible refine bel_drewN ?_ _ | with_reducible refine bel_set ?_ (by first | omega | (simp; done) | (simp; omega)) _ | with_reducible refine bel_trans ?_ (by with_reducible assumption) | exact Below.refl _ _ | assumption | refine bel_alloc ?_ _ | refine bel_drew ?_ | refine bel_drewN ?_ _ | refine bel_set ?_ (by first | omega | (simp; done) | (simp; omega)) _ | refine bel_trans ?_ (by assumption)))⟩
  case round =>
    obtain ⟨k, hk, rfl, hown, hbl⟩ := hrel
    by_cases hlt : k < N
    · have hlt2 : k < ps.length := by have := HN.out; omega
      obtain ⟨b, off, rfl, hb, hc0, hc1⟩ := pair_at (h.below hbl hL) k hlt2
      have hb2 : b < wr.heap.size := by have := hbl.size; omega
      obtain ⟨p, hp⟩ : ∃ p, p = ps[k] := ⟨_, rfl⟩
      rw [← hp] at hc0 hc1
      have HP := hid hp
      clear hp
      have HE := hid (show (ps.take k ++ List.replicate (N - k) ((0 : Int), (0 : Int)))[k]? = some (0, 0) by
        have := HN.out
        rw [List.getElem?_append_right (by simp; omega), List.getElem?_replicate, if_pos (by simp; omega)])
      go_wp2_with (go_at_call 197; (refine (c_toPair _ _ _).mono ?_; rintro e w2 ⟨rfl, hb2⟩; have hown2 := own_on hown hb2; obtain ⟨q0, q1⟩ := own_pair hown2 k _ HE.out; have f0 := hown2.frozenAt (k * 2); have f1 := hown2.frozenAt (k * 2 + 1)))
      have hst := own_store_pair hown2 k p
      have HS := hid (show (ps.take k ++ List.replicate (N - k) ((0 : Int), (0 : Int))).set k p = ps.take (k + 1) ++ List.replicate (N - (k + 1)) (0, 0) by
        rw [set_done _ (ps.take k) (0, 0) N k p rfl (by simp; omega) hlt, HP.out, List.take_succ_eq_append_getElem hlt2])
      go_roundw
      case rel => exact ⟨k + 1, by omega, by go_num, by rw [← HS.out]; exact hst, by (repeat (first | with_reducible assumption | with_reducible exact Below.refl _ _ | with_reducible refine bel_alloc ?_ _ | with_reducible refine bel_drew ?_ | with_reducible refine bel_drewN ?_ _ | with_reducible refine bel_set ?_ (by first | omega | (simp; done) | (simp; omega)) _ | with_reducible refine bel_trans ?_ (by with_reducible assumption) | exact Below.refl _ _ | assumption | refine bel_alloc ?_ _ | refine bel_drew ?_ | refine bel_drewN ?_ _ | refine bel_set ?_ (by first | omega | (simp; done) | (simp; omega)) _ | refine bel_trans ?_ (by assumption)))⟩
      case measure => simp [intOf]; omega
    · have HD := hid (show ps.take k ++ List.replicate (N - k) ((0 : Int), (0 : Int)) = ps by rw [show N - k = 0 from by omega, List.take_of_length_le (by have := HN.out; omega)]; simp)
      rw [HD.out] at hown
      go_wp2
      go_ret
      exact ⟨_, rfl, hown, by (repeat (first | with_reducible assumption | with_reducible exact Below.refl _ _ | with_reducible refine bel_alloc ?_ _ | with_reducible refine bel_drew ?_ | with_reducible refine bel_drewN ?_ _ | with_reducible refine bel_set ?_ (by first | omega | (simp; done) | (simp; omega)) _ | with_reducible refine bel_trans ?_ (by with_reducible assumption) | exact Below.refl _ _ | assumption | refine bel_alloc ?_ _ | refine bel_drew ?_ | refine bel_drewN ?_ _ | refine bel_set ?_ (by first | omega | (simp; done) | (simp; omega)) _ | refine bel_trans ?_ (by assumption)))⟩

theorem c_toKnown (k : Kn) (A : Option Addr) (cap L : Nat) (w : World) (h : PsAt w L A cap k.ps) (hL : L ≤ w.heap.size) (hn : k.ps.length ≤ 1048576) : Calls Try.prog 87 #[.agg #[.int .i64 k.o, .int .i64 k.l, .int .i64 k.m, .slice A k.ps.length cap, .int .i64 k.base, .int .i64 k.last]] w fun e w' => ∃ g, e = .returned (.agg #[.int .i64 k.o, .int .i64 k.l, .int .i64 k.m, .slice (some ⟨g, 0, none⟩) k.ps.length k.ps.length, .int .i64 k.base, .int .i64 k.last]) ∧ w'.ownsRow w.heap.size 41 2 (.slice (some ⟨g, 0, none⟩) k.ps.length k.ps.length) k.ps.length (prs k.ps) ∧ Below w.heap.size w w' := by
  have HH := hid h
  clear h
  have hs3 : ∀ (o1 o2 o3 : Obj), (((w.alloc o1).alloc o2).alloc o3).heap.size = w.heap.size + 3 := fun o1 o2 o3 => by simp
  go_enter Try.func87, Try.ntmps87
  go_wp2_with fail
  refine (c_toSetting _ _ _ _).mono ?_
  rintro e w1 ⟨rfl, hb1⟩
  have kN := ((Blk.new w 73 #[.int .i64 k.o, .int .i64 k.l, .int .i64 k.m, .slice A k.ps.length cap, .int .i64 k.base, .int .i64 k.last]).alloc _).alloc _ |>.on hb1
  have kR := (Blk.mid w _ _ _ _).on hb1
  have kT := (Blk.third w _ _ _ _).on hb1
  have hz1 := hb1.size
  rw [hs3] at hz1
  have hB1 : Below w.heap.size w w1 := by (repeat (first | with_reducible assumption | with_reducible exact Below.refl _ _ | with_reducible refine bel_alloc ?_ _ | with_reducible refine bel_drew ?_ | with_reducible refine bel_drewN ?_ _ | with_reducible refine bel_set ?_ (by first | omega | (simp; done) | (simp; omega)) _ | with_reducible refine bel_trans ?_ (by with_reducible assumption) | exact Below.refl _ _ | assumption | refine bel_alloc ?_ _ | refine bel_drew ?_ | refine bel_drewN ?_ _ | refine bel_set ?_ (by first | omega | (simp; done) | (simp; omega)) _ | refine bel_trans ?_ (by assumption)))
  clear hb1
  obtain ⟨p0, p1, p2, p3, p4, p5⟩ := kN.cells6
  obtain ⟨t0, t1, t2, t3, t4, t5⟩ := kT.cells6
  obtain ⟨u0, u1, u2, u3, u4, u5⟩ := kT.free6
  go_wp2_with fail
  clear p0 p1 p2 p3 p4 p5 t0 t1 t2 t3 t4 t5 u0 u1 u2 u3 u4 u5
  refine (c_toPairS A cap k.ps L _ (HH.out.below (B := w.heap.size) (by (repeat (first | with_reducible assumption | with_reducible exact Below.refl _ _ | with_reducible refine bel_alloc ?_ _ | with_reducible refine bel_drew ?_ | with_reducible refine bel_drewN ?_ _ | with_reducible refine bel_set ?_ (by first | omega | (simp; done) | (simp; omega)) _ | with_reducible refine bel_trans ?_ (by with_reducible assumption) | exact Below.refl _ _ | assumption | refine bel_alloc ?_ _ | refine bel_drew ?_ | refine bel_drewN ?_ _ | refine bel_set ?_ (by first | omega | (simp; done) | (simp; omega)) _ | refine bel_trans ?_ (by assumption)))) hL) (by simp; omega) hn).mono ?_
  rintro e w2 ⟨g, rfl, hown2, hb2⟩
  have kN2 := (((kN.far 0 _ (by omega)).far 1 _ (by omega)).far 2 _ (by omega)).on hb2
  have kR2 := (((kR.far 0 _ (by omega)).far 1 _ (by omega)).far 2 _ (by omega)).on hb2
  have kT2 := (((kT.set_ 0 (.int .i64 k.o)).set_ 1 (.int .i64 k.l)).set_ 2 (.int .i64 k.m)).on hb2
  have hown3 := own_mono (B' := w.heap.size + 3) hown2 (by simp; omega)
  have hB2 : Below w.heap.size w w2 := by (repeat (first | with_reducible assumption | with_reducible exact Below.refl _ _ | with_reducible refine bel_alloc ?_ _ | with_reducible refine bel_drew ?_ | with_reducible refine bel_drewN ?_ _ | with_reducible refine bel_set ?_ (by first | omega | (simp; done) | (simp; omega)) _ | with_reducible refine bel_trans ?_ (by with_reducible assumption) | exact Below.refl _ _ | assumption | refine bel_alloc ?_ _ | refine bel_drew ?_ | refine bel_drewN ?_ _ | refine bel_set ?_ (by first | omega | (simp; done) | (simp; omega)) _ | refine bel_trans ?_ (by assumption)))
  clear hb2 kN kR kT hown2 hB1
  obtain ⟨p0, p1, p2, p3, p4, p5⟩ := kN2.cells6
  obtain ⟨t0, t1, t2, t3, t4, t5⟩ := kT2.cells6
  obtain ⟨u0, u1, u2, u3, u4, u5⟩ := kT2.free6
  obtain ⟨r0, r1, r2, r3, r4, r5⟩ := kR2.cells6
  obtain ⟨v0, v1, v2, v3, v4, v5⟩ := kR2.free6
  have k3 := ((((kR2.far (R := w.heap.size + 1 + 1) 3 (.slice (some ⟨g, 0, none⟩) k.ps.length k.ps.length) (by omega)).far (R := w.heap.size + 1 + 1) 4 (.int .i64 k.base) (by omega)).far (R := w.heap.size + 1 + 1) 5 (.int .i64 k.last) (by omega)).put6 (.int .i64 k.o) (.int .i64 k.l) (.int .i64 k.m) (.slice (some ⟨g, 0, none⟩) k.ps.length k.ps.length) (.int .i64 k.base) (.int .i64 k.last)).cells6
  obtain ⟨j0, j1, j2, j3, j4, j5⟩ := k3
  clear kN2 kR2 kT2
  go_wp2
  refine bodyPost_ret (v := .agg #[.int .i64 k.o, .int .i64 k.l, .int .i64 k.m, .slice (some ⟨g, 0, none⟩) k.ps.length k.ps.length, .int .i64 k.base, .int .i64 k.last]) (by simp [results, Try.results87, go_sem, j0, j1, j2, j3, j4, j5]) rfl ⟨g, rfl, ?_, by (repeat (first | with_reducible assumption | with_reducible exact Below.refl _ _ | with_reducible refine bel_alloc ?_ _ | with_reducible refine bel_drew ?_ | with_reducible refine bel_drewN ?_ _ | with_reducible refine bel_set ?_ (by first | omega | (simp; done) | (simp; omega)) _ | with_reducible refine bel_trans ?_ (by with_reducible assumption) | exact Below.refl _ _ | assumption | refine bel_alloc ?_ _ | refine bel_drew ?_ | refine bel_drewN ?_ _ | refine bel_set ?_ (by first | omega | (simp; done) | (simp; omega)) _ | refine bel_trans ?_ (by assumption)))⟩
  refine own_mono (B := w.heap.size + 3) ?_ (by omega)
  repeat refine ownsRow_setCell_below ?_ (by simp <;> omega) _
  exact hown3

theorem c_eqSetting (o l m : Int) (w : World) : Calls Try.prog 160 #[.agg #[.int .i64 o, .int .i64 l, .int .i64 m], .agg #[.int .i64 o, .int .i64 l, .int .i64 m]] w fun e w' => e = .returned (.bool true) ∧ Below w.heap.size w w' := by
  go_enter Try.func160, Try.ntmps160
  go_wp2
  go_ret
  exact ⟨rfl, by (repeat (first | with_reducible assumption | with_reducible exact Below.refl _ _ | with_reducible refine bel_alloc ?_ _ | with_reducible refine bel_drew ?_ | with_reducible refine bel_drewN ?_ _ | with_reducible refine bel_set ?_ (by first | omega | (simp; done) | (simp; omega)) _ | with_reducible refine bel_trans ?_ (by with_reducible assumption) | exact Below.refl _ _ | assumption | refine bel_alloc ?_ _ | refine bel_drew ?_ | refine bel_drewN ?_ _ | refine bel_set ?_ (by first | omega | (simp; done) | (simp; omega)) _ | refine bel_trans ?_ (by assumption)))⟩

theorem c_eqPair (a b : Int) (w : World) : Calls Try.prog 198 #[.agg #[.int .i64 a, .int .i64 b], .agg #[.int .i64 a, .int .i64 b]] w fun e w' => e = .returned (.bool true) ∧ Below w.heap.size w w' := by
  go_enter Try.func198, Try.ntmps198
  go_wp2
  go_ret
  exact ⟨rfl, by (repeat (first | with_reducible assumption | with_reducible exact Below.refl _ _ | with_reducible refine bel_alloc ?_ _ | with_reducible refine bel_drew ?_ | with_reducible refine bel_drewN ?_ _ | with_reducible refine bel_set ?_ (by first | omega | (simp; done) | (simp; omega)) _ | with_reducible refine bel_trans ?_ (by with_reducible assumption) | exact Below.refl _ _ | assumption | refine bel_alloc ?_ _ | refine bel_drew ?_ | refine bel_drewN ?_ _ | refine bel_set ?_ (by first | omega | (simp; done) | (simp; omega)) _ | refine bel_trans ?_ (by assumption)))⟩

theorem c_eqPairS (A A2 : Option Addr) (cap cap2 : Nat) (ps : List Pr) (L L2 : Nat) (w : World) (h : PsAt w L A cap ps) (h2 : PsAt w L2 A2 cap2 ps) (hL : L ≤ w.heap.size) (hL2 : L2 ≤ w.heap.size) (hn : ps.length ≤ 1048576) : Calls Try.prog 161 #[.slice A ps.length cap, .slice A2 ps.length cap2] w fun e w' => e = .returned (.bool true) ∧ Below w.heap.size w w' := by
  go_enter Try.func161, Try.ntmps161
  go_wp2_with fail
  go_loopw [5] (fun i wr => ∃ k : Nat, k ≤ ps.length ∧ i = .int .i64 k ∧ Below w.heap.size w wr) (fun i _ => ps.length - (intOf i).toNat)
  case atStart => exact ⟨0, Nat.zero_le _, rfl, by (repeat (first | with_reducible assumption | with_reducible exact Below.refl _ _ | with_reducible refine bel_alloc ?_ _ | with_reducible refine bel_drew ?_ | with_reducible refine bel_drewN ?_ _ | with_reducible refine bel_set ?_ (by first | omega | (simp; done) | (simp; omega)) _ | with_reducible refine bel_trans ?_ (by with_reducible assumption) | exact Below.refl _ _ | assumption | refine bel_alloc ?_ _ | refine bel_drew ?_ | refine bel_drewN ?_ _ | refine bel_set ?_ (by first | omega | (simp; done) | (simp; omega)) _ | refine bel_trans ?_ (by assumption)))⟩
  case round =>
    obtain ⟨k, hk, rfl, hbl⟩ := hrel
    by_cases hlt : k < ps.length
    · obtain ⟨b, off, rfl, hb, hc0, hc1⟩ := pair_at (h.below hbl hL) k hlt
      obtain ⟨d, off2, rfl, hd, hd0, hd1⟩ := pair_at (h2.below hbl hL2) k hlt
      obtain ⟨p, hp⟩ : ∃ p, p = ps[k] := ⟨_, rfl⟩
      rw [← hp] at hc0 hc1 hd0 hd1
      clear hp
      go_wp2_with fail
      go_region_with (go_at_call 198; refine (c_eqPair _ _ _).mono ?_; rintro e w2 ⟨rfl, hb2⟩; have hc2 := bcell hb2)
      all_goals
        go_wp2
        go_roundw
        case rel => exact ⟨k + 1, by omega, by go_num, by (repeat (first | with_reducible assumption | with_reducible exact Below.refl _ _ | with_reducible refine bel_alloc ?_ _ | with_reducible refine bel_drew ?_ | with_reducible refine bel_drewN ?_ _ | with_reducible refine bel_set ?_ (by first | omega | (simp; done) | (simp; omega)) _ | with_reducible refine bel_trans ?_ (by with_reducible assumption) | exact Below.refl _ _ | assumption | refine bel_alloc ?_ _ | refine bel_drew ?_ | refine bel_drewN ?_ _ | refine bel_set ?_ (by first | omega | (simp; done) | (simp; omega)) _ | refine bel_trans ?_ (by assumption)))⟩
        case measure => simp [intOf]; omega
    · go_wp2
      go_ret
      exact ⟨rfl, by (repeat (first | with_reducible assumption | with_reducible exact Below.refl _ _ | with_reducible refine bel_alloc ?_ _ | with_reducible refine bel_drew ?_ | with_reducible refine bel_drewN ?_ _ | with_reducible refine bel_set ?_ (by first | omega | (simp; done) | (simp; omega)) _ | with_reducible refine bel_trans ?_ (by with_reducible assumption) | exact Below.refl _ _ | assumption | refine bel_alloc ?_ _ | refine bel_drew ?_ | refine bel_drewN ?_ _ | refine bel_set ?_ (by first | omega | (simp; done) | (simp; omega)) _ | refine bel_trans ?_ (by assumption)))⟩

theorem c_eqKnown (k : Kn) (A A2 : Option Addr) (cap cap2 L L2 : Nat) (w : World) (h : PsAt w L A cap k.ps) (h2 : PsAt w L2 A2 cap2 k.ps) (hL : L ≤ w.heap.size) (hL2 : L2 ≤ w.heap.size) (hn : k.ps.length ≤ 1048576) : Calls Try.prog 88 #[.agg #[.int .i64 k.o, .int .i64 k.l, .int .i64 k.m, .slice A k.ps.length cap, .int .i64 k.base, .int .i64 k.last], .agg #[.int .i64 k.o, .int .i64 k.l, .int .i64 k.m, .slice A2 k.ps.length cap2, .int .i64 k.base, .int .i64 k.last]] w fun e w' => e = .returned (.bool true) ∧ Below w.heap.size w w' := by
  have HH := hid h
  have HH2 := hid h2
  clear h h2
  have hs2 : ∀ (o1 o2 : Obj), ((w.alloc o1).alloc o2).heap.size = w.heap.size + 2 := fun o1 o2 => by simp
  go_enter Try.func88, Try.ntmps88
  go_wp2_with fail
  refine (c_eqSetting _ _ _ _).mono ?_
  rintro e w1 ⟨rfl, hb1⟩
  have kN := ((Blk.new w 28 #[.int .i64 k.o, .int .i64 k.l, .int .i64 k.m, .slice A k.ps.length cap, .int .i64 k.base, .int .i64 k.last]).alloc _).on hb1
  have kR := (Blk.top w _ _ _).on hb1
  have hz1 := hb1.size
  rw [hs2] at hz1
  have hB1 : Below w.heap.size w w1 := by (repeat (first | with_reducible assumption | with_reducible exact Below.refl _ _ | with_reducible refine bel_alloc ?_ _ | with_reducible refine bel_drew ?_ | with_reducible refine bel_drewN ?_ _ | with_reducible refine bel_set ?_ (by first | omega | (simp; done) | (simp; omega)) _ | with_reducible refine bel_trans ?_ (by with_reducible assumption) | exact Below.refl _ _ | assumption | refine bel_alloc ?_ _ | refine bel_drew ?_ | refine bel_drewN ?_ _ | refine bel_set ?_ (by first | omega | (simp; done) | (simp; omega)) _ | refine bel_trans ?_ (by assumption)))
  clear hb1
  obtain ⟨p0, p1, p2, p3, p4, p5⟩ := kN.cells6
  obtain ⟨t0, t1, t2, t3, t4, t5⟩ := kR.cells6
  go_wp2_with fail
  clear p0 p1 p2 p3 p4 p5 t0 t1 t2 t3 t4 t5
  refine (c_eqPairS A A2 cap cap2 k.ps L L2 _ (HH.out.below hB1 hL) (HH2.out.below hB1 hL2) (by omega) (by omega) hn).mono ?_
  rintro e w2 ⟨rfl, hb2⟩
  obtain ⟨p0, p1, p2, p3, p4, p5⟩ := (kN.on hb2).cells6
  obtain ⟨t0, t1, t2, t3, t4, t5⟩ := (kR.on hb2).cells6
  have hB2 : Below w.heap.size w w2 := by (repeat (first | with_reducible assumption | with_reducible exact Below.refl _ _ | with_reducible refine bel_alloc ?_ _ | with_reducible refine bel_drew ?_ | with_reducible refine bel_drewN ?_ _ | with_reducible refine bel_set ?_ (by first | omega | (simp; done) | (simp; omega)) _ | with_reducible refine bel_trans ?_ (by with_reducible assumption) | exact Below.refl _ _ | assumption | refine bel_alloc ?_ _ | refine bel_drew ?_ | refine bel_drewN ?_ _ | refine bel_set ?_ (by first | omega | (simp; done) | (simp; omega)) _ | refine bel_trans ?_ (by assumption)))
  clear hb2 hB1 kN kR
  go_wp2
  go_ret
  exact ⟨rfl, by (repeat (first | with_reducible assumption | with_reducible exact Below.refl _ _ | with_reducible refine bel_alloc ?_ _ | with_reducible refine bel_drew ?_ | with_reducible refine bel_drewN ?_ _ | with_reducible refine bel_set ?_ (by first | omega | (simp; done) | (simp; omega)) _ | with_reducible refine bel_trans ?_ (by with_reducible assumption) | exact Below.refl _ _ | assumption | refine bel_alloc ?_ _ | refine bel_drew ?_ | refine bel_drewN ?_ _ | refine bel_set ?_ (by first | omega | (simp; done) | (simp; omega)) _ | refine bel_trans ?_ (by assumption)))⟩

/-- the pairs that hold the numbers from s on -/
def mk (n : Nat) (s : Int) : List Pr := (List.range n).map fun (i : Nat) => (s + 2 * (i : Int), s + 2 * (i : Int) + 1)
theorem mk_len (n : Nat) (s : Int) : (mk n s).length = n := by simp [mk]
theorem mk_get (n : Nat) (s : Int) (i : Nat) (h : i < n) : (mk n s)[i]? = some (s + 2 * i, s + 2 * i + 1) := by simp [mk, h]
theorem mk_succ (n : Nat) (s : Int) : mk (n + 1) s = mk n s ++ [(s + 2 * n, s + 2 * n + 1)] := by simp [mk, List.range_succ]

theorem c_markPairS (B G cap : Nat) (ps : List Pr) (w : World) (h : w.ownsRow B 41 2 (.slice (some ⟨G, 0, none⟩) ps.length cap) ps.length (prs ps)) (hn : ps.length ≤ 1048576) : Calls Try.prog 162 #[.slice (some ⟨G, 0, none⟩) ps.length cap, .int .i64 1] w fun e w' => e = .returned (.int .i64 (1 + 2 * ps.length)) ∧ w'.ownsRow B 41 2 (.slice (some ⟨G, 0, none⟩) ps.length cap) ps.length (prs (mk ps.length 1)) ∧ w.grownBy w' (some G) := by
  obtain ⟨N, hN⟩ : ∃ N, N = ps.length := ⟨_, rfl⟩
  have HN := hid hN
  rw [← hN] at hn h ⊢
  clear hN
  have HH := hid h
  clear h
  go_enter Try.func162, Try.ntmps162
  go_wp2_with fail
  go_loopw [1, 5] (fun m i wr => ∃ k : Nat, k ≤ N ∧ i = .int .i64 k ∧ m = .int .i64 (1 + 2 * k) ∧ wr.ownsRow B 41 2 (.slice (some ⟨G, 0, none⟩) N cap) N (prs (mk k 1 ++ ps.drop k)) ∧ w.grownBy wr (some G)) (fun _ i _ => N - (intOf i).toNat)
  case atStart => exact ⟨0, Nat.zero_le _, rfl, rfl, by simpa [mk] using HH.out, grown_refl _ _⟩
  case round =>
    obtain ⟨k, hk, rfl, rfl, hown, hgr⟩ := hrel
    by_cases hlt : k < N
    · have hlt2 : k < ps.length := by have := HN.out; omega
      obtain ⟨p, hp⟩ : ∃ p, p = ps[k] := ⟨_, rfl⟩
      have HE := hid (show (mk k 1 ++ ps.drop k)[k]? = some p by
        rw [List.getElem?_append_right (by rw [mk_len]; omega), mk_len, Nat.sub_self, List.getElem?_drop, Nat.add_zero, hp]; exact List.getElem?_eq_getElem hlt2)
      have HS := hid (show (mk k 1 ++ ps.drop k).set k ((1 : Int) + 2 * k, (1 : Int) + 2 * k + 1) = mk (k + 1) 1 ++ ps.drop (k + 1) by
        rw [List.set_append, if_neg (by rw [mk_len]; omega), mk_len, Nat.sub_self, List.drop_eq_getElem_cons hlt2, List.set_cons_zero, mk_succ]; simp)
      clear hp
      obtain ⟨q0, q1⟩ := own_pair hown k _ HE.out
      have f0 := hown.frozenAt (k * 2)
      have f1 := hown.frozenAt (k * 2 + 1)
      have hst := own_store_pair hown k ((1 : Int) + 2 * k, (1 : Int) + 2 * k + 1)
      rw [HS.out] at hst
      have hst2 := grown_set (grown_set hgr (k * 2) (.int .i64 ((1 : Int) + 2 * k))) (k * 2 + 1) (.int .i64 ((1 : Int) + 2 * k + 1))
      have HT := hid (And.intro hst hst2)
      clear hst hst2 hown hgr
      go_wp2
      go_roundw
      case rel => exact ⟨k + 1, by omega, by go_num, vint (by omega), HT.out.1, HT.out.2⟩
      case measure => simp [intOf]; omega
    · have HD := hid (show mk k 1 ++ ps.drop k = mk N 1 by rw [show k = N from by omega, List.drop_of_length_le (by have := HN.out; omega)]; simp)
      rw [HD.out] at hown
      go_wp2
      go_ret
      exact ⟨ret_int (by omega), hown, hgr⟩

theorem c_markPairS_nil (w : World) : Calls Try.prog 162 #[.slice none 0 0, .int .i64 1] w (Same (.int .i64 1) w) := by
  go_enter Try.func162, Try.ntmps162
  go_wp2_with fail
  go_loop [1, 5] (fun m i => m = .int .i64 1 ∧ i = .int .i64 0) (fun _ i => 0)
  case atStart => exact ⟨rfl, rfl⟩
  case round =>
    obtain ⟨rfl, rfl⟩ := hrel
    go_wp2
    go_ret
    exact ⟨rfl, rfl⟩

theorem c_heldPairS (L : Nat) (A : Option Addr) (cap n : Nat) (w : World) (h : PsAt w L A cap (mk n 1)) (hn : n ≤ 1048576) : Calls Try.prog 163 #[.slice A n cap, .int .i64 1] w (Same (.int .i64 (1 + 2 * n)) w) := by
  have HH := hid h
  clear h
  go_enter Try.func163, Try.ntmps163
  go_wp2_with fail
  go_loop [1, 5] (fun m i => ∃ k : Nat, k ≤ n ∧ i = .int .i64 k ∧ m = .int .i64 (1 + 2 * k)) (fun _ i => n - (intOf i).toNat)
  case atStart => exact ⟨0, Nat.zero_le _, rfl, rfl⟩
  case round =>
    obtain ⟨k, hk, rfl, rfl⟩ := hrel
    by_cases hlt : k < n
    · obtain ⟨b, off, rfl, hb, hc⟩ := HH.out.2.2.2 (by rw [mk_len]; omega)
      have hcc := hc k _ (mk_get n 1 k hlt)
      obtain ⟨hc0, hc1⟩ := hcc
      clear hc
      go_wp2
      go_round
      case rel => exact ⟨k + 1, by omega, by go_num, vint (by omega)⟩
      case measure => simp [intOf]; omega
    · go_wp2
      go_ret
      exact ⟨ret_int (by omega), rfl⟩
end Go.Proofs.Ytoiifopjipfjhaa
