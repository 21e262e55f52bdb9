/- Contracts of KnownValid in the program, and of what it calls. No condition but that the numbers are int's. -/
import Derived.Test.YtoiifopjipfjhaaLk
import Derived.Test.YtoiifopjipfjhaaCode
import Derived.Test.YtoiifopjipfjhaaS
import Derived.Deep.RegionHeld3
namespace Go.Proofs.Ytoiifopjipfjhaa
open Go.ChangeShapes Go.WideShapes Go.ChangeAt Go.RowKit Go.Joins
set_option linter.unusedVariables false

theorem c_EndCode_yes (o l m : Int) (w : World) (h : setOk o l m = true) : Calls Try.prog 38 #[.agg #[.int .i64 o, .int .i64 l, .int .i64 m]] w fun e w' => e = .returned (.int .i64 (pow2 l + 1)) ∧ Below w.heap.size w w' := by
  have e : endCode o l m = pow2 l + 1 := by simp [endCode, h]
  rw [← e]; exact c_EndCode o l m w
theorem c_LastCode_yes (o l m : Int) (w : World) (h : setOk o l m = true) : Calls Try.prog 53 #[.agg #[.int .i64 o, .int .i64 l, .int .i64 m]] w fun e w' => e = .returned (.int .i64 (pow2 m - 1)) ∧ Below w.heap.size w w' := by
  have e : lastCode o l m = pow2 m - 1 := by simp [lastCode, h]
  rw [← e]; exact c_LastCode o l m w
/-- the clear code and the last one, of a valid setting -/
theorem set_bd {o l m : Int} (h : setOk o l m = true) : 2 ≤ pow2 l ∧ pow2 l ≤ 256 ∧ pow2 l + 3 ≤ pow2 m - 1 ∧ pow2 m - 1 ≤ 1023 := by
  have h2 : Kn.Ok ⟨o, l, m, [], 0, -1⟩ := by
    refine ⟨h, ?_, fun i p hp => by simp at hp, Int.le_refl _, by simp, Or.inr ⟨rfl, rfl⟩⟩
    obtain ⟨_, ⟨h1, h2⟩, h3, h4⟩ := setOk_iff.1 h
    have hm : (2 : Nat) ^ (l.toNat + 2) ≤ 2 ^ m.toNat := Nat.pow_le_pow_right (by omega) (by omega)
    have hl : (2 : Nat) ^ 1 ≤ 2 ^ l.toNat := Nat.pow_le_pow_right (by omega) (by omega)
    rw [Nat.pow_add] at hm
    show ((0 : Nat) : Int) ≤ (pow2 m - 1) - (pow2 l + 1)
    have e : ∀ a : Int, pow2 a = ((2 ^ a.toNat : Nat) : Int) := fun a => by simp [pow2]
    rw [e, e]; omega
  exact h2.cbd

theorem c_isLiteral (o l m n : Int) (w : World) (h : setOk o l m = true) : Calls Try.prog 132 #[.agg #[.int .i64 o, .int .i64 l, .int .i64 m], .int .i64 n] w fun e w' => e = .returned (.bool (decide (0 ≤ n ∧ n < pow2 l))) ∧ Below w.heap.size w w' := by
  by_cases h0 : 0 ≤ n
  · go_enter Try.func132, Try.ntmps132
    go_wp2_with (go_at_call 45; refine (c_ClearCode_yes _ _ _ _ h).mono ?_; rintro e w1 ⟨rfl, hb1⟩; have hc1 := bcell hb1; have hz1_0 : w.heap.size < w1.heap.size := (by have := hb1.size; first | omega | (simp at this; omega)))
    go_ret
    exact ⟨ret_bool (by simp [h0]), by (repeat (first | with_reducible assumption | with_reducible exact Below.refl _ _ | with_reducible refine bel_alloc ?_ _ | with_reducible refine bel_drew ?_ | with_reducible refine bel_drewN ?_ _ | with_reducible refine bel_set ?_ (by first | omega | (simp; done) | (simp; omega)) _ | with_reducible refine bel_trans ?_ (by with_reducible assumption) | exact Below.refl _ _ | assumption | refine bel_alloc ?_ _ | refine bel_drew ?_ | refine bel_drewN ?_ _ | refine bel_set ?_ (by first | omega | (simp; done) | (simp; omega)) _ | refine bel_trans ?_ (by assumption)))⟩
  · go_enter Try.func132, Try.ntmps132
    go_wp2_with fail
    go_ret
    exact ⟨ret_bool (by simp; omega), by (repeat (first | with_reducible assumption | with_reducible exact Below.refl _ _ | with_reducible refine bel_alloc ?_ _ | with_reducible refine bel_drew ?_ | with_reducible refine bel_drewN ?_ _ | with_reducible refine bel_set ?_ (by first | omega | (simp; done) | (simp; omega)) _ | with_reducible refine bel_trans ?_ (by with_reducible assumption) | exact Below.refl _ _ | assumption | refine bel_alloc ?_ _ | refine bel_drew ?_ | refine bel_drewN ?_ _ | refine bel_set ?_ (by first | omega | (simp; done) | (simp; omega)) _ | refine bel_trans ?_ (by assumption)))⟩

theorem c_hasWord (b : Nat) (o l m code : Int) (n : Nat) (w : World) (h : setOk o l m = true) (hb : b < w.heap.size) (q0 : w.cell? ⟨b, 0, none⟩ = some (.int .i64 o)) (q1 : w.cell? ⟨b, 1, none⟩ = some (.int .i64 l)) (q2 : w.cell? ⟨b, 2, none⟩ = some (.int .i64 m)) (hc : -9223372036854775808 ≤ code ∧ code ≤ 9223372036854775807) (hn : n ≤ 2000000) :
    Calls Try.prog 169 #[.pointer (some ⟨b, 0, none⟩), .int .i64 code, .int .i64 n] w fun e w' => e = .returned (.bool (decide (HasW (pow2 l) code n))) ∧ Below w.heap.size w w' := by
  have hp := set_bd h
  by_cases h1 : 0 ≤ code ∧ code < pow2 l
  · have HL := hid (fun w => c_isLiteral o l m code w h)
    rw [decide_eq_true h1] at HL
    have HR := hid (show HasW (pow2 l) code n from Or.inl h1)
    clear h1
    go_enter Try.func169, Try.ntmps169
    go_wp2_with (go_at_call 132; refine (HL.out _).mono ?_; rintro e w1 ⟨rfl, hb1⟩; have hc1 := bcell hb1; have hz1_0 : b < w1.heap.size := (by have := hb1.size; first | omega | (simp at this; omega)))
    go_ret
    exact ⟨ret_bool (by simp [HR.out]), by (repeat (first | with_reducible assumption | with_reducible exact Below.refl _ _ | with_reducible refine bel_alloc ?_ _ | with_reducible refine bel_drew ?_ | with_reducible refine bel_drewN ?_ _ | with_reducible refine bel_set ?_ (by first | omega | (simp; done) | (simp; omega)) _ | with_reducible refine bel_trans ?_ (by with_reducible assumption) | exact Below.refl _ _ | assumption | refine bel_alloc ?_ _ | refine bel_drew ?_ | refine bel_drewN ?_ _ | refine bel_set ?_ (by first | omega | (simp; done) | (simp; omega)) _ | refine bel_trans ?_ (by assumption)))⟩
  · have HL := hid (fun w => c_isLiteral o l m code w h)
    rw [decide_eq_false h1] at HL
    by_cases h2 : pow2 l + 1 < code
    · go_enter Try.func169, Try.ntmps169
      go_wp2_with (first | (go_at_call 132; refine (HL.out _).mono ?_; rintro e w1 ⟨rfl, hb1⟩; have hc1 := bcell hb1; have hz1_0 : b < w1.heap.size := (by have := hb1.size; first | omega | (simp at this; omega))) | (go_at_call 38; refine (c_EndCode_yes _ _ _ _ h).mono ?_; rintro e w2 ⟨rfl, hb2⟩; have hc2 := bcell hb2; have hz2_0 : b < w2.heap.size := (by have := hb2.size; first | omega | (simp at this; omega))))
      go_ret
      have HI : HasW (pow2 l) code n ↔ code - (pow2 l + 1) ≤ n := by unfold HasW; omega
      exact ⟨ret_bool (by rw [decide_eq_decide]; exact HI.symm), by (repeat (first | with_reducible assumption | with_reducible exact Below.refl _ _ | with_reducible refine bel_alloc ?_ _ | with_reducible refine bel_drew ?_ | with_reducible refine bel_drewN ?_ _ | with_reducible refine bel_set ?_ (by first | omega | (simp; done) | (simp; omega)) _ | with_reducible refine bel_trans ?_ (by with_reducible assumption) | exact Below.refl _ _ | assumption | refine bel_alloc ?_ _ | refine bel_drew ?_ | refine bel_drewN ?_ _ | refine bel_set ?_ (by first | omega | (simp; done) | (simp; omega)) _ | refine bel_trans ?_ (by assumption)))⟩
    · go_enter Try.func169, Try.ntmps169
      go_wp2_with (first | (go_at_call 132; refine (HL.out _).mono ?_; rintro e w1 ⟨rfl, hb1⟩; have hc1 := bcell hb1; have hz1_0 : b < w1.heap.size := (by have := hb1.size; first | omega | (simp at this; omega))) | (go_at_call 38; refine (c_EndCode_yes _ _ _ _ h).mono ?_; rintro e w2 ⟨rfl, hb2⟩; have hc2 := bcell hb2; have hz2_0 : b < w2.heap.size := (by have := hb2.size; first | omega | (simp at this; omega))))
      go_ret
      have HI : ¬ HasW (pow2 l) code n := by unfold HasW; omega
      exact ⟨ret_bool (decide_eq_false HI).symm, by (repeat (first | with_reducible assumption | with_reducible exact Below.refl _ _ | with_reducible refine bel_alloc ?_ _ | with_reducible refine bel_drew ?_ | with_reducible refine bel_drewN ?_ _ | with_reducible refine bel_set ?_ (by first | omega | (simp; done) | (simp; omega)) _ | with_reducible refine bel_trans ?_ (by with_reducible assumption) | exact Below.refl _ _ | assumption | refine bel_alloc ?_ _ | refine bel_drew ?_ | refine bel_drewN ?_ _ | refine bel_set ?_ (by first | omega | (simp; done) | (simp; omega)) _ | refine bel_trans ?_ (by assumption)))⟩

/-- the cells of what is known, behind a pointer -/
def KAt (w : World) (b : Nat) (k : Kn) (sl : Value) : Prop := b < w.heap.size ∧ w.cell? ⟨b, 0, none⟩ = some (.int .i64 k.o) ∧ w.cell? ⟨b, 1, none⟩ = some (.int .i64 k.l) ∧ w.cell? ⟨b, 2, none⟩ = some (.int .i64 k.m) ∧ w.cell? ⟨b, 3, none⟩ = some sl ∧ w.cell? ⟨b, 4, none⟩ = some (.int .i64 k.base) ∧ w.cell? ⟨b, 5, none⟩ = some (.int .i64 k.last)
theorem KAt.on {w w' : World} {b B : Nat} {k : Kn} {sl : Value} (h : KAt w b k sl) (hb : Below B w w') (hB : b < B) : KAt w' b k sl := by
  obtain ⟨h0, h1, h2, h3, h4, h5, h6⟩ := h
  have := hb.size
  exact ⟨by omega, cell_on h1 hb hB, cell_on h2 hb hB, cell_on h3 hb hB, cell_on h4 hb hB, cell_on h5 hb hB, cell_on h6 hb hB⟩
theorem Blk.kat {w : World} {b : Nat} {t : TypeId} {k : Kn} {sl : Value} (h : Blk w b t #[.int .i64 k.o, .int .i64 k.l, .int .i64 k.m, sl, .int .i64 k.base, .int .i64 k.last]) : KAt w b k sl := ⟨h.lt, h.cells6⟩
/-- the numbers of pairs are int's -/
def PsB (ps : List Pr) : Prop := ∀ (i : Nat) (p : Pr), ps[i]? = some p → (-9223372036854775808 ≤ p.1 ∧ p.1 ≤ 9223372036854775807) ∧ (-9223372036854775808 ≤ p.2 ∧ p.2 ≤ 9223372036854775807)

/-- the first i0 pairs are good, and the next one, if there is one, is not -/
def FirstBad (c : Int) (ps : List Pr) (i0 : Nat) : Prop := i0 ≤ ps.length ∧ (∀ i p, i < i0 → ps[i]? = some p → PairOk c i p) ∧ (∀ p, ps[i0]? = some p → ¬ PairOk c i0 p)
theorem firstBad_ex (c : Int) (ps : List Pr) : ∃ i0, FirstBad c ps i0 := by
  induction ps using snoc_ind with
  | h0 => exact ⟨0, Nat.le_refl _, fun i p hi => by omega, fun p hp => by simp at hp⟩
  | h1 l a ih =>
    obtain ⟨i0, h1, h2, h3⟩ := ih
    by_cases hl : i0 < l.length
    · refine ⟨i0, by simp; omega, fun i p hi hp => h2 i p hi ?_, fun p hp => h3 p ?_⟩
      · rw [List.getElem?_append_left (by omega)] at hp; exact hp
      · rw [List.getElem?_append_left hl] at hp; exact hp
    · have e : i0 = l.length := by omega
      subst e
      by_cases ha : PairOk c l.length a
      · refine ⟨l.length + 1, by simp, fun i p hi hp => ?_, fun p hp => by rw [List.getElem?_eq_none (by simp)] at hp; cases hp⟩
        by_cases hi2 : i < l.length
        · rw [List.getElem?_append_left hi2] at hp; exact h2 i p hi2 hp
        · have : i = l.length := by omega
          subst this
          simp at hp; subst hp; exact ha
      · refine ⟨l.length, by simp, fun i p hi hp => h2 i p hi ?_, fun p hp => ?_⟩
        · rw [List.getElem?_append_left hi] at hp; exact hp
        · simp at hp; subst hp; exact ha
theorem firstBad_all {c : Int} {ps : List Pr} {i0 : Nat} (h : FirstBad c ps i0) : PairsOk c ps ↔ i0 = ps.length := by
  constructor
  · intro hp
    have h1 := h.1
    by_cases hl : i0 < ps.length
    · exact absurd (hp i0 _ (List.getElem?_eq_getElem hl)) (h.2.2 _ (List.getElem?_eq_getElem hl))
    · omega
  · intro e i p hp
    exact h.2.1 i p (by have := get_lt hp; omega) hp

theorem c_pairsValid (b : Nat) (k : Kn) (A : Option Addr) (cap L i0 : Nat) (w : World) (hs : setOk k.o k.l k.m = true) (hk : KAt w b k (.slice A k.ps.length cap)) (h : PsAt w L A cap k.ps) (hL : L ≤ w.heap.size) (hB : PsB k.ps) (hn : k.ps.length ≤ 1048576) (hi : FirstBad k.c k.ps i0) :
    Calls Try.prog 102 #[.pointer (some ⟨b, 0, none⟩)] w fun e w' => e = .returned (.bool (decide (i0 = k.ps.length))) ∧ Below w.heap.size w w' := by
  have hi0 := hi.1
  have HI := hid hi.2
  have HK := hid hk
  have HH := hid h
  have HB := hid hB
  clear hi h hB
  obtain ⟨hb, q0, q1, q2, q3, q4, q5⟩ := hk
  go_enter Try.func102, Try.ntmps102
  go_wp2_with fail
  clear q0 q1 q2 q3 q4 q5
  go_loopw [10] (fun i wr => ∃ n : Nat, n ≤ i0 ∧ i = .int .i64 n ∧ Below w.heap.size w wr) (fun i _ => k.ps.length - (intOf i).toNat)
  case atStart => exact ⟨0, Nat.zero_le _, rfl, by (repeat (first | with_reducible assumption | with_reducible exact Below.refl _ _ | with_reducible refine bel_alloc ?_ _ | with_reducible refine bel_drew ?_ | with_reducible refine bel_drewN ?_ _ | with_reducible refine bel_set ?_ (by first | omega | (simp; done) | (simp; omega)) _ | with_reducible refine bel_trans ?_ (by with_reducible assumption) | exact Below.refl _ _ | assumption | refine bel_alloc ?_ _ | refine bel_drew ?_ | refine bel_drewN ?_ _ | refine bel_set ?_ (by first | omega | (simp; done) | (simp; omega)) _ | refine bel_trans ?_ (by assumption)))⟩
  case round =>
    obtain ⟨n, hn0, rfl, hbl⟩ := hrel
    obtain ⟨hb2, q0, q1, q2, q3, q4, q5⟩ := HK.out.on hbl hb
    by_cases hlt : n < k.ps.length
    · obtain ⟨d, off, rfl, hd, hd0, hd1⟩ := pair_at (HH.out.below hbl hL) n hlt
      have hd2 : d < wr.heap.size := by have := hbl.size; omega
      have hbd := HB.out n _ (List.getElem?_eq_getElem hlt)
      have HP := hid (List.getElem?_eq_getElem hlt)
      obtain ⟨p, hp⟩ : ∃ p, p = k.ps[n] := ⟨_, rfl⟩
      rw [← hp] at hd0 hd1 hbd HP
      clear hp
      obtain ⟨x, y⟩ := p
      simp only at hd0 hd1 hbd
      obtain ⟨⟨hx0, hx1⟩, hy0, hy1⟩ := hbd
      have HW := hid (fun (v : World) (hv : KAt v b k (.slice (some ⟨d, off, none⟩) k.ps.length cap)) => c_hasWord b k.o k.l k.m x n v hs hv.1 hv.2.1 hv.2.2.1 hv.2.2.2.1 ⟨hx0, hx1⟩ (by omega))
      have HL := hid (fun (v : World) => c_isLiteral k.o k.l k.m y v hs)
      by_cases h1 : HasW (pow2 k.l) x n
      · rw [decide_eq_true h1] at HW
        by_cases h2 : 0 ≤ y ∧ y < pow2 k.l
        · rw [decide_eq_true h2] at HL
          have HN := hid (show n < i0 by
            rcases Nat.lt_or_ge n i0 with h3 | h3
            · exact h3
            · have : n = i0 := by omega
              subst this
              exact absurd ⟨h1, h2.1, h2.2⟩ (HI.out.2 _ HP.out))
          clear h1 h2
          go_wp2_with fail
          have bP := Blk.new wr 41 #[.int .i64 x, .int .i64 y]
          have hS := And.intro (cell_al q0 (.cells #[.int .i64 x, .int .i64 y] 41)) (And.intro (cell_al q1 (.cells #[.int .i64 x, .int .i64 y] 41)) (And.intro (cell_al q2 (.cells #[.int .i64 x, .int .i64 y] 41)) (And.intro bP.cells2.1 (And.intro bP.cells2.2 (bel_alloc hbl (.cells #[.int .i64 x, .int .i64 y] 41))))))
          clear q0 q1 q2 q3 q4 q5 bP hd0 hd1
          go_region_held3 (fun v => v.cell? ⟨b, 0, none⟩ = some (.int .i64 k.o) ∧ v.cell? ⟨b, 1, none⟩ = some (.int .i64 k.l) ∧ v.cell? ⟨b, 2, none⟩ = some (.int .i64 k.m) ∧ v.cell? ⟨wr.heap.size, 0, none⟩ = some (.int .i64 x) ∧ v.cell? ⟨wr.heap.size, 1, none⟩ = some (.int .i64 y) ∧ Below w.heap.size w v) (first | exact s5_drew hS | exact s5_bel (by assumption) (by assumption) | exact s5_alloc (by assumption) _ | exact s5_drew (s5_alloc hS _)) (first | (go_at_call 169; refine (HW.out _ (HK.out.on (B := w.heap.size) (by (repeat (first | with_reducible assumption | with_reducible exact Below.refl _ _ | with_reducible refine bel_alloc ?_ _ | with_reducible refine bel_drew ?_ | with_reducible refine bel_drewN ?_ _ | with_reducible refine bel_set ?_ (by first | omega | (simp; done) | (simp; omega)) _ | with_reducible refine bel_trans ?_ (by with_reducible assumption) | exact Below.refl _ _ | assumption | refine bel_alloc ?_ _ | refine bel_drew ?_ | refine bel_drewN ?_ _ | refine bel_set ?_ (by first | omega | (simp; done) | (simp; omega)) _ | refine bel_trans ?_ (by assumption)))) hb)).mono ?_; rintro e w1 ⟨rfl, hb1⟩) | (go_at_call 132; refine (HL.out _).mono ?_; rintro e w2 ⟨rfl, hb2⟩))
          go_wp2
          go_roundw
          case rel => exact ⟨n + 1, by have := HN.out; omega, by go_num, by (repeat (first | with_reducible assumption | with_reducible exact Below.refl _ _ | with_reducible refine bel_alloc ?_ _ | with_reducible refine bel_drew ?_ | with_reducible refine bel_drewN ?_ _ | with_reducible refine bel_set ?_ (by first | omega | (simp; done) | (simp; omega)) _ | with_reducible refine bel_trans ?_ (by with_reducible assumption) | exact Below.refl _ _ | assumption | refine bel_alloc ?_ _ | refine bel_drew ?_ | refine bel_drewN ?_ _ | refine bel_set ?_ (by first | omega | (simp; done) | (simp; omega)) _ | refine bel_trans ?_ (by assumption)))⟩
          case measure => simp [intOf]; omega
        · rw [decide_eq_false h2] at HL
          have HN := hid (show ¬ n = k.ps.length ∧ n = i0 by
            refine ⟨by omega, ?_⟩
            rcases Nat.lt_or_ge n i0 with h3 | h3
            · exact absurd (HI.out.1 n _ h3 HP.out).2 h2
            · omega)
          clear h1 h2
          go_wp2_with fail
          have bP := Blk.new wr 41 #[.int .i64 x, .int .i64 y]
          have hS := And.intro (cell_al q0 (.cells #[.int .i64 x, .int .i64 y] 41)) (And.intro (cell_al q1 (.cells #[.int .i64 x, .int .i64 y] 41)) (And.intro (cell_al q2 (.cells #[.int .i64 x, .int .i64 y] 41)) (And.intro bP.cells2.1 (And.intro bP.cells2.2 (bel_alloc hbl (.cells #[.int .i64 x, .int .i64 y] 41))))))
          clear q0 q1 q2 q3 q4 q5 bP hd0 hd1
          go_region_held3 (fun v => v.cell? ⟨b, 0, none⟩ = some (.int .i64 k.o) ∧ v.cell? ⟨b, 1, none⟩ = some (.int .i64 k.l) ∧ v.cell? ⟨b, 2, none⟩ = some (.int .i64 k.m) ∧ v.cell? ⟨wr.heap.size, 0, none⟩ = some (.int .i64 x) ∧ v.cell? ⟨wr.heap.size, 1, none⟩ = some (.int .i64 y) ∧ Below w.heap.size w v) (first | exact s5_drew hS | exact s5_bel (by assumption) (by assumption) | exact s5_alloc (by assumption) _ | exact s5_drew (s5_alloc hS _)) (first | (go_at_call 169; refine (HW.out _ (HK.out.on (B := w.heap.size) (by (repeat (first | with_reducible assumption | with_reducible exact Below.refl _ _ | with_reducible refine bel_alloc ?_ _ | with_reducible refine bel_drew ?_ | with_reducible refine bel_drewN ?_ _ | with_reducible refine bel_set ?_ (by first | omega | (simp; done) | (simp; omega)) _ | with_reducible refine bel_trans ?_ (by with_reducible assumption) | exact Below.refl _ _ | assumption | refine bel_alloc ?_ _ | refine bel_drew ?_ | refine bel_drewN ?_ _ | refine bel_set ?_ (by first | omega | (simp; done) | (simp; omega)) _ | refine bel_trans ?_ (by assumption)))) hb)).mono ?_; rintro e w1 ⟨rfl, hb1⟩) | (go_at_call 132; refine (HL.out _).mono ?_; rintro e w2 ⟨rfl, hb2⟩))
          go_wp2
          go_ret
          exact ⟨ret_bool (by rw [← HN.out.2]; simp [HN.out.1]), by (repeat (first | with_reducible assumption | with_reducible exact Below.refl _ _ | with_reducible refine bel_alloc ?_ _ | with_reducible refine bel_drew ?_ | with_reducible refine bel_drewN ?_ _ | with_reducible refine bel_set ?_ (by first | omega | (simp; done) | (simp; omega)) _ | with_reducible refine bel_trans ?_ (by with_reducible assumption) | exact Below.refl _ _ | assumption | refine bel_alloc ?_ _ | refine bel_drew ?_ | refine bel_drewN ?_ _ | refine bel_set ?_ (by first | omega | (simp; done) | (simp; omega)) _ | refine bel_trans ?_ (by assumption)))⟩
      · rw [decide_eq_false h1] at HW
        have HN := hid (show ¬ n = k.ps.length ∧ n = i0 by
          refine ⟨by omega, ?_⟩
          rcases Nat.lt_or_ge n i0 with h3 | h3
          · exact absurd (HI.out.1 n _ h3 HP.out).1 h1
          · omega)
        clear h1
        go_wp2_with fail
        have bP := Blk.new wr 41 #[.int .i64 x, .int .i64 y]
        have hS := And.intro bP.cells2.1 (And.intro bP.cells2.2 (bel_alloc hbl (.cells #[.int .i64 x, .int .i64 y] 41)))
        clear q0 q1 q2 q3 q4 q5 bP hd0 hd1
        refine wp_region_noPanic ?_
        refine wp_region_held_drew (S := (fun v => v.cell? ⟨wr.heap.size, 0, none⟩ = some (.int .i64 x) ∧ v.cell? ⟨wr.heap.size, 1, none⟩ = some (.int .i64 y) ∧ Below w.heap.size w v)) (by kernel_rfl) (s2_drew hS) (fun hHeld => ?_)
        refine wpAnyH_take (i := 0) (oi := ?or1_0) (v := ?vr1_0) ?ir1_0 (by kernel_rfl) (by kernel_rfl) (by kernel_rfl) (fun _ _ _ h => h) ?yr1_0 (by assumption) ?wr1_0
        case ir1_0 => (simp only [List.getElem?_toArray, List.getElem?_cons_zero]; rfl)
        case yr1_0 => exact Or.inl ⟨by rfl, by intro v hSw; (try dsimp only at hSw); go_simp; try with_reducible rfl⟩
        try simp only [Act.put, List.setIfInBounds_toArray, List.set_cons_zero, List.set_cons_succ]
        refine wpAnyH_take (i := 1) (oi := ?or1_1) (v := ?vr1_1) ?ir1_1 (by kernel_rfl) (by kernel_rfl) (by kernel_rfl) (fun _ _ _ h => h) ?yr1_1 (by assumption) ?wr1_1
        case ir1_1 => (simp only [List.getElem?_toArray, List.getElem?_cons_succ, List.getElem?_cons_zero]; rfl)
        case yr1_1 => exact Or.inl ⟨by rfl, by intro v hSw; (try dsimp only at hSw); go_simp; try with_reducible rfl⟩
        try simp only [Act.put, List.setIfInBounds_toArray, List.set_cons_zero, List.set_cons_succ]
        refine wpAnyH_take (i := 2) (oi := ?or1_2) (v := ?vr1_2) ?ir1_2 (by kernel_rfl) (by kernel_rfl) (by kernel_rfl) (fun _ _ _ h => h) ?yr1_2 (by assumption) ?wr1_2
        case ir1_2 => (simp only [List.getElem?_toArray, List.getElem?_cons_succ, List.getElem?_cons_zero]; rfl)
        case yr1_2 => exact Or.inl ⟨by rfl, by intro v hSw; (try dsimp only at hSw); go_simp; try with_reducible rfl⟩
        try simp only [Act.put, List.setIfInBounds_toArray, List.set_cons_zero, List.set_cons_succ]
        refine wpAnyH_take (i := 3) (oi := ?or1_3) (v := ?vr1_3) ?ir1_3 (by kernel_rfl) (by kernel_rfl) (by kernel_rfl) (fun _ _ _ h => h) ?yr1_3 (by assumption) ?wr1_3
        case ir1_3 => (simp only [List.getElem?_toArray, List.getElem?_cons_succ, List.getElem?_cons_zero]; rfl)
        case yr1_3 => exact Or.inl ⟨by rfl, by intro v hSw; (try dsimp only at hSw); go_simp; try with_reducible rfl⟩
        try simp only [Act.put, List.setIfInBounds_toArray, List.set_cons_zero, List.set_cons_succ]
        refine wpAnyH_ready (rs := [4]) (by kernel_rfl) (by simp) ?_
        refine AllReadyH.cons (o := ?or1_4) ?ir1_4 (fun K hK => ?sr1_4) AllReadyH.nil
        case ir1_4 => (simp only [List.getElem?_toArray, List.getElem?_cons_succ, List.getElem?_cons_zero]; rfl)
        (first | (go_simp; (first | (go_at_call 169; refine (HW.out _ (HK.out.on (B := w.heap.size) (by (repeat (first | with_reducible assumption | with_reducible exact Below.refl _ _ | with_reducible refine bel_alloc ?_ _ | with_reducible refine bel_drew ?_ | with_reducible refine bel_drewN ?_ _ | with_reducible refine bel_set ?_ (by first | omega | (simp; done) | (simp; omega)) _ | with_reducible refine bel_trans ?_ (by with_reducible assumption) | exact Below.refl _ _ | assumption | refine bel_alloc ?_ _ | refine bel_drew ?_ | refine bel_drewN ?_ _ | refine bel_set ?_ (by first | omega | (simp; done) | (simp; omega)) _ | refine bel_trans ?_ (by assumption)))) hb)).mono ?_; rintro e w1 ⟨rfl, hb1⟩) | skip)))
        refine hK.out _ _ ?kr1_4 (fun hHeld => ?_)
        case kr1_4 => (try dsimp only); (first | with_reducible assumption | exact s2_bel (by assumption) (by assumption) | assumption | exact s2_alloc (by assumption) _)
        clear hK K
        try simp only [Act.put, List.setIfInBounds_toArray, List.set_cons_zero, List.set_cons_succ]
        refine wpAnyH_take (i := 5) (oi := ?or1_5) (v := ?vr1_5) ?ir1_5 (by kernel_rfl) (by kernel_rfl) (by kernel_rfl) (fun _ _ _ h => h) ?yr1_5 (by assumption) ?wr1_5
        case ir1_5 => (simp only [List.getElem?_toArray, List.getElem?_cons_succ, List.getElem?_cons_zero]; rfl)
        case yr1_5 => exact Or.inl ⟨by rfl, by intro v hSw; (try dsimp only at hSw); go_simp; try with_reducible rfl⟩
        try simp only [Act.put, List.setIfInBounds_toArray, List.set_cons_zero, List.set_cons_succ]
        refine wpAnyH_take (i := 6) (oi := ?or1_6) (v := ?vr1_6) ?ir1_6 (by kernel_rfl) (by kernel_rfl) (by kernel_rfl) (fun _ _ _ h => h) ?yr1_6 (by assumption) ?wr1_6
        case ir1_6 => (simp only [List.getElem?_toArray, List.getElem?_cons_succ, List.getElem?_cons_zero]; rfl)
        case yr1_6 => exact Or.inl ⟨by rfl, by intro v hSw; (try dsimp only at hSw); go_simp; try with_reducible rfl⟩
        try simp only [Act.put, List.setIfInBounds_toArray, List.set_cons_zero, List.set_cons_succ]
        refine wpAnyH_take (i := 7) (oi := ?or1_7) (v := undef) ?ir1_7 (by kernel_rfl) (by kernel_rfl) (by kernel_rfl) (fun _ _ _ h => h) ?yr1_7 (by assumption) ?wr1_7
        case ir1_7 => (simp only [List.getElem?_toArray, List.getElem?_cons_succ, List.getElem?_cons_zero]; rfl)
        case yr1_7 => exact Or.inr ⟨by rfl, rfl⟩
        try simp only [Act.put, List.setIfInBounds_toArray, List.set_cons_zero, List.set_cons_succ]
        refine wpAnyH_take (i := 8) (oi := ?or1_8) (v := undef) ?ir1_8 (by kernel_rfl) (by kernel_rfl) (by kernel_rfl) (fun _ _ _ h => h) ?yr1_8 (by assumption) ?wr1_8
        case ir1_8 => (simp only [List.getElem?_toArray, List.getElem?_cons_succ, List.getElem?_cons_zero]; rfl)
        case yr1_8 => exact Or.inr ⟨by rfl, rfl⟩
        try simp only [Act.put, List.setIfInBounds_toArray, List.set_cons_zero, List.set_cons_succ]
        refine wpAnyH_take (i := 9) (oi := ?or1_9) (v := undef) ?ir1_9 (by kernel_rfl) (by kernel_rfl) (by kernel_rfl) (fun _ _ _ h => h) ?yr1_9 (by assumption) ?wr1_9
        case ir1_9 => (simp only [List.getElem?_toArray, List.getElem?_cons_succ, List.getElem?_cons_zero]; rfl)
        case yr1_9 => exact Or.inr ⟨by rfl, rfl⟩
        try simp only [Act.put, List.setIfInBounds_toArray, List.set_cons_zero, List.set_cons_succ]
        refine wpAnyH_take (i := 10) (oi := ?or1_10) (v := undef) ?ir1_10 (by kernel_rfl) (by kernel_rfl) (by kernel_rfl) (fun _ _ _ h => h) ?yr1_10 (by assumption) ?wr1_10
        case ir1_10 => (simp only [List.getElem?_toArray, List.getElem?_cons_succ, List.getElem?_cons_zero]; rfl)
        case yr1_10 => exact Or.inr ⟨by rfl, rfl⟩
        try simp only [Act.put, List.setIfInBounds_toArray, List.set_cons_zero, List.set_cons_succ]
        refine wpAnyH_take (i := 11) (oi := ?or1_11) (v := undef) ?ir1_11 (by kernel_rfl) (by kernel_rfl) (by kernel_rfl) (fun _ _ _ h => h) ?yr1_11 (by assumption) ?wr1_11
        case ir1_11 => (simp only [List.getElem?_toArray, List.getElem?_cons_succ, List.getElem?_cons_zero]; rfl)
        case yr1_11 => exact Or.inr ⟨by rfl, rfl⟩
        try simp only [Act.put, List.setIfInBounds_toArray, List.set_cons_zero, List.set_cons_succ]
        refine wpAnyH_take (i := 12) (oi := ?or1_12) (v := undef) ?ir1_12 (by kernel_rfl) (by kernel_rfl) (by kernel_rfl) (fun _ _ _ h => h) ?yr1_12 (by assumption) ?wr1_12
        case ir1_12 => (simp only [List.getElem?_toArray, List.getElem?_cons_succ, List.getElem?_cons_zero]; rfl)
        case yr1_12 => exact Or.inr ⟨by rfl, rfl⟩
        try simp only [Act.put, List.setIfInBounds_toArray, List.set_cons_zero, List.set_cons_succ]
        refine wpAnyH_take (i := 13) (oi := ?or1_13) (v := undef) ?ir1_13 (by kernel_rfl) (by kernel_rfl) (by kernel_rfl) (fun _ _ _ h => h) ?yr1_13 (by assumption) ?wr1_13
        case ir1_13 => (simp only [List.getElem?_toArray, List.getElem?_cons_succ, List.getElem?_cons_zero]; rfl)
        case yr1_13 => exact Or.inr ⟨by rfl, rfl⟩
        try simp only [Act.put, List.setIfInBounds_toArray, List.set_cons_zero, List.set_cons_succ]
        refine wpAnyH_take (i := 14) (oi := ?or1_14) (v := undef) ?ir1_14 (by kernel_rfl) (by kernel_rfl) (by kernel_rfl) (fun _ _ _ h => h) ?yr1_14 (by assumption) ?wr1_14
        case ir1_14 => (simp only [List.getElem?_toArray, List.getElem?_cons_succ, List.getElem?_cons_zero]; rfl)
        case yr1_14 => exact Or.inr ⟨by rfl, rfl⟩
        try simp only [Act.put, List.setIfInBounds_toArray, List.set_cons_zero, List.set_cons_succ]
        refine wpAnyH_take (i := 15) (oi := ?or1_15) (v := ?vr1_15) ?ir1_15 (by kernel_rfl) (by kernel_rfl) (by kernel_rfl) (fun _ _ _ h => h) ?yr1_15 (by assumption) ?wr1_15
        case ir1_15 => (simp only [List.getElem?_toArray, List.getElem?_cons_succ, List.getElem?_cons_zero]; rfl)
        case yr1_15 => exact Or.inl ⟨by rfl, by intro v hSw; (try dsimp only at hSw); go_simp; try with_reducible rfl⟩
        try simp only [Act.put, List.setIfInBounds_toArray, List.set_cons_zero, List.set_cons_succ]
        refine wpAnyH_done (by kernel_rfl) ?_ _
        refine NoPanic.normal ?_
        go_wp2
        go_ret
        exact ⟨ret_bool (by rw [← HN.out.2]; simp [HN.out.1]), by (repeat (first | with_reducible assumption | with_reducible exact Below.refl _ _ | with_reducible refine bel_alloc ?_ _ | with_reducible refine bel_drew ?_ | with_reducible refine bel_drewN ?_ _ | with_reducible refine bel_set ?_ (by first | omega | (simp; done) | (simp; omega)) _ | with_reducible refine bel_trans ?_ (by with_reducible assumption) | exact Below.refl _ _ | assumption | refine bel_alloc ?_ _ | refine bel_drew ?_ | refine bel_drewN ?_ _ | refine bel_set ?_ (by first | omega | (simp; done) | (simp; omega)) _ | refine bel_trans ?_ (by assumption)))⟩
    · go_wp2
      go_ret
      exact ⟨ret_bool (by simp; omega), by (repeat (first | with_reducible assumption | with_reducible exact Below.refl _ _ | with_reducible refine bel_alloc ?_ _ | with_reducible refine bel_drew ?_ | with_reducible refine bel_drewN ?_ _ | with_reducible refine bel_set ?_ (by first | omega | (simp; done) | (simp; omega)) _ | with_reducible refine bel_trans ?_ (by with_reducible assumption) | exact Below.refl _ _ | assumption | refine bel_alloc ?_ _ | refine bel_drew ?_ | refine bel_drewN ?_ _ | refine bel_set ?_ (by first | omega | (simp; done) | (simp; omega)) _ | refine bel_trans ?_ (by assumption)))⟩

theorem kat6 {w v : World} {b : Nat} {k : Kn} {sl : Value} (h : v.cell? ⟨b, 0, none⟩ = some (.int .i64 k.o) ∧ v.cell? ⟨b, 1, none⟩ = some (.int .i64 k.l) ∧ v.cell? ⟨b, 2, none⟩ = some (.int .i64 k.m) ∧ v.cell? ⟨b, 3, none⟩ = some sl ∧ v.cell? ⟨b, 4, none⟩ = some (.int .i64 k.base) ∧ v.cell? ⟨b, 5, none⟩ = some (.int .i64 k.last) ∧ Below w.heap.size w v) : KAt v b k sl ∧ Below w.heap.size w v :=
  ⟨⟨World.block_lt_of_cell? v _ h.1, h.1, h.2.1, h.2.2.1, h.2.2.2.1, h.2.2.2.2.1, h.2.2.2.2.2.1⟩, h.2.2.2.2.2.2⟩
theorem KAt.held {w v : World} {b : Nat} {k : Kn} {sl : Value} (h : KAt v b k sl) (hb : Below w.heap.size w v) : v.cell? ⟨b, 0, none⟩ = some (.int .i64 k.o) ∧ v.cell? ⟨b, 1, none⟩ = some (.int .i64 k.l) ∧ v.cell? ⟨b, 2, none⟩ = some (.int .i64 k.m) ∧ v.cell? ⟨b, 3, none⟩ = some sl ∧ v.cell? ⟨b, 4, none⟩ = some (.int .i64 k.base) ∧ v.cell? ⟨b, 5, none⟩ = some (.int .i64 k.last) ∧ Below w.heap.size w v := ⟨h.2.1, h.2.2.1, h.2.2.2.1, h.2.2.2.2.1, h.2.2.2.2.2.1, h.2.2.2.2.2.2, hb⟩
def LastOk (k : Kn) : Prop := HasW k.c k.last k.ps.length ∨ (k.last = -1 ∧ k.base = k.ps.length)
instance (k : Kn) : Decidable (LastOk k) := by unfold LastOk; infer_instance

theorem c_lastValid (b : Nat) (k : Kn) (A : Option Addr) (cap : Nat) (w : World) (hs : setOk k.o k.l k.m = true) (hk : KAt w b k (.slice A k.ps.length cap)) (hn : k.ps.length ≤ 1048576) (hl : -9223372036854775808 ≤ k.last ∧ k.last ≤ 9223372036854775807) :
    Calls Try.prog 103 #[.pointer (some ⟨b, 0, none⟩)] w fun e w' => e = .returned (.bool (decide (LastOk k))) ∧ Below w.heap.size w w' := by
  have hp := set_bd hs
  have hk2 := hk
  obtain ⟨hb, q0, q1, q2, q3, q4, q5⟩ := hk
  have hS := hk2.held (Below.refl _ w)
  by_cases h1 : k.last = -1
  · rw [h1] at q5
    have HN := hid (show decide (LastOk k) = decide (k.base = (k.ps.length : Int)) by
      rw [decide_eq_decide]; unfold LastOk HasW Kn.c; omega)
    have HS := hid hS
    clear hS hk2 hl h1
    go_enter Try.func103, Try.ntmps103
    go_wp2_with fail
    clear q0 q1 q2 q3 q4 q5
    have hS := HS.out
    refine wp_region_noPanic ?_
    refine wp_region_held_drew (S := (fun v => v.cell? ⟨b, 0, none⟩ = some (.int .i64 k.o) ∧ v.cell? ⟨b, 1, none⟩ = some (.int .i64 k.l) ∧ v.cell? ⟨b, 2, none⟩ = some (.int .i64 k.m) ∧ v.cell? ⟨b, 3, none⟩ = some (.slice A k.ps.length cap) ∧ v.cell? ⟨b, 4, none⟩ = some (.int .i64 k.base) ∧ v.cell? ⟨b, 5, none⟩ = some (.int .i64 k.last) ∧ Below w.heap.size w v)) (by kernel_rfl) (s6_drew hS) (fun hHeld => ?_)
    refine wpAnyH_take (i := 0) (oi := ?or2_0) (v := ?vr2_0) ?ir2_0 (by kernel_rfl) (by kernel_rfl) (by kernel_rfl) (fun _ _ _ h => h) ?yr2_0 (by assumption) ?wr2_0
    case ir2_0 => (simp only [List.getElem?_toArray, List.getElem?_cons_zero]; rfl)
    case yr2_0 => exact Or.inl ⟨by rfl, by intro v hSw; (try dsimp only at hSw); go_simp; try with_reducible rfl⟩
    try simp only [Act.put, List.setIfInBounds_toArray, List.set_cons_zero, List.set_cons_succ]
    refine wpAnyH_take (i := 1) (oi := ?or2_1) (v := ?vr2_1) ?ir2_1 (by kernel_rfl) (by kernel_rfl) (by kernel_rfl) (fun _ _ _ h => h) ?yr2_1 (by assumption) ?wr2_1
    case ir2_1 => (simp only [List.getElem?_toArray, List.getElem?_cons_succ, List.getElem?_cons_zero]; rfl)
    case yr2_1 => exact Or.inl ⟨by rfl, by intro v hSw; (try dsimp only at hSw); go_simp; try with_reducible rfl⟩
    try simp only [Act.put, List.setIfInBounds_toArray, List.set_cons_zero, List.set_cons_succ]
    refine wpAnyH_take (i := 2) (oi := ?or2_2) (v := ?vr2_2) ?ir2_2 (by kernel_rfl) (by kernel_rfl) (by kernel_rfl) (fun _ _ _ h => h) ?yr2_2 (by assumption) ?wr2_2
    case ir2_2 => (simp only [List.getElem?_toArray, List.getElem?_cons_succ, List.getElem?_cons_zero]; rfl)
    case yr2_2 => exact Or.inl ⟨by rfl, by intro v hSw; (try dsimp only at hSw); go_simp; try with_reducible rfl⟩
    try simp only [Act.put, List.setIfInBounds_toArray, List.set_cons_zero, List.set_cons_succ]
    refine wpAnyH_take (i := 3) (oi := ?or2_3) (v := ?vr2_3) ?ir2_3 (by kernel_rfl) (by kernel_rfl) (by kernel_rfl) (fun _ _ _ h => h) ?yr2_3 (by assumption) ?wr2_3
    case ir2_3 => (simp only [List.getElem?_toArray, List.getElem?_cons_succ, List.getElem?_cons_zero]; rfl)
    case yr2_3 => exact Or.inl ⟨by rfl, by intro v hSw; (try dsimp only at hSw); go_simp; try with_reducible rfl⟩
    try simp only [Act.put, List.setIfInBounds_toArray, List.set_cons_zero, List.set_cons_succ]
    refine wpAnyH_take (i := 4) (oi := ?or2_4) (v := ?vr2_4) ?ir2_4 (by kernel_rfl) (by kernel_rfl) (by kernel_rfl) (fun _ _ _ h => h) ?yr2_4 (by assumption) ?wr2_4
    case ir2_4 => (simp only [List.getElem?_toArray, List.getElem?_cons_succ, List.getElem?_cons_zero]; rfl)
    case yr2_4 => exact Or.inl ⟨by rfl, by intro v hSw; (try dsimp only at hSw); go_simp; try with_reducible rfl⟩
    try simp only [Act.put, List.setIfInBounds_toArray, List.set_cons_zero, List.set_cons_succ]
    refine wpAnyH_take (i := 5) (oi := ?or2_5) (v := ?vr2_5) ?ir2_5 (by kernel_rfl) (by kernel_rfl) (by kernel_rfl) (fun _ _ _ h => h) ?yr2_5 (by assumption) ?wr2_5
    case ir2_5 => (simp only [List.getElem?_toArray, List.getElem?_cons_succ, List.getElem?_cons_zero]; rfl)
    case yr2_5 => exact Or.inl ⟨by rfl, by intro v hSw; (try dsimp only at hSw); go_simp; try with_reducible rfl⟩
    try simp only [Act.put, List.setIfInBounds_toArray, List.set_cons_zero, List.set_cons_succ]
    refine wpAnyH_take (i := 6) (oi := ?or2_6) (v := ?vr2_6) ?ir2_6 (by kernel_rfl) (by kernel_rfl) (by kernel_rfl) (fun _ _ _ h => h) ?yr2_6 (by assumption) ?wr2_6
    case ir2_6 => (simp only [List.getElem?_toArray, List.getElem?_cons_succ, List.getElem?_cons_zero]; rfl)
    case yr2_6 => exact Or.inl ⟨by rfl, by intro v hSw; (try dsimp only at hSw); go_simp; try with_reducible rfl⟩
    try simp only [Act.put, List.setIfInBounds_toArray, List.set_cons_zero, List.set_cons_succ]
    refine wpAnyH_take (i := 7) (oi := ?or2_7) (v := ?vr2_7) ?ir2_7 (by kernel_rfl) (by kernel_rfl) (by kernel_rfl) (fun _ _ _ h => h) ?yr2_7 (by assumption) ?wr2_7
    case ir2_7 => (simp only [List.getElem?_toArray, List.getElem?_cons_succ, List.getElem?_cons_zero]; rfl)
    case yr2_7 => exact Or.inl ⟨by rfl, by intro v hSw; (try dsimp only at hSw); go_simp; try with_reducible rfl⟩
    try simp only [Act.put, List.setIfInBounds_toArray, List.set_cons_zero, List.set_cons_succ]
    refine wpAnyH_take (i := 8) (oi := ?or2_8) (v := ?vr2_8) ?ir2_8 (by kernel_rfl) (by kernel_rfl) (by kernel_rfl) (fun _ _ _ h => h) ?yr2_8 (by assumption) ?wr2_8
    case ir2_8 => (simp only [List.getElem?_toArray, List.getElem?_cons_succ, List.getElem?_cons_zero]; rfl)
    case yr2_8 => exact Or.inl ⟨by rfl, by intro v hSw; (try dsimp only at hSw); go_simp; try with_reducible rfl⟩
    try simp only [Act.put, List.setIfInBounds_toArray, List.set_cons_zero, List.set_cons_succ]
    refine wpAnyH_take (i := 9) (oi := ?or2_9) (v := ?vr2_9) ?ir2_9 (by kernel_rfl) (by kernel_rfl) (by kernel_rfl) (fun _ _ _ h => h) ?yr2_9 (by assumption) ?wr2_9
    case ir2_9 => (simp only [List.getElem?_toArray, List.getElem?_cons_succ, List.getElem?_cons_zero]; rfl)
    case yr2_9 => exact Or.inl ⟨by rfl, by intro v hSw; (try dsimp only at hSw); go_simp; try with_reducible rfl⟩
    try simp only [Act.put, List.setIfInBounds_toArray, List.set_cons_zero, List.set_cons_succ]
    refine wpAnyH_take (i := 10) (oi := ?or2_10) (v := ?vr2_10) ?ir2_10 (by kernel_rfl) (by kernel_rfl) (by kernel_rfl) (fun _ _ _ h => h) ?yr2_10 (by assumption) ?wr2_10
    case ir2_10 => (simp only [List.getElem?_toArray, List.getElem?_cons_succ, List.getElem?_cons_zero]; rfl)
    case yr2_10 => exact Or.inl ⟨by rfl, by intro v hSw; (try dsimp only at hSw); go_simp; try with_reducible rfl⟩
    try simp only [Act.put, List.setIfInBounds_toArray, List.set_cons_zero, List.set_cons_succ]
    refine wpAnyH_done (by kernel_rfl) ?_ _
    refine NoPanic.normal ?_
    go_wp2
    go_ret
    exact ⟨ret_bool (by rw [HN.out]; first | rfl | (rw [Bool.eq_iff_iff]; simp)), by (repeat (first | with_reducible assumption | with_reducible exact Below.refl _ _ | with_reducible refine bel_alloc ?_ _ | with_reducible refine bel_drew ?_ | with_reducible refine bel_drewN ?_ _ | with_reducible refine bel_set ?_ (by first | omega | (simp; done) | (simp; omega)) _ | with_reducible refine bel_trans ?_ (by with_reducible assumption) | exact Below.refl _ _ | assumption | refine bel_alloc ?_ _ | refine bel_drew ?_ | refine bel_drewN ?_ _ | refine bel_set ?_ (by first | omega | (simp; done) | (simp; omega)) _ | refine bel_trans ?_ (by assumption)))⟩
  · have HW := hid (fun (v : World) (hv : KAt v b k (.slice A k.ps.length cap)) => c_hasWord b k.o k.l k.m k.last k.ps.length v hs hv.1 hv.2.1 hv.2.2.1 hv.2.2.2.1 hl (by omega))
    have HN := hid (show decide (LastOk k) = decide (HasW (pow2 k.l) k.last k.ps.length) by
      rw [decide_eq_decide]; unfold LastOk Kn.c; simp [h1])
    have h2 : (k.last == -1) = false := by simpa using h1
    have HS := hid hS
    clear hS hk2 h1
    go_enter Try.func103, Try.ntmps103
    go_wp2_with fail
    clear q0 q1 q2 q3 q4 q5
    have hS := HS.out
    refine wp_region_noPanic ?_
    refine wp_region_held_drew (S := (fun v => v.cell? ⟨b, 0, none⟩ = some (.int .i64 k.o) ∧ v.cell? ⟨b, 1, none⟩ = some (.int .i64 k.l) ∧ v.cell? ⟨b, 2, none⟩ = some (.int .i64 k.m) ∧ v.cell? ⟨b, 3, none⟩ = some (.slice A k.ps.length cap) ∧ v.cell? ⟨b, 4, none⟩ = some (.int .i64 k.base) ∧ v.cell? ⟨b, 5, none⟩ = some (.int .i64 k.last) ∧ Below w.heap.size w v)) (by kernel_rfl) (s6_drew hS) (fun hHeld => ?_)
    refine wpAnyH_take (i := 0) (oi := ?or3_0) (v := ?vr3_0) ?ir3_0 (by kernel_rfl) (by kernel_rfl) (by kernel_rfl) (fun _ _ _ h => h) ?yr3_0 (by assumption) ?wr3_0
    case ir3_0 => (simp only [List.getElem?_toArray, List.getElem?_cons_zero]; rfl)
    case yr3_0 => exact Or.inl ⟨by rfl, by intro v hSw; (try dsimp only at hSw); go_simp; try with_reducible rfl⟩
    try simp only [Act.put, List.setIfInBounds_toArray, List.set_cons_zero, List.set_cons_succ]
    refine wpAnyH_take (i := 1) (oi := ?or3_1) (v := ?vr3_1) ?ir3_1 (by kernel_rfl) (by kernel_rfl) (by kernel_rfl) (fun _ _ _ h => h) ?yr3_1 (by assumption) ?wr3_1
    case ir3_1 => (simp only [List.getElem?_toArray, List.getElem?_cons_succ, List.getElem?_cons_zero]; rfl)
    case yr3_1 => exact Or.inl ⟨by rfl, by intro v hSw; (try dsimp only at hSw); go_simp; try with_reducible rfl⟩
    try simp only [Act.put, List.setIfInBounds_toArray, List.set_cons_zero, List.set_cons_succ]
    refine wpAnyH_take (i := 2) (oi := ?or3_2) (v := ?vr3_2) ?ir3_2 (by kernel_rfl) (by kernel_rfl) (by kernel_rfl) (fun _ _ _ h => h) ?yr3_2 (by assumption) ?wr3_2
    case ir3_2 => (simp only [List.getElem?_toArray, List.getElem?_cons_succ, List.getElem?_cons_zero]; rfl)
    case yr3_2 => exact Or.inl ⟨by rfl, by intro v hSw; (try dsimp only at hSw); go_simp; try with_reducible rfl⟩
    try simp only [Act.put, List.setIfInBounds_toArray, List.set_cons_zero, List.set_cons_succ]
    refine wpAnyH_take (i := 3) (oi := ?or3_3) (v := ?vr3_3) ?ir3_3 (by kernel_rfl) (by kernel_rfl) (by kernel_rfl) (fun _ _ _ h => h) ?yr3_3 (by assumption) ?wr3_3
    case ir3_3 => (simp only [List.getElem?_toArray, List.getElem?_cons_succ, List.getElem?_cons_zero]; rfl)
    case yr3_3 => exact Or.inl ⟨by rfl, by intro v hSw; (try dsimp only at hSw); go_simp; try with_reducible rfl⟩
    try simp only [Act.put, List.setIfInBounds_toArray, List.set_cons_zero, List.set_cons_succ]
    refine wpAnyH_take (i := 4) (oi := ?or3_4) (v := ?vr3_4) ?ir3_4 (by kernel_rfl) (by kernel_rfl) (by kernel_rfl) (fun _ _ _ h => h) ?yr3_4 (by assumption) ?wr3_4
    case ir3_4 => (simp only [List.getElem?_toArray, List.getElem?_cons_succ, List.getElem?_cons_zero]; rfl)
    case yr3_4 => exact Or.inl ⟨by rfl, by intro v hSw; (try dsimp only at hSw); go_simp; try with_reducible rfl⟩
    try simp only [Act.put, List.setIfInBounds_toArray, List.set_cons_zero, List.set_cons_succ]
    refine wpAnyH_take (i := 5) (oi := ?or3_5) (v := ?vr3_5) ?ir3_5 (by kernel_rfl) (by kernel_rfl) (by kernel_rfl) (fun _ _ _ h => h) ?yr3_5 (by assumption) ?wr3_5
    case ir3_5 => (simp only [List.getElem?_toArray, List.getElem?_cons_succ, List.getElem?_cons_zero]; rfl)
    case yr3_5 => exact Or.inl ⟨by rfl, by intro v hSw; (try dsimp only at hSw); go_simp; try with_reducible rfl⟩
    try simp only [Act.put, List.setIfInBounds_toArray, List.set_cons_zero, List.set_cons_succ]
    refine wpAnyH_take (i := 6) (oi := ?or3_6) (v := ?vr3_6) ?ir3_6 (by kernel_rfl) (by kernel_rfl) (by kernel_rfl) (fun _ _ _ h => h) ?yr3_6 (by assumption) ?wr3_6
    case ir3_6 => (simp only [List.getElem?_toArray, List.getElem?_cons_succ, List.getElem?_cons_zero]; rfl)
    case yr3_6 => exact Or.inl ⟨by rfl, by intro v hSw; (try dsimp only at hSw); go_simp; try with_reducible rfl⟩
    try simp only [Act.put, List.setIfInBounds_toArray, List.set_cons_zero, List.set_cons_succ]
    refine wpAnyH_take (i := 7) (oi := ?or3_7) (v := ?vr3_7) ?ir3_7 (by kernel_rfl) (by kernel_rfl) (by kernel_rfl) (fun _ _ _ h => h) ?yr3_7 (by assumption) ?wr3_7
    case ir3_7 => (simp only [List.getElem?_toArray, List.getElem?_cons_succ, List.getElem?_cons_zero]; rfl)
    case yr3_7 => exact Or.inl ⟨by rfl, by intro v hSw; (try dsimp only at hSw); go_simp; try with_reducible rfl⟩
    try simp only [Act.put, List.setIfInBounds_toArray, List.set_cons_zero, List.set_cons_succ]
    refine wpAnyH_take (i := 8) (oi := ?or3_8) (v := ?vr3_8) ?ir3_8 (by kernel_rfl) (by kernel_rfl) (by kernel_rfl) (fun _ _ _ h => h) ?yr3_8 (by assumption) ?wr3_8
    case ir3_8 => (simp only [List.getElem?_toArray, List.getElem?_cons_succ, List.getElem?_cons_zero]; rfl)
    case yr3_8 => exact Or.inl ⟨by rfl, by intro v hSw; (try dsimp only at hSw); go_simp; try with_reducible rfl⟩
    try simp only [Act.put, List.setIfInBounds_toArray, List.set_cons_zero, List.set_cons_succ]
    refine wpAnyH_take (i := 9) (oi := ?or3_9) (v := ?vr3_9) ?ir3_9 (by kernel_rfl) (by kernel_rfl) (by kernel_rfl) (fun _ _ _ h => h) ?yr3_9 (by assumption) ?wr3_9
    case ir3_9 => (simp only [List.getElem?_toArray, List.getElem?_cons_succ, List.getElem?_cons_zero]; rfl)
    case yr3_9 => exact Or.inl ⟨by rfl, by intro v hSw; (try dsimp only at hSw); go_simp; try with_reducible rfl⟩
    try simp only [Act.put, List.setIfInBounds_toArray, List.set_cons_zero, List.set_cons_succ]
    refine wpAnyH_ready (rs := [10]) (by kernel_rfl) (by simp) ?_
    refine AllReadyH.cons (o := ?or3_10) ?ir3_10 (fun K hK => ?sr3_10) AllReadyH.nil
    case ir3_10 => (simp only [List.getElem?_toArray, List.getElem?_cons_succ, List.getElem?_cons_zero]; rfl)
    (first | (go_simp; (first | (go_at_call 169; refine (HW.out _ (kat6 hHeld).1).mono ?_; rintro e w1 ⟨rfl, hb1⟩) | skip)))
    refine hK.out _ _ ?kr3_10 (fun hHeld => ?_)
    case kr3_10 => (try dsimp only); (first | with_reducible assumption | exact s6_bel (by assumption) (by assumption) | assumption | exact s6_alloc (by assumption) _)
    clear hK K
    try simp only [Act.put, List.setIfInBounds_toArray, List.set_cons_zero, List.set_cons_succ]
    refine wpAnyH_take (i := 11) (oi := ?or3_11) (v := ?vr3_11) ?ir3_11 (by kernel_rfl) (by kernel_rfl) (by kernel_rfl) (fun _ _ _ h => h) ?yr3_11 (by assumption) ?wr3_11
    case ir3_11 => (simp only [List.getElem?_toArray, List.getElem?_cons_succ, List.getElem?_cons_zero]; rfl)
    case yr3_11 => exact Or.inl ⟨by rfl, by intro v hSw; (try dsimp only at hSw); go_simp; try with_reducible rfl⟩
    try simp only [Act.put, List.setIfInBounds_toArray, List.set_cons_zero, List.set_cons_succ]
    refine wpAnyH_done (by kernel_rfl) ?_ _
    refine NoPanic.normal ?_
    go_wp2
    go_ret
    exact ⟨ret_bool HN.out.symm, by (repeat (first | with_reducible assumption | with_reducible exact Below.refl _ _ | with_reducible refine bel_alloc ?_ _ | with_reducible refine bel_drew ?_ | with_reducible refine bel_drewN ?_ _ | with_reducible refine bel_set ?_ (by first | omega | (simp; done) | (simp; omega)) _ | with_reducible refine bel_trans ?_ (by with_reducible assumption) | exact Below.refl _ _ | assumption | refine bel_alloc ?_ _ | refine bel_drew ?_ | refine bel_drewN ?_ _ | refine bel_set ?_ (by first | omega | (simp; done) | (simp; omega)) _ | refine bel_trans ?_ (by assumption)))⟩
end Go.Proofs.Ytoiifopjipfjhaa
