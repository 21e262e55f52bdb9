/- The contracts of sizeWith, at one text, and of DictGain in both programs. No condition but that the numbers are int's. -/
import Derived.Test.YtfklkepodpcdgaaQx
import Derived.Test.YtfklkepodpcdgaaQs
namespace Go.Proofs.Ytfklkepodpcdgaa
open Go.ChangeShapes Go.WideShapes Go.ChangeAt Go.RowKit Go.Joins
set_option linter.unusedVariables false
set_option linter.unusedSimpArgs false
set_option linter.unusedSectionVars false

theorem FitsOk.packed_le {K : Kn} {T : ByteArray} (h : FitsOk K T) : (K.packed (K.greedy T.data.toList)).size ≤ 4000 := by
  have h1 := h.codes
  exact h.1.packed_le h1.2.2 h1.2.1

section
variable (o l m : Int) (w : World) (D T : ByteArray) (s0 : Nat) (hs0 : Blk w s0 9 #[.string T])

include hs0

theorem c_sizeWith_no (hs : D.size ≤ maxLen) (hk : ¬ FitsOk (begun o l m) D) : Calls Try.prog 107 #[.agg #[.int .i64 o, .int .i64 l, .int .i64 m], .string D, .slice (some ⟨s0, 0, none⟩) 1 1] w fun e w' => e = .returned (.tuple #[.int .i64 0, .bool false]) ∧ Below w.heap.size w w' := by
  obtain ⟨y0, y1, y2⟩ := (Blk.new w 52 #[.int .i64 o, .int .i64 l, .int .i64 m]).cells3
  have HSt := hid (fun (v : World) => c_prime_no o l m v D hs hk)
  clear hk hs0
  go_enter Try.func107, Try.ntmps107
  go_wp2_with fail
  refine (HSt.out _).mono ?_
  rintro e w1 ⟨rfl, hb1⟩
  go_wp2
  go_ret2
  exact ⟨rfl, by (repeat (first | with_reducible (first | assumption | exact Below.refl _ _ | refine bel_alloc ?_ _ | refine bel_drew ?_ | refine bel_drewN ?_ _ | refine bel_set ?_ (by first | omega | (simp; done) | (simp; omega)) _ | refine bel_trans ?_ (by assumption)) | assumption | refine bel_trans ?_ (by assumption)))⟩

set_option maxHeartbeats 4000000 in
set_option maxRecDepth 100000 in
theorem c_sizeWith_bad (hk : FitsOk (begun o l m) D) (K : Kn) (hK : K = (begun o l m).learned D.data.toList) (hT : T.size ≤ maxLen) (hu : ¬ FitsOk K T) : Calls Try.prog 107 #[.agg #[.int .i64 o, .int .i64 l, .int .i64 m], .string D, .slice (some ⟨s0, 0, none⟩) 1 1] w fun e w' => e = .returned (.tuple #[.int .i64 0, .bool false]) ∧ Below w.heap.size w w' := by
  have hB0 : Below w.heap.size w (w.alloc (.cells #[.int .i64 o, .int .i64 l, .int .i64 m] 52)) := by (repeat (first | with_reducible (first | assumption | exact Below.refl _ _ | refine bel_alloc ?_ _ | refine bel_drew ?_ | refine bel_drewN ?_ _ | refine bel_set ?_ (by first | omega | (simp; done) | (simp; omega)) _ | refine bel_trans ?_ (by assumption)) | assumption | refine bel_trans ?_ (by assumption)))
  obtain ⟨y0, y1, y2⟩ := (Blk.new w 52 #[.int .i64 o, .int .i64 l, .int .i64 m]).cells3
  have hKo : K.Ok := by rw [hK]; exact hk.1.learned hk.lits.1
  have hKc : K.cleared = K := by rw [hK]; exact Kn.learned_cleared _ _
  have HSt := hid (fun (v : World) => c_prime_yes o l m v D hk K hK)
  have HCo := hid (fun (L pb : Nat) (xs : List Value) (pd : Nat → Prop) (fb : Nat) (sv : Value) (v : World) (hL : L ≤ v.heap.size) (h : WS L pb 133 xs pd fb sv (Wr.fresh K) v) => c_compress_no L pb xs pd fb sv K v hKo hKc hL T hT (by rw [Bool.eq_false_iff]; exact fun e => hu ⟨hKo, e⟩) h)
  have HS0 := hid hs0
  clear hk hK hu hKo hKc hs0
  go_enter Try.func107, Try.ntmps107
  go_wp2_with fail
  refine (HSt.out _).mono ?_
  rintro e w1 ⟨pb, fb, db, te, rfl, hws, hown, hb1⟩
  have HB1 := hid (bel_trans hB0 hb1)
  have HW1 := hid hws
  have hsz := hb1.size
  have hb0 := hB0.size
  clear hws hown y0 y1 y2 hb1
  go_wp2_with fail
  go_loopw [10, 25] (fun z i wr => (i = .int .i64 0 ∧ z = .int .i64 0 ∧ wr = w1)) (fun _ i _ => (2 - intOf i).toNat)
  case atStart => exact ⟨rfl, rfl, rfl⟩
  case round =>
    obtain ⟨rfl, rfl, hww⟩ := hrel
    have hww2 := hww.symm
    subst hww2
    clear hww
    have p0 : w1.cell? ⟨s0, 0, none⟩ = some (.string T) := (HS0.out.on HB1.out).cell 0
    go_wp2_with fail
    refine (HCo.out _ pb _ _ fb _ _ hsz HW1.out).mono ?_
    rintro e w2 ⟨rfl, hb2, hc2, h2⟩
    go_wp2
    go_ret2
    exact ⟨rfl, HB1.out.trans (hb2.mono hb0)⟩

set_option maxHeartbeats 4000000 in
set_option maxRecDepth 100000 in
theorem c_sizeWith_yes (hk : FitsOk (begun o l m) D) (K : Kn) (hK : K = (begun o l m).learned D.data.toList) (hu : FitsOk K T) : Calls Try.prog 107 #[.agg #[.int .i64 o, .int .i64 l, .int .i64 m], .string D, .slice (some ⟨s0, 0, none⟩) 1 1] w fun e w' => e = .returned (.tuple #[.int .i64 ((K.packed (K.greedy T.data.toList)).size : Nat), .bool true]) ∧ Below w.heap.size w w' := by
  have hB0 : Below w.heap.size w (w.alloc (.cells #[.int .i64 o, .int .i64 l, .int .i64 m] 52)) := by (repeat (first | with_reducible (first | assumption | exact Below.refl _ _ | refine bel_alloc ?_ _ | refine bel_drew ?_ | refine bel_drewN ?_ _ | refine bel_set ?_ (by first | omega | (simp; done) | (simp; omega)) _ | refine bel_trans ?_ (by assumption)) | assumption | refine bel_trans ?_ (by assumption)))
  obtain ⟨y0, y1, y2⟩ := (Blk.new w 52 #[.int .i64 o, .int .i64 l, .int .i64 m]).cells3
  have hKo : K.Ok := by rw [hK]; exact hk.1.learned hk.lits.1
  have hKc : K.cleared = K := by rw [hK]; exact Kn.learned_cleared _ _
  have HSt := hid (fun (v : World) => c_prime_yes o l m v D hk K hK)
  have HCo := hid (fun (L pb : Nat) (xs : List Value) (pd : Nat → Prop) (fb : Nat) (sv : Value) (v : World) (hL : L ≤ v.heap.size) (h : WS L pb 133 xs pd fb sv (Wr.fresh K) v) => c_compress_yes L pb xs pd fb sv K v hKc hL T hu h)
  obtain ⟨X, hX⟩ : ∃ X, X = K.packed (K.greedy T.data.toList) := ⟨_, rfl⟩
  have hXs : X.size ≤ 4000 := by rw [hX]; exact hu.packed_le
  simp only [← hX] at HCo ⊢
  obtain ⟨N, hN⟩ : ∃ N, N = X.size := ⟨_, rfl⟩
  have hXn : (X.size : Int) = (N : Int) := by omega
  rw [← hN] at hXs ⊢
  clear hX hN
  have HS0 := hid hs0
  clear hk hK hu hKo hKc hs0
  go_enter Try.func107, Try.ntmps107
  go_wp2_with fail
  refine (HSt.out _).mono ?_
  rintro e w1 ⟨pb, fb, db, te, rfl, hws, hown, hb1⟩
  have HB1 := hid (bel_trans hB0 hb1)
  have HW1 := hid hws
  have hsz := hb1.size
  have hb0 := hB0.size
  clear hws hown y0 y1 y2 hb1
  go_wp2_with fail
  go_loopw [10, 25] (fun z i wr => (i = .int .i64 0 ∧ z = .int .i64 0 ∧ wr = w1) ∨ (i = .int .i64 1 ∧ z = .int .i64 (N : Int) ∧ Hid (Below w.heap.size w wr))) (fun _ i _ => (2 - intOf i).toNat)
  case atStart => exact Or.inl ⟨rfl, rfl, rfl⟩
  case round =>
    rcases hrel with ⟨rfl, rfl, hww⟩ | ⟨rfl, rfl, HB2⟩
    · have hww2 := hww.symm
      subst hww2
      clear hww
      have p0 : w1.cell? ⟨s0, 0, none⟩ = some (.string T) := (HS0.out.on HB1.out).cell 0
      go_wp2_with fail
      refine (HCo.out _ pb _ _ fb _ _ hsz HW1.out).mono ?_
      rintro e w2 ⟨rfl, hb2, hc2, h2⟩
      have HB2 := hid (HB1.out.trans (hb2.mono hb0))
      clear hb2 hc2 h2 p0
      go_wp2
      go_roundw
      case rel => exact Or.inr ⟨by first | exact trivial | rfl, by simp, HB2⟩
      case measure => simp [intOf]
    · go_wp2
      go_ret2
      exact ⟨rfl, HB2.out⟩

end

theorem cw_all (o l m : Int) (D T : ByteArray) (hD : D.size ≤ maxLen) (hT : T.size ≤ maxLen) : ∃ (X : ByteArray) (b : Bool), X.size ≤ 4000 ∧ (b = false → X = ByteArray.empty) ∧ (∀ w : World, Calls Try.prog 48 #[.agg #[.int .i64 o, .int .i64 l, .int .i64 m], .string D, .string T] w fun e w' => e = .returned (.tuple #[.string X, .bool b]) ∧ Below w.heap.size w w') ∧ (∀ (w : World) (s0 : Nat), Blk w s0 9 #[.string T] → Calls Try.prog 107 #[.agg #[.int .i64 o, .int .i64 l, .int .i64 m], .string D, .slice (some ⟨s0, 0, none⟩) 1 1] w fun e w' => e = .returned (.tuple #[.int .i64 (X.size : Nat), .bool b]) ∧ Below w.heap.size w w') := by
  by_cases hk : FitsOk (begun o l m) D
  · by_cases hu : FitsOk ((begun o l m).learned D.data.toList) T
    · exact ⟨_, true, hu.packed_le, fun e => by simp at e, fun w => c_sCompressWith_yes o l m w D T hk _ rfl hu, fun w s0 h => c_sizeWith_yes o l m w D T s0 h hk _ rfl hu⟩
    · exact ⟨ByteArray.empty, false, by simp, fun _ => rfl, fun w => c_sCompressWith_bad o l m w D T hk _ rfl hT hu, fun w s0 h => c_sizeWith_bad o l m w D T s0 h hk _ rfl hT hu⟩
  · exact ⟨ByteArray.empty, false, by simp, fun _ => rfl, fun w => c_sCompressWith_no o l m w D T hD hk, fun w s0 h => c_sizeWith_no o l m w D T s0 h hD hk⟩

def gainV (a b : Nat) (p q : Bool) : Int := if p = true ∧ q = true then (a : Int) - (b : Int) else 0

theorem c_gain (o l m : Int) (D T : ByteArray) (hD : D.size ≤ maxLen) (hT : T.size ≤ maxLen) : ∃ (g : Int) (b : Bool), (∀ w : World, Calls Try.prog 53 #[.agg #[.int .i64 o, .int .i64 l, .int .i64 m], .string D, .string T] w fun e w' => e = .returned (.tuple #[.int .i64 g, .bool b]) ∧ Below w.heap.size w w') ∧ (∀ w : World, Calls Try.prog 54 #[.agg #[.int .i64 o, .int .i64 l, .int .i64 m], .string D, .string T] w fun e w' => e = .returned (.tuple #[.int .i64 g, .bool b]) ∧ Below w.heap.size w w') := by
  obtain ⟨X, p, hX, hX0, hXs, hXi⟩ := cw_all o l m ByteArray.empty T (by simp [maxLen]) hT
  obtain ⟨Y, q, hY, hY0, hYs, hYi⟩ := cw_all o l m D T hD hT
  have HXs := hid hXs
  have HXi := hid hXi
  have HYs := hid hYs
  have HYi := hid hYi
  obtain ⟨a, ha⟩ : ∃ a, a = X.size := ⟨_, rfl⟩
  obtain ⟨b, hb⟩ : ∃ b, b = Y.size := ⟨_, rfl⟩
  have hxa : (X.size : Int) = (a : Int) := by omega
  have hyb : (Y.size : Int) = (b : Int) := by omega
  simp only [← ha] at HXi
  simp only [← hb] at HYi
  rw [← ha] at hX
  rw [← hb] at hY
  clear hXs hXi hYs hYi hX0 hY0 ha hb hD hT
  refine ⟨gainV a b p q, p && q, fun w => ?_, fun w => ?_⟩
  · have HB := hid (Blk.new w 52 #[.int .i64 o, .int .i64 l, .int .i64 m])
    obtain ⟨y0, y1, y2⟩ := HB.out.cells3
    cases p with
    | false =>
      go_enter Try.func53, Try.ntmps53
      go_wp2_with fail
      refine (HXs.out _).mono ?_
      rintro e w1 ⟨rfl, hb1⟩
      have HB1 := hid (HB.out.on hb1)
      clear y0 y1 y2
      obtain ⟨y0, y1, y2⟩ := HB1.out.cells3
      go_wp2_with fail
      refine (HYs.out _).mono ?_
      rintro e w2 ⟨rfl, hb2⟩
      go_wp2
      go_ret2
      exact ⟨rfl, by (repeat (first | with_reducible (first | assumption | exact Below.refl _ _ | refine bel_alloc ?_ _ | refine bel_drew ?_ | refine bel_drewN ?_ _ | refine bel_set ?_ (by first | omega | (simp; done) | (simp; omega)) _ | refine bel_trans ?_ (by assumption)) | assumption | refine bel_trans ?_ (by assumption)))⟩
    | true =>
      cases q with
      | false =>
        go_enter Try.func53, Try.ntmps53
        go_wp2_with fail
        refine (HXs.out _).mono ?_
        rintro e w1 ⟨rfl, hb1⟩
        have HB1 := hid (HB.out.on hb1)
        clear y0 y1 y2
        obtain ⟨y0, y1, y2⟩ := HB1.out.cells3
        go_wp2_with fail
        refine (HYs.out _).mono ?_
        rintro e w2 ⟨rfl, hb2⟩
        go_wp2
        go_ret2
        exact ⟨rfl, by (repeat (first | with_reducible (first | assumption | exact Below.refl _ _ | refine bel_alloc ?_ _ | refine bel_drew ?_ | refine bel_drewN ?_ _ | refine bel_set ?_ (by first | omega | (simp; done) | (simp; omega)) _ | refine bel_trans ?_ (by assumption)) | assumption | refine bel_trans ?_ (by assumption)))⟩
      | true =>
        have HG := hid (show gainV a b true true = (a : Int) - (b : Int) from rfl)
        go_enter Try.func53, Try.ntmps53
        go_wp2_with fail
        refine (HXs.out _).mono ?_
        rintro e w1 ⟨rfl, hb1⟩
        have HB1 := hid (HB.out.on hb1)
        clear y0 y1 y2
        obtain ⟨y0, y1, y2⟩ := HB1.out.cells3
        go_wp2_with fail
        refine (HYs.out _).mono ?_
        rintro e w2 ⟨rfl, hb2⟩
        go_wp2
        go_ret2
        exact ⟨by rw [HG.out]; rfl, by (repeat (first | with_reducible (first | assumption | exact Below.refl _ _ | refine bel_alloc ?_ _ | refine bel_drew ?_ | refine bel_drewN ?_ _ | refine bel_set ?_ (by first | omega | (simp; done) | (simp; omega)) _ | refine bel_trans ?_ (by assumption)) | assumption | refine bel_trans ?_ (by assumption)))⟩
  · have HB := hid ((Blk.new w 52 #[.int .i64 o, .int .i64 l, .int .i64 m]).alloc (.cells #[.string T] 9))
    have HT1 := hid (show Blk ((w.alloc (.cells #[.int .i64 o, .int .i64 l, .int .i64 m] 52)).alloc (.cells #[.string T] 9)) (w.heap.size + 1) 9 #[.string T] by have := Blk.new (w.alloc (.cells #[.int .i64 o, .int .i64 l, .int .i64 m] 52)) 9 #[.string T]; rw [World.size_alloc] at this; exact this)
    obtain ⟨y0, y1, y2⟩ := (Blk.new w 52 #[.int .i64 o, .int .i64 l, .int .i64 m]).cells3
    cases p with
    | false =>
      go_enter Try.func54, Try.ntmps54
      go_wp2_with fail
      refine (HXi.out _ _ HT1.out).mono ?_
      rintro e w1 ⟨rfl, hb1⟩
      go_wp2
      go_ret2
      exact ⟨rfl, by (repeat (first | with_reducible (first | assumption | exact Below.refl _ _ | refine bel_alloc ?_ _ | refine bel_drew ?_ | refine bel_drewN ?_ _ | refine bel_set ?_ (by first | omega | (simp; done) | (simp; omega)) _ | refine bel_trans ?_ (by assumption)) | assumption | refine bel_trans ?_ (by assumption)))⟩
    | true =>
      go_enter Try.func54, Try.ntmps54
      go_wp2_with fail
      refine (HXi.out _ _ HT1.out).mono ?_
      rintro e w1 ⟨rfl, hb1⟩
      have HB1 := hid (HB.out.on hb1)
      have hB1 : Below w.heap.size w w1 := by (repeat (first | with_reducible (first | assumption | exact Below.refl _ _ | refine bel_alloc ?_ _ | refine bel_drew ?_ | refine bel_drewN ?_ _ | refine bel_set ?_ (by first | omega | (simp; done) | (simp; omega)) _ | refine bel_trans ?_ (by assumption)) | assumption | refine bel_trans ?_ (by assumption)))
      clear y0 y1 y2 hb1
      obtain ⟨y0, y1, y2⟩ := HB1.out.cells3
      go_wp2_with fail
      refine (HYi.out _ _ (Blk.new w1 _ _)).mono ?_
      rintro e w2 ⟨rfl, hb2⟩
      have hB2 : Below w.heap.size w w2 := by (repeat (first | with_reducible (first | assumption | exact Below.refl _ _ | refine bel_alloc ?_ _ | refine bel_drew ?_ | refine bel_drewN ?_ _ | refine bel_set ?_ (by first | omega | (simp; done) | (simp; omega)) _ | refine bel_trans ?_ (by assumption)) | assumption | refine bel_trans ?_ (by assumption)))
      clear y0 y1 y2 hb2
      cases q with
      | false =>
        go_wp2
        go_ret2
        exact ⟨rfl, hB2⟩
      | true =>
        have HG := hid (show gainV a b true true = (a : Int) - (b : Int) from rfl)
        go_wp2
        go_ret2
        exact ⟨by rw [HG.out]; rfl, hB2⟩
end Go.Proofs.Ytfklkepodpcdgaa
