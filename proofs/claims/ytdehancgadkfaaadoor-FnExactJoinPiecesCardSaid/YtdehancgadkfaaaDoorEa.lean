/- Slices of pieces (a number and a string each): in memory, owned, made; the laws' own helpers on them. No condition but that they are not too long. -/
import Derived.Test.YtdehancgadkfaaaDoorBb
import Derived.Test.YtdehancgadkfaaaDoorBa
import Derived.Test.YtdehancgadkfaaaDoorYn
import Derived.Deep.SlicePairs
import Derived.Deep.QuietTactic
import Derived.BigQuiet
namespace Go.Proofs.YtdehancgadkfaaaDoor
open Go.ChangeShapes Go.WideShapes Go.ChangeAt Go.RowKit Go.Joins Go.Deep
set_option linter.unusedVariables false
set_option linter.unusedSimpArgs false

abbrev Qp := Int × ByteArray
def qv (p : Qp) : List Value := [.int .i64 p.1, .string p.2]
def qvs (l : List Qp) : List Value := l.flatMap qv
theorem qvs_cons (b : Qp) (l : List Qp) : qvs (b :: l) = qv b ++ qvs l := by simp [qvs]
theorem qvs_append (l r : List Qp) : qvs (l ++ r) = qvs l ++ qvs r := by simp [qvs]
theorem qvs_len (l : List Qp) : (qvs l).length = l.length * 2 := by
  induction l with
  | nil => rfl
  | cons b l ih => rw [qvs_cons, List.length_append, ih]; simp [qv]; omega
theorem qvs_get (l : List Qp) (i : Nat) (b : Qp) (h : l[i]? = some b) : (qvs l)[i * 2]? = some (.int .i64 b.1) ∧ (qvs l)[i * 2 + 1]? = some (.string b.2) := by
  induction l generalizing i with
  | nil => simp at h
  | cons c l ih =>
    rw [qvs_cons]
    cases i with
    | zero => simp at h; subst h; simp [qv]
    | succ i =>
      have := ih i (by simpa using h)
      rw [show (i + 1) * 2 = i * 2 + 1 + 1 from by omega]
      simpa [qv] using this

def QsAt (w : World) (L : Nat) (A : Option Addr) (cap : Nat) (l : List Qp) : Prop :=
  l.length ≤ cap ∧ cap ≤ maxLen ∧ (A = none → cap = 0) ∧ (0 < l.length → ∃ g off, A = some ⟨g, off, none⟩ ∧ g < L ∧ ∀ i b, l[i]? = some b → w.cell? ⟨g, off + i * 2, none⟩ = some (.int .i64 b.1) ∧ w.cell? ⟨g, off + i * 2 + 1, none⟩ = some (.string b.2))
theorem QsAt.keep {w w' : World} {L cap : Nat} {A : Option Addr} {l : List Qp} (h : QsAt w L A cap l) (hk : ∀ k, k < L → w'.heap[k]? = w.heap[k]?) : QsAt w' L A cap l :=
  ⟨h.1, h.2.1, h.2.2.1, fun hn => by
    obtain ⟨b, off, e, hb, hc⟩ := h.2.2.2 hn
    refine ⟨b, off, e, hb, fun i p hi => ?_⟩
    have h1 := hc i p hi
    exact ⟨(World.cell?_of_block (a := ⟨b, off + i * 2, none⟩) (hk b hb)).trans h1.1, (World.cell?_of_block (a := ⟨b, off + i * 2 + 1, none⟩) (hk b hb)).trans h1.2⟩⟩
theorem QsAt.mono {w : World} {L L' cap : Nat} {A : Option Addr} {l : List Qp} (h : QsAt w L A cap l) (hL : L ≤ L') : QsAt w L' A cap l :=
  ⟨h.1, h.2.1, h.2.2.1, fun hn => by obtain ⟨b, off, e, hb, hc⟩ := h.2.2.2 hn; exact ⟨b, off, e, by omega, hc⟩⟩
theorem QsAt.below {w w' : World} {L B cap : Nat} {A : Option Addr} {l : List Qp} (h : QsAt w L A cap l) (hb : Below B w w') (hL : L ≤ B) : QsAt w' L A cap l :=
  h.keep fun k hk => hb.block k (by omega)
theorem QsAt.nil (w : World) (L : Nat) : QsAt w L none 0 [] := ⟨by simp, by simp [maxLen], fun _ => rfl, fun h => by simp at h⟩
theorem qp_at {w : World} {L cap : Nat} {A : Option Addr} {l : List Qp} (h : QsAt w L A cap l) (i : Nat) (hi : i < l.length) : ∃ g off, A = some ⟨g, off, none⟩ ∧ g < L ∧ w.cell? ⟨g, off + i * 2, none⟩ = some (.int .i64 l[i].1) ∧ w.cell? ⟨g, off + i * 2 + 1, none⟩ = some (.string l[i].2) := by
  obtain ⟨g, off, e, hg, hc⟩ := h.2.2.2 (by omega)
  have := hc i l[i] (List.getElem?_eq_getElem hi)
  exact ⟨g, off, e, hg, this.1, this.2⟩
theorem own_qs {w : World} {B : Nat} {e : TypeId} {v : Value} {n : Nat} {l : List Qp} (h : w.ownsRow B e 2 v n (qvs l)) : ∃ A cap, v = .slice A l.length cap ∧ QsAt w w.heap.size A cap l ∧ n = l.length := by
  have hl := h.1
  rw [qvs_len] at hl
  have hn : n = l.length := by omega
  subst hn
  have hlt := h.lt
  rcases h.2 with ⟨rfl, h0⟩ | ⟨g, cap, cur, rfl, hb, hh, hnc, hcm, hsz, htk⟩
  · have : l = [] := List.length_eq_zero_iff.1 h0
    subst this
    exact ⟨none, 0, rfl, QsAt.nil _ _, rfl⟩
  · have hg := hlt g rfl
    refine ⟨some ⟨g, 0, none⟩, cap, rfl, ⟨hnc, hcm, by simp, fun hn => ⟨g, 0, rfl, hg.2, fun i p hi => ?_⟩⟩, rfl⟩
    have hi2 := get_lt hi
    have c0 := h.cellAt (i * 2) (by omega)
    have c1 := h.cellAt (i * 2 + 1) (by omega)
    have := qvs_get l i p hi
    rw [this.1] at c0
    rw [this.2] at c1
    simp only [Nat.zero_add]
    exact ⟨c0, c1⟩
theorem own_qsq {w : World} {B : Nat} {e : TypeId} {A : Option Addr} {n cap : Nat} {l : List Qp} (h : w.ownsRow B e 2 (.slice A n cap) n (qvs l)) : QsAt w w.heap.size A cap l := by
  obtain ⟨A', cap', e1, h2, _⟩ := own_qs h
  obtain ⟨rfl, -, rfl⟩ : A = A' ∧ n = l.length ∧ cap = cap' := by simpa using e1
  exact h2
theorem own_qs_nil (w : World) (B : Nat) (e : TypeId) : w.ownsRow B e 2 (.slice none 0 0) 0 (qvs []) := World.ownsRow_nil w B e 2
theorem own_qp {w : World} {B : Nat} {e : TypeId} {G n cap : Nat} {l : List Qp} (h : w.ownsRow B e 2 (.slice (some ⟨G, 0, none⟩) n cap) n (qvs l)) (k : Nat) (p : Qp) (hk : l[k]? = some p) : w.cell? ⟨G, k * 2, none⟩ = some (.int .i64 p.1) ∧ w.cell? ⟨G, k * 2 + 1, none⟩ = some (.string p.2) := by
  have hl := h.1
  rw [qvs_len] at hl
  have hk2 := get_lt hk
  have := qvs_get l k p hk
  exact ⟨(h.cellAt _ (by omega)).trans this.1, (h.cellAt _ (by omega)).trans this.2⟩
theorem Tryd.info_piece : (Tryd.prog.info? 47).map (fun i => (i.zero, i.size, i.bytes)) = some (some (.agg #[.int .i64 0, .string ByteArray.empty]), 2, 24) := by kernel_rfl
theorem qvs_set0 (l : List Qp) (k : Nat) (p : Qp) (h : l[k]? = some p) (x : Int) : (qvs l).set (k * 2) (.int .i64 x) = qvs (l.set k (x, p.2)) := by
  induction l generalizing k with
  | nil => simp at h
  | cons q t ih =>
    cases k with
    | zero => simp at h; subst h; rw [List.set_cons_zero, qvs_cons, qvs_cons]; rfl
    | succ k =>
      rw [List.getElem?_cons_succ] at h
      rw [List.set_cons_succ, qvs_cons, qvs_cons, ← ih k h, show (k + 1) * 2 = k * 2 + 1 + 1 from by omega]
      rfl
theorem qvs_set1 (l : List Qp) (k : Nat) (p : Qp) (h : l[k]? = some p) (y : ByteArray) : (qvs l).set (k * 2 + 1) (.string y) = qvs (l.set k (p.1, y)) := by
  induction l generalizing k with
  | nil => simp at h
  | cons q t ih =>
    cases k with
    | zero => simp at h; subst h; rw [List.set_cons_zero, qvs_cons, qvs_cons]; rfl
    | succ k =>
      rw [List.getElem?_cons_succ] at h
      rw [List.set_cons_succ, qvs_cons, qvs_cons, ← ih k h, show (k + 1) * 2 + 1 = k * 2 + 1 + 1 + 1 from by omega]
      rfl
theorem own_put_q0 {w : World} {B : Nat} {e : TypeId} {G n cap : Nat} {l : List Qp} (h : w.ownsRow B e 2 (.slice (some ⟨G, 0, none⟩) n cap) n (qvs l)) (k : Nat) (p : Qp) (hk : l[k]? = some p) (x : Int) :
    (w.setCell ⟨G, k * 2, none⟩ (.int .i64 x)).ownsRow B e 2 (.slice (some ⟨G, 0, none⟩) n cap) n (qvs (l.set k (x, p.2))) := by
  have h1 := (h.stored (k * 2) (.int .i64 x)).1
  rw [qvs_set0 l k p hk] at h1; exact h1
theorem own_put_q1 {w : World} {B : Nat} {e : TypeId} {G n cap : Nat} {l : List Qp} (h : w.ownsRow B e 2 (.slice (some ⟨G, 0, none⟩) n cap) n (qvs l)) (k : Nat) (p : Qp) (hk : l[k]? = some p) (y : ByteArray) :
    (w.setCell ⟨G, k * 2 + 1, none⟩ (.string y)).ownsRow B e 2 (.slice (some ⟨G, 0, none⟩) n cap) n (qvs (l.set k (p.1, y))) := by
  have h1 := (h.stored (k * 2 + 1) (.string y)).1
  rw [qvs_set1 l k p hk] at h1; exact h1
theorem made_qs (n : Nat) : (madeCells (Value.agg #[.int .i64 0, .string ByteArray.empty]).cells (n * 2)).toList = qvs (List.replicate n ((0 : Int), ByteArray.empty)) := by
  have hl : (qvs (List.replicate n ((0 : Int), ByteArray.empty))).length = n * 2 := by rw [qvs_len]; simp
  apply List.ext_getElem?
  intro j
  by_cases hj : j < n * 2
  · have h2 := qvs_get (List.replicate n ((0 : Int), ByteArray.empty)) (j / 2) (0, ByteArray.empty) (by rw [List.getElem?_replicate, if_pos (by omega)])
    have h1 : (madeCells (Value.agg #[.int .i64 0, .string ByteArray.empty]).cells (n * 2)).toList[j]? = some (if j % 2 = 0 then .int .i64 0 else .string ByteArray.empty) := by
      simp only [madeCells, Value.cells, Array.getElem?_toList, Array.getElem?_map, Array.getElem?_range, hj, if_true, Option.map_some]
      rcases (show j % 2 = 0 ∨ j % 2 = 1 from by omega) with h | h <;> simp [h]
    rw [h1]
    rcases (show j = j / 2 * 2 ∨ j = j / 2 * 2 + 1 from by omega) with h3 | h3
    · rw [if_pos (by omega), h3, h2.1]
    · rw [if_neg (by omega), h3, h2.2]
  · rw [List.getElem?_eq_none (by simp [size_madeCells]; omega), List.getElem?_eq_none (by omega)]
/-- 'make([]Piece, n)': ONE goal is left. -/
theorem make_qs {P : Program} {w : World} {ops : Array Oper} {rest : List Oper} {o : Oper} {a : Act} {Q : Exit → Act → World → Prop} (hg : o.guard = none) (l c : Operand) (t : TypeId) (hop : o.op = Op.makeSlice t l c)
    (B : Nat) (e : TypeId) (ht : P.underlying t = some (.slice e)) (hinfo : (P.info? e).map (fun i => (i.zero, i.size, i.bytes)) = some (some (.agg #[.int .i64 0, .string ByteArray.empty]), 2, 24)) (kl kc : IntKind) (L C : Int) (n : Nat)
    (hl : a.eval l = .int kl L) (hc : a.eval c = .int kc C) (hL : L = (n : Int)) (hC : C = (n : Int)) (hn : n ≤ 1000000000000) (hB : B ≤ w.heap.size)
    (hK : ∀ w', w'.ownsRow B e 2 (.slice (some ⟨w.heap.size, 0, none⟩) n n) n (qvs (List.replicate n (0, ByteArray.empty))) → Below B w w' → w.grownBy w' none → wpList P ops Q rest (a.put o.dst (.slice (some ⟨w.heap.size, 0, none⟩) n n)) w') : wpList P ops Q (o :: rest) a w := by
  obtain ⟨i0, hi, hz0, hz1, hz2⟩ := info_parts hinfo
  refine wpList_make_full w hg l c t hop B e i0 (.agg #[.int .i64 0, .string ByteArray.empty]) 2 ht hi hz0 hz1 kl kc L C n hl hc hL hC (by rw [hz2]; omega) (by unfold maxLen; omega) hB ?_
  intro w' hown hg'
  rw [made_qs] at hown
  exact hK w' hown (below_of_grown hg' hB (by simp)) hg'

theorem c_toPiece (a : Int) (d : ByteArray) (w : World) : Calls Tryd.prog 25 #[.agg #[.int .i64 a, .string d]] w fun e w' => e = .returned (.agg #[.int .i64 a, .string d]) ∧ Below w.heap.size w w' := by
  go_enter Tryd.func25, Tryd.ntmps25
  go_wp2
  exact bodyPost_ret (v := .agg #[.int .i64 a, .string d]) (by simp [results, Tryd.results25, go_sem]) rfl ⟨rfl, by (repeat (first | with_reducible (first | assumption | exact Below.refl _ _ | refine bel_alloc ?_ _ | refine bel_drew ?_ | refine bel_drewN ?_ _ | refine bel_set ?_ (by first | omega | (simp; done) | (simp; omega)) _ | refine bel_trans ?_ (by assumption)) | assumption | refine bel_trans ?_ (by assumption)))⟩

theorem c_toPieceS (A : Option Addr) (cap : Nat) (ps : List Qp) (L : Nat) (w : World) (h : QsAt w L A cap ps) (hL : L ≤ w.heap.size) (hn : ps.length ≤ 1048576) : Calls Tryd.prog 8 #[.slice A ps.length cap] w fun e w' => ∃ g, e = .returned (.slice (some ⟨g, 0, none⟩) ps.length ps.length) ∧ w'.ownsRow w.heap.size 47 2 (.slice (some ⟨g, 0, none⟩) ps.length ps.length) ps.length (qvs ps) ∧ Below w.heap.size w w' := by
  obtain ⟨N, hN⟩ : ∃ N, N = ps.length := ⟨_, rfl⟩
  have HN := hid hN
  rw [← hN] at hn ⊢
  clear hN
  go_enter Tryd.func8, Tryd.ntmps8
  go_wp2_with (at_make; refine make_qs rfl _ _ 26 rfl w.heap.size 47 Tryd.underlying26 Tryd.info_piece .i64 .i64 _ _ N rfl rfl (by omega) (by omega) (by omega) (Nat.le_refl _) ?_; intro w1 hown1 hb1 hg1)
  go_loopw [4] (fun i wr => ∃ k : Nat, k ≤ N ∧ i = .int .i64 k ∧ wr.ownsRow w.heap.size 47 2 (.slice (some ⟨w.heap.size, 0, none⟩) N N) N (qvs (ps.take k ++ List.replicate (N - k) (0, ByteArray.empty))) ∧ Below w.heap.size w wr) (fun i _ => N - (intOf i).toNat)
  case atStart => exact ⟨0, Nat.zero_le _, rfl, by simpa using hown1, by (repeat (first | with_reducible (first | assumption | exact Below.refl _ _ | refine bel_alloc ?_ _ | refine bel_drew ?_ | refine bel_drewN ?_ _ | refine bel_set ?_ (by first | omega | (simp; done) | (simp; omega)) _ | refine bel_trans ?_ (by assumption)) | assumption | refine bel_trans ?_ (by assumption)))⟩
  case round =>
    obtain ⟨k, hk, rfl, hown, hbl⟩ := hrel
    by_cases hlt : k < N
    · have hlt2 : k < ps.length := by have := HN.out; omega
      obtain ⟨b, off, rfl, hb, hc0, hc1⟩ := qp_at (h.below hbl hL) k hlt2
      have hb2 : b < wr.heap.size := by have := hbl.size; omega
      obtain ⟨p, hp⟩ : ∃ p, p = ps[k] := ⟨_, rfl⟩
      rw [← hp] at hc0 hc1
      have HP := hid hp
      clear hp
      have HE := hid (show (ps.take k ++ List.replicate (N - k) ((0 : Int), ByteArray.empty))[k]? = some (0, ByteArray.empty) by
        have := HN.out
        rw [List.getElem?_append_right (by simp; omega), List.getElem?_replicate, if_pos (by simp; omega)])
      go_wp2_with (go_at_call 25; (refine (c_toPiece _ _ _).mono ?_; rintro e w2 ⟨rfl, hb2⟩; have hown2 := own_on hown hb2; obtain ⟨q0, q1⟩ := own_qp hown2 k _ HE.out; have f0 := hown2.frozenAt (k * 2); have f1 := hown2.frozenAt (k * 2 + 1)))
      have hst := own_put_q1 (own_put_q0 hown2 k _ HE.out p.1) k (p.1, ByteArray.empty) (by rw [List.getElem?_set_self (get_lt HE.out)]) p.2
      rw [List.set_set] at hst
      have HS := hid (show (ps.take k ++ List.replicate (N - k) ((0 : Int), ByteArray.empty)).set k (p.1, p.2) = ps.take (k + 1) ++ List.replicate (N - (k + 1)) (0, ByteArray.empty) by
        rw [set_done _ (ps.take k) (0, ByteArray.empty) N k _ rfl (by simp; omega) hlt, HP.out, List.take_succ_eq_append_getElem hlt2])
      go_roundw
      case rel => exact ⟨k + 1, by omega, by go_num, by rw [← HS.out]; exact hst, by (repeat (first | with_reducible (first | assumption | exact Below.refl _ _ | refine bel_alloc ?_ _ | refine bel_drew ?_ | refine bel_drewN ?_ _ | refine bel_set ?_ (by first | omega | (simp; done) | (simp; omega)) _ | refine bel_trans ?_ (by assumption)) | assumption | refine bel_trans ?_ (by assumption)))⟩
      case measure => simp [intOf]; omega
    · have HD := hid (show ps.take k ++ List.replicate (N - k) ((0 : Int), ByteArray.empty) = ps by rw [show N - k = 0 from by omega, List.take_of_length_le (by have := HN.out; omega)]; simp)
      rw [HD.out] at hown
      go_wp2
      go_ret
      exact ⟨_, rfl, hown, by (repeat (first | with_reducible (first | assumption | exact Below.refl _ _ | refine bel_alloc ?_ _ | refine bel_drew ?_ | refine bel_drewN ?_ _ | refine bel_set ?_ (by first | omega | (simp; done) | (simp; omega)) _ | refine bel_trans ?_ (by assumption)) | assumption | refine bel_trans ?_ (by assumption)))⟩

theorem c_eqPiece (a : Int) (d : ByteArray) (w : World) : Calls Tryd.prog 27 #[.agg #[.int .i64 a, .string d], .agg #[.int .i64 a, .string d]] w fun e w' => e = .returned (.bool true) ∧ Below w.heap.size w w' := by
  go_enter Tryd.func27, Tryd.ntmps27
  go_wp2
  go_ret
  exact ⟨rfl, by (repeat (first | with_reducible (first | assumption | exact Below.refl _ _ | refine bel_alloc ?_ _ | refine bel_drew ?_ | refine bel_drewN ?_ _ | refine bel_set ?_ (by first | omega | (simp; done) | (simp; omega)) _ | refine bel_trans ?_ (by assumption)) | assumption | refine bel_trans ?_ (by assumption)))⟩

theorem c_eqPieceS (A A2 : Option Addr) (cap cap2 : Nat) (ps : List Qp) (L L2 : Nat) (w : World) (h : QsAt w L A cap ps) (h2 : QsAt w L2 A2 cap2 ps) (hL : L ≤ w.heap.size) (hL2 : L2 ≤ w.heap.size) (hn : ps.length ≤ 1048576) : Calls Tryd.prog 11 #[.slice A ps.length cap, .slice A2 ps.length cap2] w fun e w' => e = .returned (.bool true) ∧ Below w.heap.size w w' := by
  go_enter Tryd.func11, Tryd.ntmps11
  go_wp2_with fail
  go_loopw [5] (fun i wr => ∃ k : Nat, k ≤ ps.length ∧ i = .int .i64 k ∧ Below w.heap.size w wr) (fun i _ => ps.length - (intOf i).toNat)
  case atStart => exact ⟨0, Nat.zero_le _, rfl, by (repeat (first | with_reducible (first | assumption | exact Below.refl _ _ | refine bel_alloc ?_ _ | refine bel_drew ?_ | refine bel_drewN ?_ _ | refine bel_set ?_ (by first | omega | (simp; done) | (simp; omega)) _ | refine bel_trans ?_ (by assumption)) | assumption | refine bel_trans ?_ (by assumption)))⟩
  case round =>
    obtain ⟨k, hk, rfl, hbl⟩ := hrel
    by_cases hlt : k < ps.length
    · obtain ⟨b, off, rfl, hb, hc0, hc1⟩ := qp_at (h.below hbl hL) k hlt
      obtain ⟨d, off2, rfl, hd, hd0, hd1⟩ := qp_at (h2.below hbl hL2) k hlt
      obtain ⟨p, hp⟩ : ∃ p, p = ps[k] := ⟨_, rfl⟩
      rw [← hp] at hc0 hc1 hd0 hd1
      clear hp
      go_wp2_with fail
      go_region_with (go_at_call 27; refine (c_eqPiece _ _ _).mono ?_; rintro e w2 ⟨rfl, hb2⟩; have hc2 := bcell hb2)
      all_goals
        go_wp2
        go_roundw
        case rel => exact ⟨k + 1, by omega, by go_num, by (repeat (first | with_reducible (first | assumption | exact Below.refl _ _ | refine bel_alloc ?_ _ | refine bel_drew ?_ | refine bel_drewN ?_ _ | refine bel_set ?_ (by first | omega | (simp; done) | (simp; omega)) _ | refine bel_trans ?_ (by assumption)) | assumption | refine bel_trans ?_ (by assumption)))⟩
        case measure => simp [intOf]; omega
    · go_wp2
      go_ret
      exact ⟨rfl, by (repeat (first | with_reducible (first | assumption | exact Below.refl _ _ | refine bel_alloc ?_ _ | refine bel_drew ?_ | refine bel_drewN ?_ _ | refine bel_set ?_ (by first | omega | (simp; done) | (simp; omega)) _ | refine bel_trans ?_ (by assumption)) | assumption | refine bel_trans ?_ (by assumption)))⟩

/-- numbers and sizes within an int -/
def QB (ps : List Qp) : Prop := ∀ (i : Nat) (p : Qp), ps[i]? = some p → (-9223372036854775808 ≤ p.1 ∧ p.1 ≤ 9223372036854775807) ∧ p.2.size ≤ maxLen

theorem choose_lt3 {α : Type} [Inhabited α] {n : Nat} {p : Nat → α → Prop} (h : ∀ i, i < n → ∃ q, p i q) : ∃ f : Nat → α, ∀ i, i < n → p i (f i) :=
  ⟨fun i => if hi : i < n then (h i hi).choose else default, fun i hi => by simp only [dif_pos hi]; exact (h i hi).choose_spec⟩

set_option maxRecDepth 100000 in
theorem open_pieces {H : Type} {enc : TypeId × Value → H} {w : World} {spare : Nat → Bool} {held : Bool} {fuel : Nat} {c : Value} {x : DataW H × List MemPlace} (h : DataW.trod enc Tryd.prog w 0 spare held fuel 22 [c] = some x) :
    ∃ (A : Option Addr) (cap : Nat) (ps : List Qp), c = .slice A ps.length cap ∧ QsAt w w.heap.size A cap ps ∧ QB ps := by
  rcases open_slice_pairs Tryd.underlying22 Tryd.underlying44 (by kernel_rfl) rfl rfl (by kernel_rfl) (by kernel_rfl) h with ⟨hc, _⟩ | ⟨a, len, cap, m, n, V0, V1, D0, D1, P0, P1, hc, _, hl, hcm, hm, _, hx⟩
  · simp at hc
    exact ⟨none, 0, [], hc, QsAt.nil _ _, fun i p hp => by simp at hp⟩
  · simp at hc
    have hlm : len ≤ m := by rw [hm]; split <;> omega
    have each : ∀ i, i < len → ∃ q : Int × ByteArray, w.cell? (a.add (i * 2)) = some (.int .i64 q.1) ∧ w.cell? (a.add (i * 2 + 1)) = some (.string q.2) ∧ (-9223372036854775808 ≤ q.1 ∧ q.1 ≤ 9223372036854775807) ∧ q.2.size ≤ maxLen := by
      intro i hi
      obtain ⟨h0, h1, t0, t1⟩ := hx i (by omega)
      obtain ⟨y0, e0, _, w0⟩ := DataW.trod_int Tryd.underlying3 t0
      obtain ⟨y1, e1, _, w1⟩ := DataW.trod_string Tryd.underlying9 t1
      simp only [List.cons.injEq, and_true] at e0 e1
      rw [e0] at h0
      rw [e1] at h1
      exact ⟨(y0, y1), h0, h1, wf_bounds w0, w1⟩
    obtain ⟨q, hq⟩ := choose_lt3 each
    have hlen : ((List.range len).map q).length = len := by simp
    have hget : ∀ i p, ((List.range len).map q)[i]? = some p → i < len ∧ p = q i := by
      intro i p hp
      have := get_lt hp
      rw [hlen] at this
      simp [this] at hp
      exact ⟨this, hp.symm⟩
    refine ⟨some a, cap, (List.range len).map q, by rw [hlen]; exact hc, ⟨by rw [hlen]; exact hl, hcm, by simp, fun hn => ?_⟩, fun i p hp => ?_⟩
    · rw [hlen] at hn
      obtain ⟨b, off, spot⟩ := a
      have hc0 := (hq 0 hn).1
      have hspot : spot = none := by simpa [Addr.add] using World.cell?_spot hc0
      subst hspot
      refine ⟨b, off, rfl, ?_, fun i p hp => ?_⟩
      · have := World.block_lt_of_cell? _ _ hc0
        simpa [Addr.add] using this
      · obtain ⟨hi, rfl⟩ := hget i p hp
        have h1 := hq i hi
        have ea : ∀ j, ((⟨b, off, none⟩ : Addr).add j) = ⟨b, off + j, none⟩ := by intro j; unfold Addr.add; split <;> simp_all
        rw [ea, ea] at h1
        exact ⟨h1.1, h1.2.1⟩
    · obtain ⟨hi, rfl⟩ := hget i p hp
      have h1 := hq i hi
      exact ⟨h1.2.2.1, h1.2.2.2⟩

theorem pieces_of {H : Type} {enc : TypeId × Value → H} {w : World} {spare : Nat → Bool} {held : Bool} {A1 : Option Addr} {n cap : Nat} {d : DataW H} {p : List MemPlace} (h : DataW.Trod enc Tryd.prog w 0 spare held 22 (.slice A1 n cap) d p) :
    ∃ ps : List Qp, n = ps.length ∧ QsAt w w.heap.size A1 cap ps ∧ QB ps := by
  obtain ⟨fuel, hf⟩ := h
  obtain ⟨A', cap', ps, e, h1, h2⟩ := open_pieces hf
  simp only [Value.slice.injEq] at e
  obtain ⟨rfl, rfl, rfl⟩ := e
  exact ⟨ps, rfl, h1, h2⟩

/-- the bytes of all -/
def qtot (l : List Qp) : Nat := tot (l.map Prod.snd)
theorem qtot_take (l : List Qp) (k : Nat) (h : k < l.length) : qtot (l.take (k + 1)) = qtot (l.take k) + l[k].2.size := by
  unfold qtot
  have := tot_take (l.map Prod.snd) k (by simpa using h)
  simpa [List.map_take] using this
theorem qtot_le (l : List Qp) (k : Nat) : qtot (l.take k) ≤ qtot l := by
  unfold qtot
  have := tot_le (l.map Prod.snd) k
  simpa [List.map_take] using this

theorem c_szPiece_yes (a : Int) (d : ByteArray) (F : Int) (w : World) (hF : F ≤ 1048576) (hd : d.size ≤ F) : Calls Tryd.prog 22 #[.agg #[.int .i64 a, .string d], .int .i64 F] w fun e w' => e = .returned (.int .i64 (F - d.size)) ∧ Below w.heap.size w w' := by
  go_enter Tryd.func22, Tryd.ntmps22
  go_wp2
  go_ret
  exact ⟨rfl, by (repeat (first | with_reducible (first | assumption | exact Below.refl _ _ | refine bel_alloc ?_ _ | refine bel_drew ?_ | refine bel_drewN ?_ _ | refine bel_set ?_ (by first | omega | (simp; done) | (simp; omega)) _ | refine bel_trans ?_ (by assumption)) | assumption | refine bel_trans ?_ (by assumption)))⟩

theorem c_szPiece_no (a : Int) (d : ByteArray) (F : Int) (w : World) (hF0 : 0 ≤ F) (hF : F ≤ 1048576) (hs : d.size ≤ maxLen) (hd : F < d.size) : Calls Tryd.prog 22 #[.agg #[.int .i64 a, .string d], .int .i64 F] w fun e w' => e = .returned (.int .i64 (-1)) ∧ Below w.heap.size w w' := by
  unfold maxLen at hs
  go_enter Tryd.func22, Tryd.ntmps22
  go_wp2
  go_ret
  exact ⟨rfl, by (repeat (first | with_reducible (first | assumption | exact Below.refl _ _ | refine bel_alloc ?_ _ | refine bel_drew ?_ | refine bel_drewN ?_ _ | refine bel_set ?_ (by first | omega | (simp; done) | (simp; omega)) _ | refine bel_trans ?_ (by assumption)) | assumption | refine bel_trans ?_ (by assumption)))⟩

theorem c_szPieceS_yes (A : Option Addr) (cap : Nat) (l : List Qp) (L : Nat) (F : Int) (w : World) (h : QsAt w L A cap l) (hL : L ≤ w.heap.size) (hF : F ≤ 1048576) (hb : l.length + qtot l ≤ F) : Calls Tryd.prog 6 #[.slice A l.length cap, .int .i64 F] w fun e w' => e = .returned (.int .i64 (F - l.length - qtot l)) ∧ Below w.heap.size w w' := by
  obtain ⟨N, hN⟩ : ∃ N, N = l.length := ⟨_, rfl⟩
  have HN := hid hN
  have HB := hid hb
  have hNF : (N : Int) ≤ F := by omega
  rw [← hN] at hb ⊢
  clear hN hb
  go_enter Tryd.func6, Tryd.ntmps6
  go_wp2_with fail
  go_loopw [1, 5] (fun m i wr => ∃ k : Nat, k ≤ N ∧ i = .int .i64 k ∧ m = .int .i64 (F - N - qtot (l.take k)) ∧ Below w.heap.size w wr) (fun _ i _ => N - (intOf i).toNat)
  case atStart => exact ⟨0, Nat.zero_le _, rfl, vint (by simp [qtot, tot]), by (repeat (first | with_reducible (first | assumption | exact Below.refl _ _ | refine bel_alloc ?_ _ | refine bel_drew ?_ | refine bel_drewN ?_ _ | refine bel_set ?_ (by first | omega | (simp; done) | (simp; omega)) _ | refine bel_trans ?_ (by assumption)) | assumption | refine bel_trans ?_ (by assumption)))⟩
  case round =>
    obtain ⟨k, hk, rfl, rfl, hbl⟩ := hrel
    rename_i wr _
    by_cases hlt : k < N
    · have hlt2 : k < l.length := by have := HN.out; omega
      obtain ⟨b, off, rfl, hb, hc0, hc1⟩ := qp_at (h.below hbl hL) k hlt2
      obtain ⟨p, hp⟩ : ∃ p, p = l[k] := ⟨_, rfl⟩
      rw [← hp] at hc0 hc1
      obtain ⟨a, ha⟩ : ∃ a, a = qtot (l.take k) := ⟨_, rfl⟩
      have HT := hid (show qtot (l.take (k + 1)) = a + p.2.size by rw [qtot_take l k hlt2, ha, hp])
      have h1 := qtot_le l (k + 1)
      rw [HT.out] at h1
      have h2 : (N : Int) + (a + p.2.size) ≤ F := by have := HB.out; have := HN.out; omega
      have HA := hid ha
      rw [← ha]
      clear hp ha h1
      have HC := hid (fun v => c_szPiece_yes p.1 p.2 (F - N - a) v (by omega) (by omega))
      go_wp2_with fail
      refine (HC.out _).mono ?_
      rintro e w1 ⟨rfl, hb1⟩
      go_wp2_with fail
      go_roundw
      case rel => exact ⟨k + 1, by omega, by go_num, vint (by rw [HT.out]; omega), by (repeat (first | with_reducible (first | assumption | exact Below.refl _ _ | refine bel_alloc ?_ _ | refine bel_drew ?_ | refine bel_drewN ?_ _ | refine bel_set ?_ (by first | omega | (simp; done) | (simp; omega)) _ | refine bel_trans ?_ (by assumption)) | assumption | refine bel_trans ?_ (by assumption)))⟩
      case measure => simp [intOf]; omega
    · have hkN : k = N := by omega
      have HD := hid (show qtot (l.take k) = qtot l by rw [hkN, HN.out, List.take_length])
      rw [HD.out]
      go_wp2
      go_ret
      exact ⟨rfl, hbl⟩

theorem c_szPieceS_no (A : Option Addr) (cap : Nat) (l : List Qp) (L : Nat) (F : Int) (w : World) (h : QsAt w L A cap l) (hS : QB l) (hL : L ≤ w.heap.size) (hF0 : 0 ≤ F) (hF : F ≤ 1048576) (hb : F < l.length + qtot l) : Calls Tryd.prog 6 #[.slice A l.length cap, .int .i64 F] w fun e w' => e = .returned (.int .i64 (-1)) ∧ Below w.heap.size w w' := by
  have hml := h.2.1
  have hml1 := h.1
  unfold maxLen at hml
  obtain ⟨N, hN⟩ : ∃ N, N = l.length := ⟨_, rfl⟩
  have HN := hid hN
  have HB := hid hb
  rw [← hN] at hb hml1 ⊢
  clear hN hb
  by_cases hNF : (N : Int) ≤ F
  · go_enter Tryd.func6, Tryd.ntmps6
    go_wp2_with fail
    go_loopw [1, 5] (fun m i wr => ∃ k : Nat, k ≤ N ∧ i = .int .i64 k ∧ m = .int .i64 (F - N - qtot (l.take k)) ∧ (N : Int) + qtot (l.take k) ≤ F ∧ Below w.heap.size w wr) (fun _ i _ => N - (intOf i).toNat)
    case atStart => exact ⟨0, Nat.zero_le _, rfl, vint (by simp [qtot, tot]), by simp [qtot, tot]; omega, by (repeat (first | with_reducible (first | assumption | exact Below.refl _ _ | refine bel_alloc ?_ _ | refine bel_drew ?_ | refine bel_drewN ?_ _ | refine bel_set ?_ (by first | omega | (simp; done) | (simp; omega)) _ | refine bel_trans ?_ (by assumption)) | assumption | refine bel_trans ?_ (by assumption)))⟩
    case round =>
      obtain ⟨k, hk, rfl, rfl, hle, hbl⟩ := hrel
      rename_i wr _
      by_cases hlt : k < N
      · have hlt2 : k < l.length := by have := HN.out; omega
        obtain ⟨b, off, rfl, hb, hc0, hc1⟩ := qp_at (h.below hbl hL) k hlt2
        have hps := (hS k l[k] (List.getElem?_eq_getElem hlt2)).2
        obtain ⟨p, hp⟩ : ∃ p, p = l[k] := ⟨_, rfl⟩
        rw [← hp] at hc0 hc1 hps
        obtain ⟨a, ha⟩ : ∃ a, a = qtot (l.take k) := ⟨_, rfl⟩
        have HT := hid (show qtot (l.take (k + 1)) = a + p.2.size by rw [qtot_take l k hlt2, ha, hp])
        have HA := hid ha
        rw [← ha] at hle ⊢
        clear hp ha
        by_cases hq : (N : Int) + a + p.2.size ≤ F
        · have HC := hid (fun v => c_szPiece_yes p.1 p.2 (F - N - a) v (by omega) (by omega))
          go_wp2_with fail
          refine (HC.out _).mono ?_
          rintro e w1 ⟨rfl, hb1⟩
          go_wp2_with fail
          go_roundw
          case rel => exact ⟨k + 1, by omega, by go_num, vint (by rw [HT.out]; omega), by rw [HT.out]; omega, by (repeat (first | with_reducible (first | assumption | exact Below.refl _ _ | refine bel_alloc ?_ _ | refine bel_drew ?_ | refine bel_drewN ?_ _ | refine bel_set ?_ (by first | omega | (simp; done) | (simp; omega)) _ | refine bel_trans ?_ (by assumption)) | assumption | refine bel_trans ?_ (by assumption)))⟩
          case measure => simp [intOf]; omega
        · have HC := hid (fun v => c_szPiece_no p.1 p.2 (F - N - a) v (by omega) (by omega) hps (by omega))
          go_wp2_with fail
          refine (HC.out _).mono ?_
          rintro e w1 ⟨rfl, hb1⟩
          go_wp2_with fail
          go_ret
          exact ⟨rfl, by (repeat (first | with_reducible (first | assumption | exact Below.refl _ _ | refine bel_alloc ?_ _ | refine bel_drew ?_ | refine bel_drewN ?_ _ | refine bel_set ?_ (by first | omega | (simp; done) | (simp; omega)) _ | refine bel_trans ?_ (by assumption)) | assumption | refine bel_trans ?_ (by assumption)))⟩
      · exfalso
        have hkN : k = N := by omega
        rw [hkN, HN.out, List.take_length] at hle
        have := HB.out
        omega
  · go_enter Tryd.func6, Tryd.ntmps6
    go_wp2
    go_ret
    exact ⟨rfl, by (repeat (first | with_reducible (first | assumption | exact Below.refl _ _ | refine bel_alloc ?_ _ | refine bel_drew ?_ | refine bel_drewN ?_ _ | refine bel_set ?_ (by first | omega | (simp; done) | (simp; omega)) _ | refine bel_trans ?_ (by assumption)) | assumption | refine bel_trans ?_ (by assumption)))⟩

set_option maxHeartbeats 4000000 in
set_option maxRecDepth 100000 in
theorem c_markTextQ (k : Nat) (w : World) (h0 : 0 < k) (h1 : k ≤ 99999999) : Calls Tryd.prog 28 #[.int .i64 k] w fun e w' => ∃ T, e = .returned (.string T) ∧ Below w.heap.size w w' := by
  go_enter Tryd.func28, Tryd.ntmps28
  go_wp2_with fail
  go_loopw [0, 3] (fun v t wr => ∃ (f n : Nat) (T : ByteArray), v = .int .i64 n ∧ t = .string T ∧ n < 10 ^ f ∧ f ≤ 8 ∧ T.size ≤ 100 - 10 * f ∧ Below w.heap.size w wr) (fun v _ _ => (intOf v).toNat)
  case atStart => exact ⟨8, k, ByteArray.empty, rfl, rfl, by omega, by omega, by simp, by (repeat (first | with_reducible (first | assumption | exact Below.refl _ _ | refine bel_alloc ?_ _ | refine bel_drew ?_ | refine bel_drewN ?_ _ | refine bel_set ?_ (by first | omega | (simp; done) | (simp; omega)) _ | refine bel_trans ?_ (by assumption)) | assumption | refine bel_trans ?_ (by assumption)))⟩
  case round =>
    obtain ⟨f, n, T, rfl, rfl, hn, hf, hT, hbl⟩ := hrel
    have hn4 : n < 100000000 := Nat.lt_of_lt_of_le hn (Nat.pow_le_pow_right (by omega) hf : 10 ^ f ≤ 10 ^ 8)
    by_cases hp : 0 < n
    · cases f with
      | zero => simp at hn; omega
      | succ f =>
      have hd : n / 10 < 10 ^ f := Nat.div_lt_of_lt_mul (by rw [Nat.pow_succ] at hn; omega)
      clear hn
      have h0 := run_one (P := Tryd.prog) (w := wr) Tryd.underlying54 Tryd.underlying5 Tryd.underlying9 (X := 48 + (n : Int) % 10) (c := UInt8.ofNat (48 + n % 10)) (by rw [UInt8.toNat_ofNat']; omega)
      obtain ⟨K0, hK0⟩ : ∃ K0, K0 = str [UInt8.ofNat (48 + n % 10)] := ⟨_, rfl⟩
      rw [← hK0] at h0
      have hz : K0.size = 1 := by rw [hK0, str_size]; rfl
      clear hK0
      go_wp2_with fail
      exact ⟨⟨f, n / 10, K0 ++ T, by simp, rfl, hd, by omega, by rw [ByteArray.size_append]; omega, by (repeat (first | with_reducible (first | assumption | exact Below.refl _ _ | refine bel_alloc ?_ _ | refine bel_drew ?_ | refine bel_drewN ?_ _ | refine bel_set ?_ (by first | omega | (simp; done) | (simp; omega)) _ | refine bel_trans ?_ (by assumption)) | assumption | refine bel_trans ?_ (by assumption)))⟩, by simp [intOf]; omega⟩
    · obtain rfl : n = 0 := by omega
      go_wp2_with fail
      go_ret
      exact ⟨_, rfl, hbl⟩

set_option maxHeartbeats 4000000 in
set_option maxRecDepth 100000 in
theorem c_markPieceS (B G cap : Nat) (l : List Qp) (w : World) (h : w.ownsRow B 47 2 (.slice (some ⟨G, 0, none⟩) l.length cap) l.length (qvs l)) (hn : l.length ≤ 1048576) : Calls Tryd.prog 12 #[.slice (some ⟨G, 0, none⟩) l.length cap, .int .i64 1] w fun e w' => e = .returned (.int .i64 (1 + 2 * l.length)) ∧ w.grownBy w' (some G) := by
  obtain ⟨N, hN⟩ : ∃ N, N = l.length := ⟨_, rfl⟩
  rw [← hN] at hn h ⊢
  have HH := hid (⟨l, h, hN.symm⟩ : ∃ l2 : List Qp, w.ownsRow B 47 2 (.slice (some ⟨G, 0, none⟩) N cap) N (qvs l2) ∧ l2.length = N)
  clear h hN
  go_enter Tryd.func12, Tryd.ntmps12
  go_wp2_with fail
  go_loopw [1, 5] (fun m i wr => ∃ k : Nat, k ≤ N ∧ i = .int .i64 k ∧ m = .int .i64 (1 + 2 * k) ∧ (∃ l2 : List Qp, wr.ownsRow B 47 2 (.slice (some ⟨G, 0, none⟩) N cap) N (qvs l2) ∧ l2.length = N) ∧ w.grownBy wr (some G)) (fun _ i _ => N - (intOf i).toNat)
  case atStart => exact ⟨0, Nat.zero_le _, rfl, rfl, HH.out, grown_refl _ _⟩
  case round =>
    obtain ⟨k, hk, rfl, rfl, ⟨l2, hown, hl2⟩, hgr⟩ := hrel
    rename_i wr _
    by_cases hlt : k < N
    · have HL2 := hid hl2
      obtain ⟨p, hp⟩ : ∃ p, p = l2[k]'(by omega) := ⟨_, rfl⟩
      have HE := hid (show l2[k]? = some p by rw [hp]; exact List.getElem?_eq_getElem (by omega))
      clear hp hl2
      have HM := hid (fun v => (c_markTextQ (2 + 2 * k) v (by omega) (by omega) : Calls Tryd.prog _ #[.int .i64 ((2 + 2 * k : Nat) : Int)] v _))
      rw [show ((2 + 2 * k : Nat) : Int) = 1 + 2 * (k : Int) + 1 from by omega] at HM
      have hst := own_put_q0 hown k p HE.out (1 + 2 * (k : Int))
      have hst2 := grown_set hgr (k * 2) (.int .i64 (1 + 2 * (k : Int)))
      have HE2 := hid (show (l2.set k (1 + 2 * (k : Int), p.2))[k]? = some (1 + 2 * (k : Int), p.2) by rw [List.getElem?_set_self (get_lt HE.out)])
      have HT := hid (And.intro hst hst2)
      obtain ⟨q0, q1⟩ := own_qp hown k _ HE.out
      have f0 := hown.frozenAt (k * 2)
      have f1 := hown.frozenAt (k * 2 + 1)
      clear hst hst2 hown hgr
      go_wp2_with fail
      obtain ⟨W3, hW3⟩ : ∃ W3, W3 = (wr.setCell ⟨G, k * 2, none⟩ (.int .i64 (1 + 2 * (k : Int)))) := ⟨_, rfl⟩
      rw [← hW3] at HT ⊢
      clear hW3 q0 q1 f0 f1
      refine (HM.out _).mono ?_
      rintro e w4 ⟨T, rfl, hb4⟩
      have own4 := own_on HT.out.1 hb4
      have hg4 := grown_trans HT.out.2 (grown_below (some G) hb4)
      obtain ⟨q0, q1⟩ := own_qp own4 k _ HE2.out
      have f1 := own4.frozenAt (k * 2 + 1)
      have own5 := own_put_q1 own4 k _ HE2.out T
      have HT5 := hid (And.intro own5 (grown_set hg4 (k * 2 + 1) (.string T)))
      clear own4 own5 hg4 hb4
      go_wp2_with fail
      go_roundw
      case rel => exact ⟨k + 1, by omega, by go_num, vint (by omega), ⟨_, HT5.out.1, by have := HL2.out; simpa using this⟩, HT5.out.2⟩
      case measure => simp [intOf]; omega
    · go_wp2
      go_ret
      exact ⟨ret_int (by omega), hgr⟩
end Go.Proofs.YtdehancgadkfaaaDoor
