/- Rows of found blocks: what is read of them, append of one, the laws' own helpers on them. No condition but that they are few. -/
import Derived.Test.YtepbjmpbcobfpaaDoorJg
import Derived.Test.YtepbjmpbcobfpaaDoorTd
import Derived.Test.YtepbjmpbcobfpaaDoorBb
namespace Go.Proofs.YtepbjmpbcobfpaaDoor
open Go.ChangeShapes Go.WideShapes Go.ChangeAt Go.RowKit Go.Joins
set_option linter.unusedVariables false
set_option linter.unusedSimpArgs false

structure Fo where
  s : Int
  n : Int
  raw : Bool
  z : Int
  body : ByteArray
def fv (f : Fo) : List Value := [.int .i64 f.s, .int .i64 f.n, .bool f.raw, .int .i64 f.z, .string f.body]
def fvs (l : List Fo) : List Value := l.flatMap fv
theorem fvs_cons (b : Fo) (l : List Fo) : fvs (b :: l) = fv b ++ fvs l := by simp [fvs]
theorem fvs_append (l r : List Fo) : fvs (l ++ r) = fvs l ++ fvs r := by simp [fvs]
theorem fvs_len (l : List Fo) : (fvs l).length = l.length * 5 := by
  induction l with
  | nil => rfl
  | cons b l ih => rw [fvs_cons, List.length_append, ih]; simp [fv]; omega
theorem fvs_get (l : List Fo) (i : Nat) (b : Fo) (h : l[i]? = some b) (k : Nat) (hk : k < 5) : (fvs l)[i * 5 + k]? = (fv b)[k]? := by
  induction l generalizing i with
  | nil => simp at h
  | cons c l ih =>
    rw [fvs_cons]
    cases i with
    | zero =>
      simp at h; subst h
      rw [List.getElem?_append_left (by simp [fv]; omega)]
      simp
    | succ i =>
      rw [List.getElem?_append_right (by simp [fv]; omega)]
      have := ih i (by simpa using h)
      rw [← this]
      congr 1
      simp [fv]; omega

def FosAt (w : World) (L : Nat) (A : Option Addr) (cap : Nat) (l : List Fo) : Prop :=
  l.length ≤ cap ∧ cap ≤ maxLen ∧ (A = none → cap = 0) ∧ (0 < l.length → ∃ g off, A = some ⟨g, off, none⟩ ∧ g < L ∧ ∀ i b, l[i]? = some b → w.cell? ⟨g, off + i * 5, none⟩ = some (.int .i64 b.s) ∧ w.cell? ⟨g, off + i * 5 + 1, none⟩ = some (.int .i64 b.n) ∧ w.cell? ⟨g, off + i * 5 + 2, none⟩ = some (.bool b.raw) ∧ w.cell? ⟨g, off + i * 5 + 3, none⟩ = some (.int .i64 b.z) ∧ w.cell? ⟨g, off + i * 5 + 4, none⟩ = some (.string b.body))
theorem FosAt.below {w w' : World} {L B cap : Nat} {A : Option Addr} {l : List Fo} (h : FosAt w L A cap l) (hb : Below B w w') (hL : L ≤ B) : FosAt w' L A cap l :=
  ⟨h.1, h.2.1, h.2.2.1, fun hn => by
    obtain ⟨b, off, e, hbb, hc⟩ := h.2.2.2 hn
    refine ⟨b, off, e, hbb, fun i p hi => ?_⟩
    obtain ⟨h0, h1, h2, h3, h4⟩ := hc i p hi
    have hk := hb.block b (by omega)
    exact ⟨(World.cell?_of_block (a := ⟨b, off + i * 5, none⟩) hk).trans h0, (World.cell?_of_block (a := ⟨b, off + i * 5 + 1, none⟩) hk).trans h1, (World.cell?_of_block (a := ⟨b, off + i * 5 + 2, none⟩) hk).trans h2, (World.cell?_of_block (a := ⟨b, off + i * 5 + 3, none⟩) hk).trans h3, (World.cell?_of_block (a := ⟨b, off + i * 5 + 4, none⟩) hk).trans h4⟩⟩
theorem FosAt.nil (w : World) (L : Nat) : FosAt w L none 0 [] := ⟨by simp, by simp [maxLen], fun _ => rfl, fun h => by simp at h⟩
theorem fo_at {w : World} {L cap : Nat} {A : Option Addr} {l : List Fo} (h : FosAt w L A cap l) (i : Nat) (hi : i < l.length) : ∃ g off, A = some ⟨g, off, none⟩ ∧ g < L ∧ w.cell? ⟨g, off + i * 5, none⟩ = some (.int .i64 l[i].s) ∧ w.cell? ⟨g, off + i * 5 + 1, none⟩ = some (.int .i64 l[i].n) ∧ w.cell? ⟨g, off + i * 5 + 2, none⟩ = some (.bool l[i].raw) ∧ w.cell? ⟨g, off + i * 5 + 3, none⟩ = some (.int .i64 l[i].z) ∧ w.cell? ⟨g, off + i * 5 + 4, none⟩ = some (.string l[i].body) := by
  obtain ⟨g, off, e, hg, hc⟩ := h.2.2.2 (by omega)
  exact ⟨g, off, e, hg, hc i l[i] (List.getElem?_eq_getElem hi)⟩
theorem own_fos {w : World} {B : Nat} {e : TypeId} {v : Value} {n : Nat} {l : List Fo} (h : w.ownsRow B e 5 v n (fvs l)) : ∃ A cap, v = .slice A l.length cap ∧ FosAt w w.heap.size A cap l ∧ n = l.length := by
  have hl := h.1
  rw [fvs_len] at hl
  have hn : n = l.length := by omega
  subst hn
  have hlt := h.lt
  rcases h.2 with ⟨rfl, h0⟩ | ⟨g, cap, cur, rfl, hb, hh, hnc, hcm, hsz, htk⟩
  · have : l = [] := List.length_eq_zero_iff.1 h0
    subst this
    exact ⟨none, 0, rfl, FosAt.nil _ _, rfl⟩
  · have hg := hlt g rfl
    refine ⟨some ⟨g, 0, none⟩, cap, rfl, ⟨hnc, hcm, by simp, fun hn => ⟨g, 0, rfl, hg.2, fun i p hi => ?_⟩⟩, rfl⟩
    have hi2 := get_lt hi
    have c0 := h.cellAt (i * 5 + 0) (by omega)
    have c1 := h.cellAt (i * 5 + 1) (by omega)
    have c2 := h.cellAt (i * 5 + 2) (by omega)
    have c3 := h.cellAt (i * 5 + 3) (by omega)
    have c4 := h.cellAt (i * 5 + 4) (by omega)
    rw [fvs_get l i p hi 0 (by omega)] at c0
    rw [fvs_get l i p hi 1 (by omega)] at c1
    rw [fvs_get l i p hi 2 (by omega)] at c2
    rw [fvs_get l i p hi 3 (by omega)] at c3
    rw [fvs_get l i p hi 4 (by omega)] at c4
    simp only [Nat.zero_add]
    exact ⟨c0, c1, c2, c3, c4⟩
theorem own_fosq {w : World} {B : Nat} {e : TypeId} {A : Option Addr} {n cap : Nat} {l : List Fo} (h : w.ownsRow B e 5 (.slice A n cap) n (fvs l)) : FosAt w w.heap.size A cap l := by
  obtain ⟨A', cap', e1, h2, _⟩ := own_fos h
  obtain ⟨rfl, -, rfl⟩ : A = A' ∧ n = l.length ∧ cap = cap' := by simpa using e1
  exact h2
theorem own_fos_nil (w : World) (B : Nat) (e : TypeId) : w.ownsRow B e 5 (.slice none 0 0) 0 (fvs []) := World.ownsRow_nil w B e 5
theorem fo_new (w : World) (x y z u v : Value) (t : TypeId) (b : Fo) (hx : [x, y, z, u, v] = fv b) : ∀ j q, (fv b)[j]? = some q → (w.alloc (.cells #[x, y, z, u, v] t)).cell? ((⟨w.heap.size, 0, none⟩ : Addr).add j) = some q := by
  rw [← hx]
  intro j q hj
  have hN := Blk.new w t #[x, y, z, u, v]
  have h := hN.cell j
  have e : (⟨w.heap.size, 0, none⟩ : Addr).add j = ⟨w.heap.size, j, none⟩ := by simp [Addr.add]; intro h; exact h.symm
  rw [e, h]
  simpa using hj
theorem Tryd.info_found : (Tryd.prog.info? 40).map (fun i => (i.zero, i.size, i.bytes)) = some (some (.agg #[.int .i64 0, .int .i64 0, .bool false, .int .i64 0, .string ByteArray.empty]), 5, 48) := by kernel_rfl
theorem app_fo {P : Program} {w : World} {ops : Array Oper} {rest : List Oper} {o : Oper} {a : Act} {Q : Exit → Act → World → Prop} (hgd : o.guard = none) (s x : Operand) (t : TypeId)
    (ho : o.op = .call { callee := .builtin .append, args := #[s, x], argTypes := #[t, t] }) (B : Nat) (e : TypeId) (ht : P.underlying t = some (.slice e))
    (hinfo : (P.info? e).map (fun i => (i.zero, i.size, i.bytes)) = some (some (.agg #[.int .i64 0, .int .i64 0, .bool false, .int .i64 0, .string ByteArray.empty]), 5, 48)) (v : Value) (n : Nat) (l : List Fo) (hs : a.eval s = v) (hown : w.ownsRow B e 5 v n (fvs l)) (b : Fo) (X Y Z U V : Value) (hX : [X, Y, Z, U, V] = fv b) (cp : Nat)
    (hx : a.eval x = .slice (some ⟨w.heap.size, 0, none⟩) 1 cp) (hn : n ≤ 1000000000) (hB : B ≤ w.heap.size)
    (h : ∀ v' w', w'.ownsRow B e 5 v' (n + 1) (fvs (l ++ [b])) → Below B w w' → w.grownBy w' v.ownBlock → wpList P ops Q rest (a.put o.dst v') w') : wpList P ops Q (o :: rest) a (w.alloc (.cells #[X, Y, Z, U, V] e)) := by
  obtain ⟨i0, hi, hz0, hz1, hz2⟩ := info_parts hinfo
  refine wpList_append_own _ hgd s x t ho B e i0 (.agg #[.int .i64 0, .int .i64 0, .bool false, .int .i64 0, .string ByteArray.empty]) 5 48 ht hi hz0 hz1 hz2 rfl (by decide) v n (fvs l) hs (hown.alloc _) ⟨w.heap.size, 0, none⟩ 1 cp (fv b) hx rfl (fo_new w _ _ _ _ _ e b hX) ?_ ?_ (by omega) ?_ ?_
  · intro u hu; simp [fv] at hu; rcases hu with rfl | rfl | rfl | rfl | rfl <;> rfl
  · unfold maxLen; omega
  · have := World.size_alloc w (.cells #[X, Y, Z, U, V] e); omega
  · intro v' w' hown' hg _
    have hg2 : w.grownBy w' v.ownBlock := grown_trans (World.grownBy_alloc w _ _) hg
    refine h v' w' ?_ (below_of_grown hg2 hB (fun g hg => (hown.lt g hg).1)) hg2
    rw [fvs_append, show fvs [b] = fv b from by simp [fvs]]; exact hown'

set_option maxHeartbeats 4000000 in
set_option maxRecDepth 100000 in
theorem c_eqFound (s a z : Int) (r : Bool) (d : ByteArray) (w : World) : Calls Tryd.prog 22 #[.agg #[.int .i64 s, .int .i64 a, .bool r, .int .i64 z, .string d], .agg #[.int .i64 s, .int .i64 a, .bool r, .int .i64 z, .string d]] w fun e w' => e = .returned (.bool true) ∧ Below w.heap.size w w' := by
  have HC := hid (fun v => c_eqBlock a z r d v)
  go_enter Tryd.func22, Tryd.ntmps22
  go_wp2_with fail
  refine (HC.out _).mono ?_
  rintro e w1 ⟨rfl, hb1⟩
  go_wp2_with fail
  go_ret
  exact ⟨rfl, by (repeat (first | with_reducible (first | assumption | exact Below.refl _ _ | refine bel_alloc ?_ _ | refine bel_drew ?_ | refine bel_drewN ?_ _ | refine bel_set ?_ (by first | omega | (simp; done) | (simp; omega)) _ | refine bel_trans ?_ (by assumption)) | assumption | refine bel_trans ?_ (by assumption)))⟩

set_option maxHeartbeats 4000000 in
set_option maxRecDepth 100000 in
theorem c_eqFoundS (A A2 : Option Addr) (cap cap2 : Nat) (l : List Fo) (L L2 : Nat) (w : World) (h : FosAt w L A cap l) (h2 : FosAt w L2 A2 cap2 l) (hL : L ≤ w.heap.size) (hL2 : L2 ≤ w.heap.size) (hn : l.length ≤ 1048576) : Calls Tryd.prog 10 #[.slice A l.length cap, .slice A2 l.length cap2] w fun e w' => e = .returned (.bool true) ∧ Below w.heap.size w w' := by
  go_enter Tryd.func10, Tryd.ntmps10
  go_wp2_with fail
  go_loopw [5] (fun i wr => ∃ k : Nat, k ≤ l.length ∧ i = .int .i64 k ∧ Below w.heap.size w wr) (fun i _ => l.length - (intOf i).toNat)
  case atStart => exact ⟨0, Nat.zero_le _, rfl, by (repeat (first | with_reducible (first | assumption | exact Below.refl _ _ | refine bel_alloc ?_ _ | refine bel_drew ?_ | refine bel_drewN ?_ _ | refine bel_set ?_ (by first | omega | (simp; done) | (simp; omega)) _ | refine bel_trans ?_ (by assumption)) | assumption | refine bel_trans ?_ (by assumption)))⟩
  case round =>
    obtain ⟨k, hk, rfl, hbl⟩ := hrel
    by_cases hlt : k < l.length
    · obtain ⟨b, off, rfl, hb, hc0, hc1, hc2, hc3, hc4⟩ := fo_at (h.below hbl hL) k hlt
      obtain ⟨d, off2, rfl, hd, hd0, hd1, hd2, hd3, hd4⟩ := fo_at (h2.below hbl hL2) k hlt
      obtain ⟨p, hp⟩ : ∃ p, p = l[k] := ⟨_, rfl⟩
      rw [← hp] at hc0 hc1 hc2 hc3 hc4 hd0 hd1 hd2 hd3 hd4
      obtain ⟨p0, p1, p2, p3, p4⟩ := p
      simp only at hc0 hc1 hc2 hc3 hc4 hd0 hd1 hd2 hd3 hd4
      clear hp
      go_wp2_with fail
      go_region_with (go_at_call 22; refine (c_eqFound _ _ _ _ _ _).mono ?_; rintro e w5 ⟨rfl, hb5⟩; have hc5 := bcell hb5)
      all_goals
        go_wp2
        go_roundw
        case rel => exact ⟨k + 1, by omega, by go_num, by (repeat (first | with_reducible (first | assumption | exact Below.refl _ _ | refine bel_alloc ?_ _ | refine bel_drew ?_ | refine bel_drewN ?_ _ | refine bel_set ?_ (by first | omega | (simp; done) | (simp; omega)) _ | refine bel_trans ?_ (by assumption)) | assumption | refine bel_trans ?_ (by assumption)))⟩
        case measure => simp [intOf]; omega
    · go_wp2
      go_ret
      exact ⟨rfl, by (repeat (first | with_reducible (first | assumption | exact Below.refl _ _ | refine bel_alloc ?_ _ | refine bel_drew ?_ | refine bel_drewN ?_ _ | refine bel_set ?_ (by first | omega | (simp; done) | (simp; omega)) _ | refine bel_trans ?_ (by assumption)) | assumption | refine bel_trans ?_ (by assumption)))⟩

theorem fvs_set0 (l : List Fo) (k : Nat) (p : Fo) (h : l[k]? = some p) (x : Int) : (fvs l).set (k * 5) (.int .i64 x) = fvs (l.set k ⟨x, p.n, p.raw, p.z, p.body⟩) := by
  induction l generalizing k with
  | nil => simp at h
  | cons q t ih =>
    cases k with
    | zero => simp at h; subst h; rw [List.set_cons_zero, fvs_cons, fvs_cons]; rfl
    | succ k =>
      rw [List.getElem?_cons_succ] at h
      rw [List.set_cons_succ, fvs_cons, fvs_cons, ← ih k h, show (k + 1) * 5 = k * 5 + 1 + 1 + 1 + 1 + 1 from by omega]
      rfl
theorem fvs_set1 (l : List Fo) (k : Nat) (p : Fo) (h : l[k]? = some p) (x : Int) : (fvs l).set (k * 5 + 1) (.int .i64 x) = fvs (l.set k ⟨p.s, x, p.raw, p.z, p.body⟩) := by
  induction l generalizing k with
  | nil => simp at h
  | cons q t ih =>
    cases k with
    | zero => simp at h; subst h; rw [List.set_cons_zero, fvs_cons, fvs_cons]; rfl
    | succ k =>
      rw [List.getElem?_cons_succ] at h
      rw [List.set_cons_succ, fvs_cons, fvs_cons, ← ih k h, show (k + 1) * 5 + 1 = k * 5 + 1 + 1 + 1 + 1 + 1 + 1 from by omega]
      rfl
theorem fvs_set2 (l : List Fo) (k : Nat) (p : Fo) (h : l[k]? = some p) (x : Bool) : (fvs l).set (k * 5 + 2) (.bool x) = fvs (l.set k ⟨p.s, p.n, x, p.z, p.body⟩) := by
  induction l generalizing k with
  | nil => simp at h
  | cons q t ih =>
    cases k with
    | zero => simp at h; subst h; rw [List.set_cons_zero, fvs_cons, fvs_cons]; rfl
    | succ k =>
      rw [List.getElem?_cons_succ] at h
      rw [List.set_cons_succ, fvs_cons, fvs_cons, ← ih k h, show (k + 1) * 5 + 2 = k * 5 + 1 + 1 + 1 + 1 + 1 + 1 + 1 from by omega]
      rfl
theorem fvs_set3 (l : List Fo) (k : Nat) (p : Fo) (h : l[k]? = some p) (x : Int) : (fvs l).set (k * 5 + 3) (.int .i64 x) = fvs (l.set k ⟨p.s, p.n, p.raw, x, p.body⟩) := by
  induction l generalizing k with
  | nil => simp at h
  | cons q t ih =>
    cases k with
    | zero => simp at h; subst h; rw [List.set_cons_zero, fvs_cons, fvs_cons]; rfl
    | succ k =>
      rw [List.getElem?_cons_succ] at h
      rw [List.set_cons_succ, fvs_cons, fvs_cons, ← ih k h, show (k + 1) * 5 + 3 = k * 5 + 1 + 1 + 1 + 1 + 1 + 1 + 1 + 1 from by omega]
      rfl
theorem fvs_set4 (l : List Fo) (k : Nat) (p : Fo) (h : l[k]? = some p) (x : ByteArray) : (fvs l).set (k * 5 + 4) (.string x) = fvs (l.set k ⟨p.s, p.n, p.raw, p.z, x⟩) := by
  induction l generalizing k with
  | nil => simp at h
  | cons q t ih =>
    cases k with
    | zero => simp at h; subst h; rw [List.set_cons_zero, fvs_cons, fvs_cons]; rfl
    | succ k =>
      rw [List.getElem?_cons_succ] at h
      rw [List.set_cons_succ, fvs_cons, fvs_cons, ← ih k h, show (k + 1) * 5 + 4 = k * 5 + 1 + 1 + 1 + 1 + 1 + 1 + 1 + 1 + 1 from by omega]
      rfl
theorem own_fo {w : World} {B : Nat} {e : TypeId} {G n cap : Nat} {l : List Fo} (h : w.ownsRow B e 5 (.slice (some ⟨G, 0, none⟩) n cap) n (fvs l)) (k : Nat) (p : Fo) (hk : l[k]? = some p) : w.cell? ⟨G, k * 5, none⟩ = some (.int .i64 p.s) ∧ w.cell? ⟨G, k * 5 + 1, none⟩ = some (.int .i64 p.n) ∧ w.cell? ⟨G, k * 5 + 2, none⟩ = some (.bool p.raw) ∧ w.cell? ⟨G, k * 5 + 3, none⟩ = some (.int .i64 p.z) ∧ w.cell? ⟨G, k * 5 + 4, none⟩ = some (.string p.body) := by
  have hl := h.1
  rw [fvs_len] at hl
  have hk2 := get_lt hk
  have g := fun j hj => fvs_get l k p hk j hj
  exact ⟨(h.cellAt _ (by omega)).trans (g 0 (by omega)), (h.cellAt _ (by omega)).trans (g 1 (by omega)), (h.cellAt _ (by omega)).trans (g 2 (by omega)), (h.cellAt _ (by omega)).trans (g 3 (by omega)), (h.cellAt _ (by omega)).trans (g 4 (by omega))⟩
theorem own_put_fo4 {w : World} {B : Nat} {e : TypeId} {G n cap : Nat} {l : List Fo} (h : w.ownsRow B e 5 (.slice (some ⟨G, 0, none⟩) n cap) n (fvs l)) (k : Nat) (p : Fo) (hk : l[k]? = some p) (x y : Int) (r : Bool) (z : Int) :
    ((((w.setCell ⟨G, k * 5, none⟩ (.int .i64 (x))).setCell ⟨G, k * 5 + 1, none⟩ (.int .i64 (y))).setCell ⟨G, k * 5 + 2, none⟩ (.bool (r))).setCell ⟨G, k * 5 + 3, none⟩ (.int .i64 (z))).ownsRow B e 5 (.slice (some ⟨G, 0, none⟩) n cap) n (fvs (l.set k ⟨x, y, r, z, p.body⟩)) := by
  have hl := get_lt hk
  have h1 := (h.stored (k * 5) (.int .i64 x)).1
  rw [show k * 5 = k * 5 + 0 from rfl] at h1
  rw [show (fvs l).set (k * 5 + 0) (.int .i64 x) = _ from fvs_set0 l k p hk x] at h1
  have h2 := (h1.stored (k * 5 + 1) (.int .i64 y)).1
  rw [fvs_set1 _ k ⟨x, p.n, p.raw, p.z, p.body⟩ (by rw [List.getElem?_set_self hl])] at h2
  have h3 := (h2.stored (k * 5 + 2) (.bool r)).1
  rw [fvs_set2 _ k ⟨x, y, p.raw, p.z, p.body⟩ (by simp [hl])] at h3
  have h4 := (h3.stored (k * 5 + 3) (.int .i64 z)).1
  rw [fvs_set3 _ k ⟨x, y, r, p.z, p.body⟩ (by simp [hl])] at h4
  simpa using h4
theorem own_put_fo1 {w : World} {B : Nat} {e : TypeId} {G n cap : Nat} {l : List Fo} (h : w.ownsRow B e 5 (.slice (some ⟨G, 0, none⟩) n cap) n (fvs l)) (k : Nat) (p : Fo) (hk : l[k]? = some p) (d : ByteArray) :
    (w.setCell ⟨G, k * 5 + 4, none⟩ (.string d)).ownsRow B e 5 (.slice (some ⟨G, 0, none⟩) n cap) n (fvs (l.set k ⟨p.s, p.n, p.raw, p.z, d⟩)) := by
  have h1 := (h.stored (k * 5 + 4) (.string d)).1
  rw [fvs_set4 l k p hk] at h1
  exact h1
def mkf1 (k : Nat) : Fo := ⟨1 + 5 * (k : Int), 1 + 5 * (k : Int) + 1, (1 + 5 * (k : Int) + 1 + 1) % 3 == 0, 1 + 5 * (k : Int) + 1 + 1 + 1, mt (5 + 5 * k)⟩
def mkf (n : Nat) : List Fo := (List.range n).map mkf1
theorem mkf_len (n : Nat) : (mkf n).length = n := by simp [mkf]
theorem mkf_get (n : Nat) (i : Nat) (h : i < n) : (mkf n)[i]? = some (mkf1 i) := by simp [mkf, h]
theorem mkf_succ (n : Nat) : mkf (n + 1) = mkf n ++ [mkf1 n] := by simp [mkf, List.range_succ]

set_option maxHeartbeats 4000000 in
set_option maxRecDepth 100000 in
theorem c_markFoundS (B G cap : Nat) (l : List Fo) (w : World) (h : w.ownsRow B 40 5 (.slice (some ⟨G, 0, none⟩) l.length cap) l.length (fvs l)) (hn : l.length ≤ 1000) : Calls Tryd.prog 11 #[.slice (some ⟨G, 0, none⟩) l.length cap, .int .i64 1] w fun e w' => e = .returned (.int .i64 (1 + 5 * l.length)) ∧ w'.ownsRow B 40 5 (.slice (some ⟨G, 0, none⟩) l.length cap) l.length (fvs (mkf l.length)) ∧ w.grownBy w' (some G) := by
  obtain ⟨N, hN⟩ : ∃ N, N = l.length := ⟨_, rfl⟩
  have HN := hid hN
  rw [← hN] at hn h ⊢
  clear hN
  have HH := hid h
  clear h
  go_enter Tryd.func11, Tryd.ntmps11
  go_wp2_with fail
  go_loopw [1, 5] (fun m i wr => ∃ k : Nat, k ≤ N ∧ i = .int .i64 k ∧ m = .int .i64 (1 + 5 * k) ∧ wr.ownsRow B 40 5 (.slice (some ⟨G, 0, none⟩) N cap) N (fvs (mkf k ++ l.drop k)) ∧ w.grownBy wr (some G)) (fun _ i _ => N - (intOf i).toNat)
  case atStart => exact ⟨0, Nat.zero_le _, rfl, rfl, by simpa [mkf] using HH.out, grown_refl _ _⟩
  case round =>
    obtain ⟨k, hk, rfl, rfl, hown, hgr⟩ := hrel
    rename_i wr _
    by_cases hlt : k < N
    · have hlt2 : k < l.length := by have := HN.out; omega
      obtain ⟨p, hp⟩ : ∃ p, p = l[k] := ⟨_, rfl⟩
      have HE := hid (show (mkf k ++ l.drop k)[k]? = some p by
        rw [List.getElem?_append_right (by rw [mkf_len]; omega), mkf_len, Nat.sub_self, List.getElem?_drop, Nat.add_zero, hp]; exact List.getElem?_eq_getElem hlt2)
      have HS := hid (show (mkf k ++ l.drop k).set k (mkf1 k) = mkf (k + 1) ++ l.drop (k + 1) by
        rw [List.set_append, if_neg (by rw [mkf_len]; omega), mkf_len, Nat.sub_self, List.drop_eq_getElem_cons hlt2, List.set_cons_zero, mkf_succ]; simp)
      obtain ⟨M, hM⟩ : ∃ M, M = mkf k ++ l.drop k := ⟨_, rfl⟩
      rw [← hM] at HE HS hown
      clear hp hM
      have HM := hid (fun v => (c_markText (5 + 5 * k) v (by omega) (by omega) : Calls Tryd.prog _ #[.int .i64 ((5 + 5 * k : Nat) : Int)] v _))
      rw [show ((5 + 5 * k : Nat) : Int) = 1 + 5 * (k : Int) + 1 + 1 + 1 + 1 from by omega] at HM
      have hst := own_put_fo4 hown k p HE.out (1 + 5 * (k : Int)) (1 + 5 * (k : Int) + 1) ((1 + 5 * (k : Int) + 1 + 1) % 3 == 0) (1 + 5 * (k : Int) + 1 + 1 + 1)
      have hst2 := grown_set (grown_set (grown_set (grown_set hgr (k * 5) (.int .i64 (1 + 5 * (k : Int)))) (k * 5 + 1) (.int .i64 (1 + 5 * (k : Int) + 1))) (k * 5 + 2) (.bool ((1 + 5 * (k : Int) + 1 + 1) % 3 == 0))) (k * 5 + 3) (.int .i64 (1 + 5 * (k : Int) + 1 + 1 + 1))
      have HT := hid (And.intro hst hst2)
      have HS2 := hid (show (M.set k ⟨1 + 5 * (k : Int), 1 + 5 * (k : Int) + 1, (1 + 5 * (k : Int) + 1 + 1) % 3 == 0, 1 + 5 * (k : Int) + 1 + 1 + 1, p.body⟩).set k (mkf1 k) = mkf (k + 1) ++ l.drop (k + 1) by rw [List.set_set, HS.out])
      have HE2 := hid (show (M.set k ⟨1 + 5 * (k : Int), 1 + 5 * (k : Int) + 1, (1 + 5 * (k : Int) + 1 + 1) % 3 == 0, 1 + 5 * (k : Int) + 1 + 1 + 1, p.body⟩)[k]? = some ⟨1 + 5 * (k : Int), 1 + 5 * (k : Int) + 1, (1 + 5 * (k : Int) + 1 + 1) % 3 == 0, 1 + 5 * (k : Int) + 1 + 1 + 1, p.body⟩ by rw [List.getElem?_set_self (get_lt HE.out)])
      obtain ⟨q0, q1, q2, q3, q4⟩ := own_fo hown k _ HE.out
      have f0 := hown.frozenAt (k * 5)
      have f1 := hown.frozenAt (k * 5 + 1)
      have f2 := hown.frozenAt (k * 5 + 2)
      have f3 := hown.frozenAt (k * 5 + 3)
      clear hst hst2 hown hgr
      go_wp2_with fail
      obtain ⟨W3, hW3⟩ : ∃ W3, W3 = ((((wr.setCell ⟨G, k * 5, none⟩ (.int .i64 (1 + 5 * (k : Int)))).setCell ⟨G, k * 5 + 1, none⟩ (.int .i64 (1 + 5 * (k : Int) + 1))).setCell ⟨G, k * 5 + 2, none⟩ (.bool ((1 + 5 * (k : Int) + 1 + 1) % 3 == 0))).setCell ⟨G, k * 5 + 3, none⟩ (.int .i64 (1 + 5 * (k : Int) + 1 + 1 + 1))) := ⟨_, rfl⟩
      rw [← hW3] at HT ⊢
      clear hW3 q0 q1 q2 q3 q4 f0 f1 f2 f3
      refine (HM.out _).mono ?_
      rintro e w4 ⟨rfl, hb4⟩
      have own4 := own_on HT.out.1 hb4
      have hg4 := grown_trans HT.out.2 (grown_below (some G) hb4)
      obtain ⟨q0, q1, q2, q3, q4⟩ := own_fo own4 k _ HE2.out
      have f3 := own4.frozenAt (k * 5 + 4)
      have own5 := own_put_fo1 own4 k _ HE2.out (mt (5 + 5 * k))
      rw [show (⟨1 + 5 * (k : Int), 1 + 5 * (k : Int) + 1, (1 + 5 * (k : Int) + 1 + 1) % 3 == 0, 1 + 5 * (k : Int) + 1 + 1 + 1, mt (5 + 5 * k)⟩ : Fo) = mkf1 k from rfl, HS2.out] at own5
      have HT5 := hid (And.intro own5 (grown_set hg4 (k * 5 + 4) (.string (mt (5 + 5 * k)))))
      clear own4 own5 hg4 hb4
      go_wp2_with fail
      go_roundw
      case rel => exact ⟨k + 1, by omega, by go_num, vint (by omega), HT5.out.1, HT5.out.2⟩
      case measure => simp [intOf]; omega
    · have HD := hid (show mkf k ++ l.drop k = mkf N by rw [show k = N from by omega, List.drop_of_length_le (by have := HN.out; omega)]; simp)
      rw [HD.out] at hown
      go_wp2
      go_ret
      exact ⟨ret_int (by omega), hown, hgr⟩

theorem c_markFoundS_nil (w : World) : Calls Tryd.prog 11 #[.slice none 0 0, .int .i64 1] w (Same (.int .i64 1) w) := by
  go_enter Tryd.func11, Tryd.ntmps11
  go_wp2_with fail
  go_loop [1, 5] (fun m i => m = .int .i64 1 ∧ i = .int .i64 0) (fun _ i => 0)
  case atStart => exact ⟨rfl, rfl⟩
  case round =>
    obtain ⟨rfl, rfl⟩ := hrel
    go_wp2
    go_ret
    exact ⟨rfl, rfl⟩

/-- whatever slice is owned: its mark -/
theorem c_markFoundS_any (l : List Fo) (B cap : Nat) (A : Option Addr) (w : World) (h : w.ownsRow B 40 5 (.slice A l.length cap) l.length (fvs l)) (hn : l.length ≤ 1000) : Calls Tryd.prog 11 #[.slice A l.length cap, .int .i64 1] w fun e w' => e = .returned (.int .i64 (1 + 5 * l.length)) ∧ w'.ownsRow B 40 5 (.slice A l.length cap) l.length (fvs (mkf l.length)) ∧ w.grownBy w' (Value.slice A l.length cap).ownBlock := by
  rcases h.2 with ⟨e2, h0⟩ | ⟨g, c, cur, e2, _⟩
  · have h00 : l = [] := List.length_eq_zero_iff.1 h0
    subst h00
    obtain ⟨rfl, rfl⟩ : A = none ∧ cap = 0 := by simpa using e2
    refine (c_markFoundS_nil _).mono ?_
    rintro e w' ⟨rfl, rfl⟩
    exact ⟨ret_int (by simp), own_fos_nil _ _ _, grown_refl _ _⟩
  · obtain ⟨rfl, -, rfl⟩ : A = some ⟨g, 0, none⟩ ∧ True ∧ cap = c := by simpa using e2
    exact c_markFoundS B g cap l w h hn

set_option maxHeartbeats 4000000 in
set_option maxRecDepth 100000 in
theorem c_heldFoundS (L : Nat) (A : Option Addr) (cap n : Nat) (w : World) (h : FosAt w L A cap (mkf n)) (hL : L ≤ w.heap.size) (hn : n ≤ 1000) : Calls Tryd.prog 12 #[.slice A n cap, .int .i64 1] w fun e w' => e = .returned (.int .i64 (1 + 5 * n)) ∧ Below w.heap.size w w' := by
  have HH := hid h
  clear h
  go_enter Tryd.func12, Tryd.ntmps12
  go_wp2_with fail
  go_loopw [1, 5] (fun m i wr => ∃ k : Nat, k ≤ n ∧ i = .int .i64 k ∧ m = .int .i64 (1 + 5 * k) ∧ Below w.heap.size w wr) (fun _ i _ => n - (intOf i).toNat)
  case atStart => exact ⟨0, Nat.zero_le _, rfl, rfl, by (repeat (first | with_reducible (first | assumption | exact Below.refl _ _ | refine bel_alloc ?_ _ | refine bel_drew ?_ | refine bel_drewN ?_ _ | refine bel_set ?_ (by first | omega | (simp; done) | (simp; omega)) _ | refine bel_trans ?_ (by assumption)) | assumption | refine bel_trans ?_ (by assumption)))⟩
  case round =>
    obtain ⟨k, hk, rfl, rfl, hbl⟩ := hrel
    rename_i wr _
    by_cases hlt : k < n
    · obtain ⟨b, off, rfl, hb, hc0, hc1, hc2, hc3, hc4⟩ := fo_at (HH.out.below hbl hL) k (by rw [mkf_len]; omega)
      have e1 : (mkf n)[k]'(by rw [mkf_len]; omega) = mkf1 k := by
        have := mkf_get n k hlt
        rw [List.getElem?_eq_getElem (by rw [mkf_len]; omega)] at this
        exact Option.some.inj this
      rw [e1] at hc0 hc1 hc2 hc3 hc4
      have HM := hid (fun v => (c_markText (5 + 5 * k) v (by omega) (by omega) : Calls Tryd.prog _ #[.int .i64 ((5 + 5 * k : Nat) : Int)] v _))
      rw [show ((5 + 5 * k : Nat) : Int) = 1 + 5 * (k : Int) + 1 + 1 + 1 + 1 from by omega] at HM
      obtain ⟨T, hT⟩ : ∃ T, T = mt (5 + 5 * k) := ⟨_, rfl⟩
      have hc4' : _ = some (Value.string (mt (5 + 5 * k))) := hc4
      have hc0' : _ = some (Value.int .i64 (1 + 5 * (k : Int))) := hc0
      have hc1' : _ = some (Value.int .i64 (1 + 5 * (k : Int) + 1)) := hc1
      have hc2' : _ = some (Value.bool ((1 + 5 * (k : Int) + 1 + 1) % 3 == 0)) := hc2
      have hc3' : _ = some (Value.int .i64 (1 + 5 * (k : Int) + 1 + 1 + 1)) := hc3
      rw [← hT] at HM hc4'
      clear hT e1 hc0 hc1 hc2 hc3 hc4
      go_wp2_with fail
      have hS1 : wr.cell? ⟨b, off + k * 5 + 4, none⟩ = some (.string T) ∧ Below wr.heap.size wr wr := ⟨hc4', Below.refl _ _⟩
      refine qB (S := (fun v => v.cell? ⟨b, off + k * 5 + 4, none⟩ = some (.string T) ∧ Below wr.heap.size wr v)) (by kernel_rfl) (by kernel_rfl) (s1_drew hS1) ?_
      refine qK ?_
      refine qK ?_
      refine qK ?_
      refine qK ?_
      refine qK ?_
      refine qK ?_
      refine qK ?_
      refine qC (fun wq hSq => HM.out wq) (fun wq wr hbr hSq => s1_bel hbr hSq) ?_
      refine qK ?_
      refine qN ?_
      intro wq hSq
      (try dsimp only at hSq)
      have hbq := hbl.trans (hSq.2.mono hbl.size)
      clear hSq hS1 hc0' hc1' hc2' hc3' hc4' hbl
      go_wp2_with fail
      go_roundw
      case rel => exact ⟨k + 1, by omega, by go_num, vint (by omega), hbq⟩
      case measure => simp [intOf]; omega
    · go_wp2_with fail
      go_ret
      exact ⟨ret_int (by omega), hbl⟩
end Go.Proofs.YtepbjmpbcobfpaaDoor
