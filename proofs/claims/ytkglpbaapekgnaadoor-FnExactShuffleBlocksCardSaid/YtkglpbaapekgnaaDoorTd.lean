/- Slices of blocks that a call owns: the laws' own helpers on them. No condition but that they are few. -/
import Derived.Test.YtkglpbaapekgnaaDoorTc
namespace Go.Proofs.YtkglpbaapekgnaaDoor
open Go.ChangeShapes Go.WideShapes Go.ChangeAt Go.RowKit Go.Joins
set_option linter.unusedVariables false
set_option linter.unusedSimpArgs false

/-- the digits of a number in front of a text -/
def mtx : Nat → Nat → ByteArray → ByteArray
  | 0, _, acc => acc
  | f + 1, k, acc => if k = 0 then acc else mtx f (k / 10) (str [UInt8.ofNat (48 + k % 10)] ++ acc)
theorem mtx_zero : ∀ (f : Nat) (acc : ByteArray), mtx f 0 acc = acc
  | 0, _ => rfl
  | f + 1, acc => by rw [mtx, if_pos rfl]
theorem mtx_step (f k : Nat) (acc : ByteArray) (h : 0 < k) : mtx (f + 1) k acc = mtx f (k / 10) (str [UInt8.ofNat (48 + k % 10)] ++ acc) := by rw [mtx, if_neg (by omega)]
def mt (k : Nat) : ByteArray := str [109] ++ mtx 4 k ByteArray.empty

set_option maxHeartbeats 4000000 in
set_option maxRecDepth 100000 in
theorem c_markText (k : Nat) (w : World) (h0 : 0 < k) (h1 : k ≤ 9999) : Calls Tryd.prog 55 #[.int .i64 k] w fun e w' => e = .returned (.string (mt k)) ∧ Below w.heap.size w w' := by
  have HM := hid (show mt k = str [109] ++ mtx 4 k ByteArray.empty from rfl)
  go_enter Tryd.func55, Tryd.ntmps55
  go_wp2_with fail
  go_loopw [0, 3] (fun v t wr => ∃ (f n : Nat) (T : ByteArray), v = .int .i64 n ∧ t = .string T ∧ n < 10 ^ f ∧ f ≤ 4 ∧ T.size ≤ 100 - 10 * f ∧ Hid (mtx 4 k ByteArray.empty = mtx f n T) ∧ Below w.heap.size w wr) (fun v _ _ => (intOf v).toNat)
  case atStart => exact ⟨4, k, ByteArray.empty, rfl, rfl, by omega, by omega, by simp, hid rfl, by (repeat (first | with_reducible (first | assumption | exact Below.refl _ _ | refine bel_alloc ?_ _ | refine bel_drew ?_ | refine bel_drewN ?_ _ | refine bel_set ?_ (by first | omega | (simp; done) | (simp; omega)) _ | refine bel_trans ?_ (by assumption)) | assumption | refine bel_trans ?_ (by assumption)))⟩
  case round =>
    obtain ⟨f, n, T, rfl, rfl, hn, hf, hT, HR, hbl⟩ := hrel
    have hn4 : n < 10000 := Nat.lt_of_lt_of_le hn (Nat.pow_le_pow_right (by omega) hf : 10 ^ f ≤ 10 ^ 4)
    by_cases hp : 0 < n
    · cases f with
      | zero => simp at hn; omega
      | succ f =>
      have hd : n / 10 < 10 ^ f := Nat.div_lt_of_lt_mul (by rw [Nat.pow_succ] at hn; omega)
      have HR2 := hid (HR.out.trans (mtx_step f n T hp))
      clear hn
      have h0 := run_one (P := Tryd.prog) (w := wr) Tryd.underlying84 Tryd.underlying5 Tryd.underlying9 (X := 48 + (n : Int) % 10) (c := UInt8.ofNat (48 + n % 10)) (by rw [UInt8.toNat_ofNat']; omega)
      obtain ⟨K0, hK0⟩ : ∃ K0, K0 = str [UInt8.ofNat (48 + n % 10)] := ⟨_, rfl⟩
      rw [← hK0] at h0
      have hz : K0.size = 1 := by rw [hK0, str_size]; rfl
      rw [← hK0] at HR2
      clear hK0
      go_wp2_with fail
      exact ⟨⟨f, n / 10, K0 ++ T, by simp, rfl, hd, by omega, by rw [ByteArray.size_append]; omega, HR2, by (repeat (first | with_reducible (first | assumption | exact Below.refl _ _ | refine bel_alloc ?_ _ | refine bel_drew ?_ | refine bel_drewN ?_ _ | refine bel_set ?_ (by first | omega | (simp; done) | (simp; omega)) _ | refine bel_trans ?_ (by assumption)) | assumption | refine bel_trans ?_ (by assumption)))⟩, by simp [intOf]; omega⟩
    · obtain rfl : n = 0 := by omega
      have HE := hid (HM.out.trans (by rw [HR.out, mtx_zero] : _ = str [109] ++ T))
      go_wp2_with fail
      go_ret
      exact ⟨by rw [HE.out]; rfl, hbl⟩

theorem c_eqBlock (a z : Int) (r : Bool) (d : ByteArray) (w : World) : Calls Tryd.prog 54 #[.agg #[.int .i64 a, .bool r, .int .i64 z, .string d], .agg #[.int .i64 a, .bool r, .int .i64 z, .string d]] w fun e w' => e = .returned (.bool true) ∧ Below w.heap.size w w' := by
  go_enter Tryd.func54, Tryd.ntmps54
  go_wp2
  go_ret
  exact ⟨rfl, by (repeat (first | with_reducible (first | assumption | exact Below.refl _ _ | refine bel_alloc ?_ _ | refine bel_drew ?_ | refine bel_drewN ?_ _ | refine bel_set ?_ (by first | omega | (simp; done) | (simp; omega)) _ | refine bel_trans ?_ (by assumption)) | assumption | refine bel_trans ?_ (by assumption)))⟩

set_option maxHeartbeats 4000000 in
theorem c_eqBlockS (A A2 : Option Addr) (cap cap2 : Nat) (l : List Bl) (L L2 : Nat) (w : World) (h : BlsAt w L A cap l) (h2 : BlsAt w L2 A2 cap2 l) (hL : L ≤ w.heap.size) (hL2 : L2 ≤ w.heap.size) (hn : l.length ≤ 1048576) : Calls Tryd.prog 28 #[.slice A l.length cap, .slice A2 l.length cap2] w fun e w' => e = .returned (.bool true) ∧ Below w.heap.size w w' := by
  go_enter Tryd.func28, Tryd.ntmps28
  go_wp2_with fail
  go_loopw [5] (fun i wr => ∃ k : Nat, k ≤ l.length ∧ i = .int .i64 k ∧ Below w.heap.size w wr) (fun i _ => l.length - (intOf i).toNat)
  case atStart => exact ⟨0, Nat.zero_le _, rfl, by (repeat (first | with_reducible (first | assumption | exact Below.refl _ _ | refine bel_alloc ?_ _ | refine bel_drew ?_ | refine bel_drewN ?_ _ | refine bel_set ?_ (by first | omega | (simp; done) | (simp; omega)) _ | refine bel_trans ?_ (by assumption)) | assumption | refine bel_trans ?_ (by assumption)))⟩
  case round =>
    obtain ⟨k, hk, rfl, hbl⟩ := hrel
    by_cases hlt : k < l.length
    · obtain ⟨b, off, rfl, hb, hc0, hc1, hc2, hc3⟩ := bl_at (h.below hbl hL) k hlt
      obtain ⟨d, off2, rfl, hd, hd0, hd1, hd2, hd3⟩ := bl_at (h2.below hbl hL2) k hlt
      obtain ⟨p, hp⟩ : ∃ p, p = l[k] := ⟨_, rfl⟩
      rw [← hp] at hc0 hc1 hc2 hc3 hd0 hd1 hd2 hd3
      obtain ⟨p0, p1, p2, p3⟩ := p
      simp only at hc0 hc1 hc2 hc3 hd0 hd1 hd2 hd3
      clear hp
      go_wp2_with fail
      go_region_with (go_at_call 54; refine (c_eqBlock _ _ _ _ _).mono ?_; rintro e w4 ⟨rfl, hb4⟩; have hc4 := bcell hb4)
      all_goals
        go_wp2
        go_roundw
        case rel => exact ⟨k + 1, by omega, by go_num, by (repeat (first | with_reducible (first | assumption | exact Below.refl _ _ | refine bel_alloc ?_ _ | refine bel_drew ?_ | refine bel_drewN ?_ _ | refine bel_set ?_ (by first | omega | (simp; done) | (simp; omega)) _ | refine bel_trans ?_ (by assumption)) | assumption | refine bel_trans ?_ (by assumption)))⟩
        case measure => simp [intOf]; omega
    · go_wp2
      go_ret
      exact ⟨rfl, by (repeat (first | with_reducible (first | assumption | exact Below.refl _ _ | refine bel_alloc ?_ _ | refine bel_drew ?_ | refine bel_drewN ?_ _ | refine bel_set ?_ (by first | omega | (simp; done) | (simp; omega)) _ | refine bel_trans ?_ (by assumption)) | assumption | refine bel_trans ?_ (by assumption)))⟩

theorem bvs_set0 (l : List Bl) (k : Nat) (p : Bl) (h : l[k]? = some p) (x : Int) : (bvs l).set (k * 4) (.int .i64 x) = bvs (l.set k ⟨x, p.raw, p.z, p.body⟩) := by
  induction l generalizing k with
  | nil => simp at h
  | cons q t ih =>
    cases k with
    | zero => simp at h; subst h; rw [List.set_cons_zero, bvs_cons, bvs_cons]; rfl
    | succ k =>
      rw [List.getElem?_cons_succ] at h
      rw [List.set_cons_succ, bvs_cons, bvs_cons, ← ih k h, show (k + 1) * 4 = k * 4 + 1 + 1 + 1 + 1 from by omega]
      rfl
theorem bvs_set1 (l : List Bl) (k : Nat) (p : Bl) (h : l[k]? = some p) (x : Bool) : (bvs l).set (k * 4 + 1) (.bool x) = bvs (l.set k ⟨p.n, x, p.z, p.body⟩) := by
  induction l generalizing k with
  | nil => simp at h
  | cons q t ih =>
    cases k with
    | zero => simp at h; subst h; rw [List.set_cons_zero, bvs_cons, bvs_cons]; rfl
    | succ k =>
      rw [List.getElem?_cons_succ] at h
      rw [List.set_cons_succ, bvs_cons, bvs_cons, ← ih k h, show (k + 1) * 4 + 1 = k * 4 + 1 + 1 + 1 + 1 + 1 from by omega]
      rfl
theorem bvs_set2 (l : List Bl) (k : Nat) (p : Bl) (h : l[k]? = some p) (x : Int) : (bvs l).set (k * 4 + 2) (.int .i64 x) = bvs (l.set k ⟨p.n, p.raw, x, p.body⟩) := by
  induction l generalizing k with
  | nil => simp at h
  | cons q t ih =>
    cases k with
    | zero => simp at h; subst h; rw [List.set_cons_zero, bvs_cons, bvs_cons]; rfl
    | succ k =>
      rw [List.getElem?_cons_succ] at h
      rw [List.set_cons_succ, bvs_cons, bvs_cons, ← ih k h, show (k + 1) * 4 + 2 = k * 4 + 2 + 1 + 1 + 1 + 1 from by omega]
      rfl
theorem bvs_set3 (l : List Bl) (k : Nat) (p : Bl) (h : l[k]? = some p) (x : ByteArray) : (bvs l).set (k * 4 + 3) (.string x) = bvs (l.set k ⟨p.n, p.raw, p.z, x⟩) := by
  induction l generalizing k with
  | nil => simp at h
  | cons q t ih =>
    cases k with
    | zero => simp at h; subst h; rw [List.set_cons_zero, bvs_cons, bvs_cons]; rfl
    | succ k =>
      rw [List.getElem?_cons_succ] at h
      rw [List.set_cons_succ, bvs_cons, bvs_cons, ← ih k h, show (k + 1) * 4 + 3 = k * 4 + 3 + 1 + 1 + 1 + 1 from by omega]
      rfl
theorem own_blk {w : World} {B : Nat} {e : TypeId} {G n cap : Nat} {l : List Bl} (h : w.ownsRow B e 4 (.slice (some ⟨G, 0, none⟩) n cap) n (bvs l)) (k : Nat) (p : Bl) (hk : l[k]? = some p) : w.cell? ⟨G, k * 4, none⟩ = some (.int .i64 p.n) ∧ w.cell? ⟨G, k * 4 + 1, none⟩ = some (.bool p.raw) ∧ w.cell? ⟨G, k * 4 + 2, none⟩ = some (.int .i64 p.z) ∧ w.cell? ⟨G, k * 4 + 3, none⟩ = some (.string p.body) := by
  have hl := h.1
  rw [bvs_len] at hl
  have hk2 := get_lt hk
  have g := fun j hj => bvs_get l k p hk j hj
  exact ⟨(h.cellAt _ (by omega)).trans (g 0 (by omega)), (h.cellAt _ (by omega)).trans (g 1 (by omega)), (h.cellAt _ (by omega)).trans (g 2 (by omega)), (h.cellAt _ (by omega)).trans (g 3 (by omega))⟩
theorem own_put_bl3 {w : World} {B : Nat} {e : TypeId} {G n cap : Nat} {l : List Bl} (h : w.ownsRow B e 4 (.slice (some ⟨G, 0, none⟩) n cap) n (bvs l)) (k : Nat) (p : Bl) (hk : l[k]? = some p) (x : Int) (r : Bool) (z : Int) :
    (((w.setCell ⟨G, k * 4, none⟩ (.int .i64 x)).setCell ⟨G, k * 4 + 1, none⟩ (.bool r)).setCell ⟨G, k * 4 + 2, none⟩ (.int .i64 z)).ownsRow B e 4 (.slice (some ⟨G, 0, none⟩) n cap) n (bvs (l.set k ⟨x, r, z, p.body⟩)) := by
  have hl := get_lt hk
  have h1 := (h.stored (k * 4) (.int .i64 x)).1
  rw [bvs_set0 l k p hk] at h1
  have h2 := (h1.stored (k * 4 + 1) (.bool r)).1
  rw [bvs_set1 _ k ⟨x, p.raw, p.z, p.body⟩ (by rw [List.getElem?_set_self hl])] at h2
  have h3 := (h2.stored (k * 4 + 2) (.int .i64 z)).1
  rw [bvs_set2 _ k ⟨x, r, p.z, p.body⟩ (by simp [hl])] at h3
  simpa using h3
theorem own_put_bl1 {w : World} {B : Nat} {e : TypeId} {G n cap : Nat} {l : List Bl} (h : w.ownsRow B e 4 (.slice (some ⟨G, 0, none⟩) n cap) n (bvs l)) (k : Nat) (p : Bl) (hk : l[k]? = some p) (d : ByteArray) :
    (w.setCell ⟨G, k * 4 + 3, none⟩ (.string d)).ownsRow B e 4 (.slice (some ⟨G, 0, none⟩) n cap) n (bvs (l.set k ⟨p.n, p.raw, p.z, d⟩)) := by
  have h1 := (h.stored (k * 4 + 3) (.string d)).1
  rw [bvs_set3 l k p hk] at h1
  exact h1

/-- the blocks that hold the marks from 1 on -/
def mkb1 (i : Nat) : Bl := ⟨1 + 4 * (i : Int), (1 + 4 * (i : Int) + 1) % 3 == 0, 1 + 4 * (i : Int) + 1 + 1, mt (4 + 4 * i)⟩
def mkb (n : Nat) : List Bl := (List.range n).map mkb1
theorem mkb_len (n : Nat) : (mkb n).length = n := by simp [mkb]
theorem mkb_get (n : Nat) (i : Nat) (h : i < n) : (mkb n)[i]? = some (mkb1 i) := by simp [mkb, h]
theorem mkb_succ (n : Nat) : mkb (n + 1) = mkb n ++ [mkb1 n] := by simp [mkb, List.range_succ]

set_option maxHeartbeats 4000000 in
theorem c_markBlockS (B G cap : Nat) (l : List Bl) (w : World) (h : w.ownsRow B 27 4 (.slice (some ⟨G, 0, none⟩) l.length cap) l.length (bvs l)) (hn : l.length ≤ 1000) : Calls Tryd.prog 29 #[.slice (some ⟨G, 0, none⟩) l.length cap, .int .i64 1] w fun e w' => e = .returned (.int .i64 (1 + 4 * l.length)) ∧ w'.ownsRow B 27 4 (.slice (some ⟨G, 0, none⟩) l.length cap) l.length (bvs (mkb l.length)) ∧ w.grownBy w' (some G) := by
  obtain ⟨N, hN⟩ : ∃ N, N = l.length := ⟨_, rfl⟩
  have HN := hid hN
  rw [← hN] at hn h ⊢
  clear hN
  have HH := hid h
  clear h
  go_enter Tryd.func29, Tryd.ntmps29
  go_wp2_with fail
  go_loopw [1, 5] (fun m i wr => ∃ k : Nat, k ≤ N ∧ i = .int .i64 k ∧ m = .int .i64 (1 + 4 * k) ∧ wr.ownsRow B 27 4 (.slice (some ⟨G, 0, none⟩) N cap) N (bvs (mkb k ++ l.drop k)) ∧ w.grownBy wr (some G)) (fun _ i _ => N - (intOf i).toNat)
  case atStart => exact ⟨0, Nat.zero_le _, rfl, rfl, by simpa [mkb] using HH.out, grown_refl _ _⟩
  case round =>
    obtain ⟨k, hk, rfl, rfl, hown, hgr⟩ := hrel
    rename_i wr _
    by_cases hlt : k < N
    · have hlt2 : k < l.length := by have := HN.out; omega
      obtain ⟨p, hp⟩ : ∃ p, p = l[k] := ⟨_, rfl⟩
      have HE := hid (show (mkb k ++ l.drop k)[k]? = some p by
        rw [List.getElem?_append_right (by rw [mkb_len]; omega), mkb_len, Nat.sub_self, List.getElem?_drop, Nat.add_zero, hp]; exact List.getElem?_eq_getElem hlt2)
      have HS := hid (show (mkb k ++ l.drop k).set k (mkb1 k) = mkb (k + 1) ++ l.drop (k + 1) by
        rw [List.set_append, if_neg (by rw [mkb_len]; omega), mkb_len, Nat.sub_self, List.drop_eq_getElem_cons hlt2, List.set_cons_zero, mkb_succ]; simp)
      obtain ⟨M, hM⟩ : ∃ M, M = mkb k ++ l.drop k := ⟨_, rfl⟩
      rw [← hM] at HE HS hown
      clear hp hM
      have HM := hid (fun v => (c_markText (4 + 4 * k) v (by omega) (by omega) : Calls Tryd.prog _ #[.int .i64 ((4 + 4 * k : Nat) : Int)] v _))
      rw [show ((4 + 4 * k : Nat) : Int) = 1 + 4 * (k : Int) + 1 + 1 + 1 from by omega] at HM
      have hst := own_put_bl3 hown k p HE.out (1 + 4 * (k : Int)) ((1 + 4 * (k : Int) + 1) % 3 == 0) (1 + 4 * (k : Int) + 1 + 1)
      have hst2 := grown_set (grown_set (grown_set hgr (k * 4) (.int .i64 (1 + 4 * (k : Int)))) (k * 4 + 1) (.bool ((1 + 4 * (k : Int) + 1) % 3 == 0))) (k * 4 + 2) (.int .i64 (1 + 4 * (k : Int) + 1 + 1))
      have HT := hid (And.intro hst hst2)
      have HS2 := hid (show (M.set k ⟨1 + 4 * (k : Int), (1 + 4 * (k : Int) + 1) % 3 == 0, 1 + 4 * (k : Int) + 1 + 1, p.body⟩).set k (mkb1 k) = mkb (k + 1) ++ l.drop (k + 1) by rw [List.set_set, HS.out])
      have HE2 := hid (show (M.set k ⟨1 + 4 * (k : Int), (1 + 4 * (k : Int) + 1) % 3 == 0, 1 + 4 * (k : Int) + 1 + 1, p.body⟩)[k]? = some ⟨1 + 4 * (k : Int), (1 + 4 * (k : Int) + 1) % 3 == 0, 1 + 4 * (k : Int) + 1 + 1, p.body⟩ by rw [List.getElem?_set_self (get_lt HE.out)])
      obtain ⟨q0, q1, q2, q3⟩ := own_blk hown k _ HE.out
      have f0 := hown.frozenAt (k * 4)
      have f1 := hown.frozenAt (k * 4 + 1)
      have f2 := hown.frozenAt (k * 4 + 2)
      clear hst hst2 hown hgr
      go_wp2_with fail
      obtain ⟨W3, hW3⟩ : ∃ W3, W3 = (((wr.setCell ⟨G, k * 4, none⟩ (.int .i64 (1 + 4 * (k : Int)))).setCell ⟨G, k * 4 + 1, none⟩ (.bool ((1 + 4 * (k : Int) + 1) % 3 == 0))).setCell ⟨G, k * 4 + 2, none⟩ (.int .i64 (1 + 4 * (k : Int) + 1 + 1))) := ⟨_, rfl⟩
      rw [← hW3] at HT ⊢
      clear hW3 q0 q1 q2 q3 f0 f1 f2
      refine (HM.out _).mono ?_
      rintro e w4 ⟨rfl, hb4⟩
      have own4 := own_on HT.out.1 hb4
      have hg4 := grown_trans HT.out.2 (grown_below (some G) hb4)
      obtain ⟨q0, q1, q2, q3⟩ := own_blk own4 k _ HE2.out
      have f3 := own4.frozenAt (k * 4 + 3)
      have own5 := own_put_bl1 own4 k _ HE2.out (mt (4 + 4 * k))
      rw [show (⟨1 + 4 * (k : Int), (1 + 4 * (k : Int) + 1) % 3 == 0, 1 + 4 * (k : Int) + 1 + 1, mt (4 + 4 * k)⟩ : Bl) = mkb1 k from rfl, HS2.out] at own5
      have HT5 := hid (And.intro own5 (grown_set hg4 (k * 4 + 3) (.string (mt (4 + 4 * k)))))
      clear own4 own5 hg4 hb4
      go_wp2_with fail
      go_roundw
      case rel => exact ⟨k + 1, by omega, by go_num, vint (by omega), HT5.out.1, HT5.out.2⟩
      case measure => simp [intOf]; omega
    · have HD := hid (show mkb k ++ l.drop k = mkb N by rw [show k = N from by omega, List.drop_of_length_le (by have := HN.out; omega)]; simp)
      rw [HD.out] at hown
      go_wp2
      go_ret
      exact ⟨ret_int (by omega), hown, hgr⟩

theorem c_markBlockS_nil (w : World) : Calls Tryd.prog 29 #[.slice none 0 0, .int .i64 1] w (Same (.int .i64 1) w) := by
  go_enter Tryd.func29, Tryd.ntmps29
  go_wp2_with fail
  go_loop [1, 5] (fun m i => m = .int .i64 1 ∧ i = .int .i64 0) (fun _ i => 0)
  case atStart => exact ⟨rfl, rfl⟩
  case round =>
    obtain ⟨rfl, rfl⟩ := hrel
    go_wp2
    go_ret
    exact ⟨rfl, rfl⟩

theorem own_blsq {w : World} {B : Nat} {e : TypeId} {A : Option Addr} {n cap : Nat} {l : List Bl} (h : w.ownsRow B e 4 (.slice A n cap) n (bvs l)) : BlsAt w w.heap.size A cap l := by
  obtain ⟨A', cap', e1, h2, _⟩ := own_bls h
  obtain ⟨rfl, -, rfl⟩ : A = A' ∧ n = l.length ∧ cap = cap' := by simpa using e1
  exact h2
theorem own_bls_nil (w : World) (B : Nat) (e : TypeId) : w.ownsRow B e 4 (.slice none 0 0) 0 (bvs []) := World.ownsRow_nil w B e 4

/-- whatever slice is owned: its mark -/
theorem c_markBlockS_any (l : List Bl) (B cap : Nat) (A : Option Addr) (w : World) (h : w.ownsRow B 27 4 (.slice A l.length cap) l.length (bvs l)) (hn : l.length ≤ 1000) : Calls Tryd.prog 29 #[.slice A l.length cap, .int .i64 1] w fun e w' => e = .returned (.int .i64 (1 + 4 * l.length)) ∧ w'.ownsRow B 27 4 (.slice A l.length cap) l.length (bvs (mkb l.length)) ∧ w.grownBy w' (Value.slice A l.length cap).ownBlock := by
  rcases h.2 with ⟨e2, h0⟩ | ⟨g, c, cur, e2, _⟩
  · have h00 : l = [] := List.length_eq_zero_iff.1 h0
    subst h00
    obtain ⟨rfl, rfl⟩ : A = none ∧ cap = 0 := by simpa using e2
    refine (c_markBlockS_nil _).mono ?_
    rintro e w' ⟨rfl, rfl⟩
    exact ⟨ret_int (by simp), own_bls_nil _ _ _, grown_refl _ _⟩
  · obtain ⟨rfl, -, rfl⟩ : A = some ⟨g, 0, none⟩ ∧ True ∧ cap = c := by simpa using e2
    exact c_markBlockS B g cap l w h hn

set_option maxHeartbeats 4000000 in
theorem c_heldBlockS (L : Nat) (A : Option Addr) (cap n : Nat) (w : World) (h : BlsAt w L A cap (mkb n)) (hL : L ≤ w.heap.size) (hn : n ≤ 1000) : Calls Tryd.prog 30 #[.slice A n cap, .int .i64 1] w fun e w' => e = .returned (.int .i64 (1 + 4 * n)) ∧ Below w.heap.size w w' := by
  have HH := hid h
  clear h
  go_enter Tryd.func30, Tryd.ntmps30
  go_wp2_with fail
  go_loopw [1, 5] (fun m i wr => ∃ k : Nat, k ≤ n ∧ i = .int .i64 k ∧ m = .int .i64 (1 + 4 * k) ∧ Below w.heap.size w wr) (fun _ i _ => n - (intOf i).toNat)
  case atStart => exact ⟨0, Nat.zero_le _, rfl, rfl, by (repeat (first | with_reducible (first | assumption | exact Below.refl _ _ | refine bel_alloc ?_ _ | refine bel_drew ?_ | refine bel_drewN ?_ _ | refine bel_set ?_ (by first | omega | (simp; done) | (simp; omega)) _ | refine bel_trans ?_ (by assumption)) | assumption | refine bel_trans ?_ (by assumption)))⟩
  case round =>
    obtain ⟨k, hk, rfl, rfl, hbl⟩ := hrel
    rename_i wr _
    by_cases hlt : k < n
    · obtain ⟨b, off, rfl, hb, hc0, hc1, hc2, hc3⟩ := bl_at (HH.out.below hbl hL) k (by rw [mkb_len]; omega)
      have e1 : (mkb n)[k]'(by rw [mkb_len]; omega) = mkb1 k := by
        have := mkb_get n k hlt
        rw [List.getElem?_eq_getElem (by rw [mkb_len]; omega)] at this
        exact Option.some.inj this
      rw [e1] at hc0 hc1 hc2 hc3
      have HM := hid (fun v => (c_markText (4 + 4 * k) v (by omega) (by omega) : Calls Tryd.prog _ #[.int .i64 ((4 + 4 * k : Nat) : Int)] v _))
      rw [show ((4 + 4 * k : Nat) : Int) = 1 + 4 * (k : Int) + 1 + 1 + 1 from by omega] at HM
      obtain ⟨T, hT⟩ : ∃ T, T = mt (4 + 4 * k) := ⟨_, rfl⟩
      have hc3' : _ = some (Value.string (mt (4 + 4 * k))) := hc3
      have hc0' : _ = some (Value.int .i64 (1 + 4 * (k : Int))) := hc0
      have hc1' : _ = some (Value.bool ((1 + 4 * (k : Int) + 1) % 3 == 0)) := hc1
      have hc2' : _ = some (Value.int .i64 (1 + 4 * (k : Int) + 1 + 1)) := hc2
      rw [← hT] at HM hc3'
      clear hT e1 hc0 hc1 hc2 hc3
      go_wp2_with fail
      have hS1 : wr.cell? ⟨b, off + k * 4 + 3, none⟩ = some (.string T) ∧ Below wr.heap.size wr wr := ⟨hc3', Below.refl _ _⟩
      refine qbegin (S := (fun v => v.cell? ⟨b, off + k * 4 + 3, none⟩ = some (.string T) ∧ Below wr.heap.size wr v)) (by kernel_rfl) (by kernel_rfl) (s1_drew hS1) ?_
      refine qk ?_
      refine qk ?_
      refine qk ?_
      refine qk ?_
      refine qk ?_
      refine qk ?_
      refine qc (fun wq hSq => HM.out wq) (fun wq wr hbr hSq => s1_bel hbr hSq) ?_
      refine qk ?_
      refine wpQuiet_nil ?_
      intro wq hSq
      (try dsimp only at hSq)
      have hbq := hbl.trans (hSq.2.mono hbl.size)
      clear hSq hS1 hc0' hc1' hc2' hc3' hbl
      go_wp2_with fail
      go_roundw
      case rel => exact ⟨k + 1, by omega, by go_num, vint (by omega), hbq⟩
      case measure => simp [intOf]; omega
    · go_wp2_with fail
      go_ret
      exact ⟨ret_int (by omega), hbl⟩
end Go.Proofs.YtkglpbaapekgnaaDoor
