/- Slices of blocks that a call owns: the laws' own helpers on them. No condition but that they are few. -/
import Derived.Test.YtepbjmpbcobfpaaDoorTc
namespace Go.Proofs.YtepbjmpbcobfpaaDoor
open Go.ChangeShapes Go.WideShapes Go.ChangeAt Go.RowKit Go.Joins
set_option linter.unusedVariables false
set_option linter.unusedSimpArgs false

/-- the digits of a number in front of a text -/
def mtx : Nat → Nat → ByteArray → ByteArray
  | 0, _, acc => acc
  | f + 1, k, acc => if k = 0 then acc else mtx f (k / 10) (str [UInt8.ofNat (48 + k % 10)] ++ acc)
theorem mtx_zero : ∀ (f : Nat) (acc : ByteArray), mtx f 0 acc = acc
  | 0, _ => rfl
  | f + 1, acc => by rw [mtx, if_pos rfl]
theorem mtx_step (f k : Nat) (acc : ByteArray) (h : 0 < k) : mtx (f + 1) k acc = mtx f (k / 10) (str [UInt8.ofNat (48 + k % 10)] ++ acc) := by rw [mtx, if_neg (by omega)]
def mt (k : Nat) : ByteArray := str [109] ++ mtx 4 k ByteArray.empty

set_option maxHeartbeats 4000000 in
set_option maxRecDepth 100000 in
theorem c_markText (k : Nat) (w : World) (h0 : 0 < k) (h1 : k ≤ 9999) : Calls Tryd.prog 23 #[.int .i64 k] w fun e w' => e = .returned (.string (mt k)) ∧ Below w.heap.size w w' := by
  have HM := hid (show mt k = str [109] ++ mtx 4 k ByteArray.empty from rfl)
  go_enter Tryd.func23, Tryd.ntmps23
  go_wp2_with fail
  go_loopw [0, 3] (fun v t wr => ∃ (f n : Nat) (T : ByteArray), v = .int .i64 n ∧ t = .string T ∧ n < 10 ^ f ∧ f ≤ 4 ∧ T.size ≤ 100 - 10 * f ∧ Hid (mtx 4 k ByteArray.empty = mtx f n T) ∧ Below w.heap.size w wr) (fun v _ _ => (intOf v).toNat)
  case atStart => exact ⟨4, k, ByteArray.empty, rfl, rfl, by omega, by omega, by simp, hid rfl, by (repeat (first | with_reducible (first | assumption | exact Below.refl _ _ | refine bel_alloc ?_ _ | refine bel_drew ?_ | refine bel_drewN ?_ _ | refine bel_set ?_ (by first | omega | (simp; done) | (simp; omega)) _ | refine bel_trans ?_ (by assumption)) | assumption | refine bel_trans ?_ (by assumption)))⟩
  case round =>
    obtain ⟨f, n, T, rfl, rfl, hn, hf, hT, HR, hbl⟩ := hrel
    have hn4 : n < 10000 := Nat.lt_of_lt_of_le hn (Nat.pow_le_pow_right (by omega) hf : 10 ^ f ≤ 10 ^ 4)
    by_cases hp : 0 < n
    · cases f with
      | zero => simp at hn; omega
      | succ f =>
      have hd : n / 10 < 10 ^ f := Nat.div_lt_of_lt_mul (by rw [Nat.pow_succ] at hn; omega)
      have HR2 := hid (HR.out.trans (mtx_step f n T hp))
      clear hn
      have h0 := run_one (P := Tryd.prog) (w := wr) Tryd.underlying68 Tryd.underlying5 Tryd.underlying9 (X := 48 + (n : Int) % 10) (c := UInt8.ofNat (48 + n % 10)) (by rw [UInt8.toNat_ofNat']; omega)
      obtain ⟨K0, hK0⟩ : ∃ K0, K0 = str [UInt8.ofNat (48 + n % 10)] := ⟨_, rfl⟩
      rw [← hK0] at h0
      have hz : K0.size = 1 := by rw [hK0, str_size]; rfl
      rw [← hK0] at HR2
      clear hK0
      go_wp2_with fail
      exact ⟨⟨f, n / 10, K0 ++ T, by simp, rfl, hd, by omega, by rw [ByteArray.size_append]; omega, HR2, by (repeat (first | with_reducible (first | assumption | exact Below.refl _ _ | refine bel_alloc ?_ _ | refine bel_drew ?_ | refine bel_drewN ?_ _ | refine bel_set ?_ (by first | omega | (simp; done) | (simp; omega)) _ | refine bel_trans ?_ (by assumption)) | assumption | refine bel_trans ?_ (by assumption)))⟩, by simp [intOf]; omega⟩
    · obtain rfl : n = 0 := by omega
      have HE := hid (HM.out.trans (by rw [HR.out, mtx_zero] : _ = str [109] ++ T))
      go_wp2_with fail
      go_ret
      exact ⟨by rw [HE.out]; rfl, hbl⟩

theorem c_eqBlock (a z : Int) (r : Bool) (d : ByteArray) (w : World) : Calls Tryd.prog 33 #[.agg #[.int .i64 a, .bool r, .int .i64 z, .string d], .agg #[.int .i64 a, .bool r, .int .i64 z, .string d]] w fun e w' => e = .returned (.bool true) ∧ Below w.heap.size w w' := by
  go_enter Tryd.func33, Tryd.ntmps33
  go_wp2
  go_ret
  exact ⟨rfl, by (repeat (first | with_reducible (first | assumption | exact Below.refl _ _ | refine bel_alloc ?_ _ | refine bel_drew ?_ | refine bel_drewN ?_ _ | refine bel_set ?_ (by first | omega | (simp; done) | (simp; omega)) _ | refine bel_trans ?_ (by assumption)) | assumption | refine bel_trans ?_ (by assumption)))⟩

theorem bvs_set0 (l : List Bl) (k : Nat) (p : Bl) (h : l[k]? = some p) (x : Int) : (bvs l).set (k * 4) (.int .i64 x) = bvs (l.set k ⟨x, p.raw, p.z, p.body⟩) := by
  induction l generalizing k with
  | nil => simp at h
  | cons q t ih =>
    cases k with
    | zero => simp at h; subst h; rw [List.set_cons_zero, bvs_cons, bvs_cons]; rfl
    | succ k =>
      rw [List.getElem?_cons_succ] at h
      rw [List.set_cons_succ, bvs_cons, bvs_cons, ← ih k h, show (k + 1) * 4 = k * 4 + 1 + 1 + 1 + 1 from by omega]
      rfl
theorem bvs_set1 (l : List Bl) (k : Nat) (p : Bl) (h : l[k]? = some p) (x : Bool) : (bvs l).set (k * 4 + 1) (.bool x) = bvs (l.set k ⟨p.n, x, p.z, p.body⟩) := by
  induction l generalizing k with
  | nil => simp at h
  | cons q t ih =>
    cases k with
    | zero => simp at h; subst h; rw [List.set_cons_zero, bvs_cons, bvs_cons]; rfl
    | succ k =>
      rw [List.getElem?_cons_succ] at h
      rw [List.set_cons_succ, bvs_cons, bvs_cons, ← ih k h, show (k + 1) * 4 + 1 = k * 4 + 1 + 1 + 1 + 1 + 1 from by omega]
      rfl
theorem bvs_set2 (l : List Bl) (k : Nat) (p : Bl) (h : l[k]? = some p) (x : Int) : (bvs l).set (k * 4 + 2) (.int .i64 x) = bvs (l.set k ⟨p.n, p.raw, x, p.body⟩) := by
  induction l generalizing k with
  | nil => simp at h
  | cons q t ih =>
    cases k with
    | zero => simp at h; subst h; rw [List.set_cons_zero, bvs_cons, bvs_cons]; rfl
    | succ k =>
      rw [List.getElem?_cons_succ] at h
      rw [List.set_cons_succ, bvs_cons, bvs_cons, ← ih k h, show (k + 1) * 4 + 2 = k * 4 + 2 + 1 + 1 + 1 + 1 from by omega]
      rfl
theorem bvs_set3 (l : List Bl) (k : Nat) (p : Bl) (h : l[k]? = some p) (x : ByteArray) : (bvs l).set (k * 4 + 3) (.string x) = bvs (l.set k ⟨p.n, p.raw, p.z, x⟩) := by
  induction l generalizing k with
  | nil => simp at h
  | cons q t ih =>
    cases k with
    | zero => simp at h; subst h; rw [List.set_cons_zero, bvs_cons, bvs_cons]; rfl
    | succ k =>
      rw [List.getElem?_cons_succ] at h
      rw [List.set_cons_succ, bvs_cons, bvs_cons, ← ih k h, show (k + 1) * 4 + 3 = k * 4 + 3 + 1 + 1 + 1 + 1 from by omega]
      rfl
theorem own_blk {w : World} {B : Nat} {e : TypeId} {G n cap : Nat} {l : List Bl} (h : w.ownsRow B e 4 (.slice (some ⟨G, 0, none⟩) n cap) n (bvs l)) (k : Nat) (p : Bl) (hk : l[k]? = some p) : w.cell? ⟨G, k * 4, none⟩ = some (.int .i64 p.n) ∧ w.cell? ⟨G, k * 4 + 1, none⟩ = some (.bool p.raw) ∧ w.cell? ⟨G, k * 4 + 2, none⟩ = some (.int .i64 p.z) ∧ w.cell? ⟨G, k * 4 + 3, none⟩ = some (.string p.body) := by
  have hl := h.1
  rw [bvs_len] at hl
  have hk2 := get_lt hk
  have g := fun j hj => bvs_get l k p hk j hj
  exact ⟨(h.cellAt _ (by omega)).trans (g 0 (by omega)), (h.cellAt _ (by omega)).trans (g 1 (by omega)), (h.cellAt _ (by omega)).trans (g 2 (by omega)), (h.cellAt _ (by omega)).trans (g 3 (by omega))⟩
theorem own_put_bl3 {w : World} {B : Nat} {e : TypeId} {G n cap : Nat} {l : List Bl} (h : w.ownsRow B e 4 (.slice (some ⟨G, 0, none⟩) n cap) n (bvs l)) (k : Nat) (p : Bl) (hk : l[k]? = some p) (x : Int) (r : Bool) (z : Int) :
    (((w.setCell ⟨G, k * 4, none⟩ (.int .i64 x)).setCell ⟨G, k * 4 + 1, none⟩ (.bool r)).setCell ⟨G, k * 4 + 2, none⟩ (.int .i64 z)).ownsRow B e 4 (.slice (some ⟨G, 0, none⟩) n cap) n (bvs (l.set k ⟨x, r, z, p.body⟩)) := by
  have hl := get_lt hk
  have h1 := (h.stored (k * 4) (.int .i64 x)).1
  rw [bvs_set0 l k p hk] at h1
  have h2 := (h1.stored (k * 4 + 1) (.bool r)).1
  rw [bvs_set1 _ k ⟨x, p.raw, p.z, p.body⟩ (by rw [List.getElem?_set_self hl])] at h2
  have h3 := (h2.stored (k * 4 + 2) (.int .i64 z)).1
  rw [bvs_set2 _ k ⟨x, r, p.z, p.body⟩ (by simp [hl])] at h3
  simpa using h3
theorem own_put_bl1 {w : World} {B : Nat} {e : TypeId} {G n cap : Nat} {l : List Bl} (h : w.ownsRow B e 4 (.slice (some ⟨G, 0, none⟩) n cap) n (bvs l)) (k : Nat) (p : Bl) (hk : l[k]? = some p) (d : ByteArray) :
    (w.setCell ⟨G, k * 4 + 3, none⟩ (.string d)).ownsRow B e 4 (.slice (some ⟨G, 0, none⟩) n cap) n (bvs (l.set k ⟨p.n, p.raw, p.z, d⟩)) := by
  have h1 := (h.stored (k * 4 + 3) (.string d)).1
  rw [bvs_set3 l k p hk] at h1
  exact h1

/-- the blocks that hold the marks from 1 on -/
def mkb1 (i : Nat) : Bl := ⟨1 + 4 * (i : Int), (1 + 4 * (i : Int) + 1) % 3 == 0, 1 + 4 * (i : Int) + 1 + 1, mt (4 + 4 * i)⟩
def mkb (n : Nat) : List Bl := (List.range n).map mkb1
theorem mkb_len (n : Nat) : (mkb n).length = n := by simp [mkb]
theorem mkb_get (n : Nat) (i : Nat) (h : i < n) : (mkb n)[i]? = some (mkb1 i) := by simp [mkb, h]
theorem mkb_succ (n : Nat) : mkb (n + 1) = mkb n ++ [mkb1 n] := by simp [mkb, List.range_succ]

theorem own_blsq {w : World} {B : Nat} {e : TypeId} {A : Option Addr} {n cap : Nat} {l : List Bl} (h : w.ownsRow B e 4 (.slice A n cap) n (bvs l)) : BlsAt w w.heap.size A cap l := by
  obtain ⟨A', cap', e1, h2, _⟩ := own_bls h
  obtain ⟨rfl, -, rfl⟩ : A = A' ∧ n = l.length ∧ cap = cap' := by simpa using e1
  exact h2
theorem own_bls_nil (w : World) (B : Nat) (e : TypeId) : w.ownsRow B e 4 (.slice none 0 0) 0 (bvs []) := World.ownsRow_nil w B e 4
end Go.Proofs.YtepbjmpbcobfpaaDoor
