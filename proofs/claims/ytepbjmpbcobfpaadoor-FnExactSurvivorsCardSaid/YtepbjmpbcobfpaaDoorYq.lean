/- ParseBlock in the model. No condition but a size. -/
import Derived.Test.YtepbjmpbcobfpaaDoorYj
namespace Go.Proofs.YtepbjmpbcobfpaaDoor
open Go.ChangeShapes Go.WideShapes Go.ChangeAt Go.RowKit Go.Joins
set_option linter.unusedVariables false
set_option linter.unusedSimpArgs false

theorem idx_text {P : Program} {t : TypeId} (ht : P.underlying t = some .string) (s : ByteArray) (n : Nat) (h : n < s.size) (w : World) :
    (Instr.index t (.string s) (.int .i64 (n : Int))).run P w = .ok (.int .u8 ((s[n]).toNat : Int)) w := by
  have e := run_index_string (P := P) (w := w) t s .i64 (n : Int) ht
  rw [dif_pos (by omega)] at e
  exact e

def pairOf (m : List UInt8) : Nat := 256 * (m.getD 0 0).toNat + (m.getD 1 0).toNat

set_option maxRecDepth 100000 in
theorem c_l5PairB (m : List UInt8) (w : World) (h : m.length = 2) : Calls Tryd.prog 28 #[.string (str m)] w fun e w' => e = .returned (.int .i64 (pairOf m : Int)) ∧ Below w.heap.size w w' := by
  obtain ⟨a, b, rfl⟩ : ∃ a b, m = [a, b] := by
    match m, h with
    | [a, b], _ => exact ⟨a, b, rfl⟩
  obtain ⟨M, hM⟩ : ∃ M, M = str [a, b] := ⟨_, rfl⟩
  have hz : M.size = 2 := by rw [hM]; rfl
  have i0 : ∀ W, (Instr.index 9 (.string M) (.int .i64 0)).run Tryd.prog W = .ok (.int .u8 (a.toNat : Int)) W := fun W => by
    have := idx_text (P := Tryd.prog) Tryd.underlying9 M 0 (by omega) W
    exact this.trans (by subst hM; rfl)
  have i1 : ∀ W, (Instr.index 9 (.string M) (.int .i64 1)).run Tryd.prog W = .ok (.int .u8 (b.toNat : Int)) W := fun W => by
    have := idx_text (P := Tryd.prog) Tryd.underlying9 M 1 (by omega) W
    exact this.trans (by subst hM; rfl)
  have ha := UInt8.toNat_lt a
  have hb := UInt8.toNat_lt b
  have HR := hid (show ((pairOf [a, b] : Nat) : Int) = 256 * (a.toNat : Int) + (b.toNat : Int) by simp [pairOf])
  rw [← hM]
  clear hM
  have w1 : IntKind.i64.wrap (256 * (a.toNat : Int)) = 256 * (a.toNat : Int) := by rw [IntWalk.i64_in _ (by omega)]
  have w2 : IntKind.i64.wrap (256 * (a.toNat : Int) + (b.toNat : Int)) = 256 * (a.toNat : Int) + (b.toNat : Int) := by rw [IntWalk.i64_in _ (by omega)]
  go_enter Tryd.func28, Tryd.ntmps28
  go_wp2
  go_quiet (fail)
  go_wp2
  go_ret
  exact ⟨ret_int (by rw [HR.out]), by (repeat (first | with_reducible (first | assumption | exact Below.refl _ _ | refine bel_alloc ?_ _ | refine bel_drew ?_ | refine bel_drewN ?_ _ | refine bel_set ?_ (by first | omega | (simp; done) | (simp; omega)) _ | refine bel_trans ?_ (by assumption)) | assumption | refine bel_trans ?_ (by assumption)))⟩

/-- what the model's ParseBlock gives where there is no block -/
def noPb : Value := .tuple #[.agg #[.int .i64 0, .bool false, .int .i64 0, .string ByteArray.empty], .int .i64 0, .bool false]
/-- the bytes of T from i on, n of them -/
def sub (T : List UInt8) (i n : Nat) : List UInt8 := (T.drop i).take n
theorem sub_two (T : List UInt8) (i : Nat) (h : i + 2 ≤ T.length) : (sub T i 2).length = 2 ∧ pairOf (sub T i 2) = pat2 T i := by
  refine ⟨by simp [sub]; omega, ?_⟩
  simp only [pairOf, sub, pat2, bat, List.getD_eq_getElem?_getD, List.getElem?_take, List.getElem?_drop]
  simp
theorem ext_sub (S : ByteArray) (A : Nat) (T : List UInt8) (hT : T = S.data.toList.drop A) (i n : Nat) : S.extract (A + i) (A + i + n) = str (sub T i n) := by
  apply ByteArray.ext
  apply Array.toList_inj.1
  rw [str_list, ByteArray.data_extract, Array.toList_extract, List.extract, hT, sub, List.drop_drop]
  congr 1
  omega
theorem slc {P : Program} {t : TypeId} (ht : P.underlying t = some .string) (S : ByteArray) (A : Nat) (T : List UInt8) (hT : T = S.data.toList.drop A) (i n : Nat) (x y : Int) (hx : x = (A : Int) + i) (hy : y = (A : Int) + i + n) (h : A + i + n ≤ S.size) (w : World) :
    (Instr.slice t (.string S) (some (.int .i64 x)) (some (.int .i64 y)) none).run P w = .ok (.string (str (sub T i n))) w := by
  subst hx hy
  rw [run_slice_string w t S .i64 .i64 _ _ ht (by omega) (by omega) (by omega), show ((A : Int) + i).toNat = A + i by omega, show ((A : Int) + i + n).toNat = A + i + n by omega, ext_sub S A T hT]
theorem ix {P : Program} {t : TypeId} (ht : P.underlying t = some .string) (S : ByteArray) (A : Nat) (T : List UInt8) (hT : T = S.data.toList.drop A) (i : Nat) (x : Int) (hx : x = (A : Int) + i) (h : A + i < S.size) (w : World) :
    (Instr.index t (.string S) (.int .i64 x)).run P w = .ok (.int .u8 ((bat T i : Nat) : Int)) w := by
  subst hx
  have := idx_text (P := P) ht S (A + i) h w
  rw [show ((A + i : Nat) : Int) = (A : Int) + i by omega] at this
  rw [this, bat, hT]
  congr 3
  rw [List.getD_eq_getElem?_getD, List.getElem?_drop, List.getElem?_eq_getElem (by simpa using h)]
  rfl
theorem pb_hd {T : List UInt8} (h0 : bat T 0 = 181) (h1 : bat T 1 ≤ 1) (hl : 10 + pat2 T 6 ≤ T.length) (hk : (brd T).ok) : hdOk T := by
  have hs := brd_size T hl
  obtain ⟨⟨a1, a2⟩, ⟨b1, b2⟩, h3, h4⟩ := hk
  have hn : (brd T).n = ((pat2 T 2 : Nat) : Int) := rfl
  have hz : (brd T).z = ((pat2 T 4 : Nat) : Int) := rfl
  rw [hn] at a1 a2
  rw [hz] at b1 b2 h3 h4
  rw [hs] at h3 h4
  refine ⟨by omega, h0, h1, by omega, by omega, ?_⟩
  cases hr : (brd T).raw with
  | true => have := h3 hr; omega
  | false => have := h4 hr; omega

set_option maxHeartbeats 8000000 in
set_option maxRecDepth 100000 in
theorem c_ParseBlock_out (S : ByteArray) (i : Int) (w : World) (hS : S.size ≤ 1000000000000) (hi : -9223372036854775808 ≤ i ∧ i ≤ 9223372036854775807) (h : i < 0 ∨ (S.size : Int) < i) : Calls Tryd.prog 19 #[.string S, .int .i64 i] w fun e w' => e = .returned noPb ∧ Below w.heap.size w w' := by
  have HR := hid (Blk.new w 35 #[.int .i64 0, .bool false, .int .i64 0, .string ByteArray.empty])
  have HB := hid (bel_alloc (Below.refl _ w) (.cells #[.int .i64 0, .bool false, .int .i64 0, .string ByteArray.empty] 35))
  obtain ⟨rb, hrb⟩ : ∃ rb, rb = w.heap.size := ⟨_, rfl⟩
  have HLo := hid (show w.heap.size ≤ rb by omega)
  rw [← hrb] at HR
  obtain ⟨r0, r1, r2, r3⟩ := HR.out.cells4y
  have rf0 := HR.out.frozen 0
  have rf1 := HR.out.frozen 1
  have rf2 := HR.out.frozen 2
  have rf3 := HR.out.frozen 3
  by_cases h1 : i < 0
  · clear h
    go_enter Tryd.func19, Tryd.ntmps19
    go_wp2_with fail
    obtain ⟨Wz, hWz⟩ : ∃ Wz, Wz = w.alloc (.cells #[.int .i64 0, .bool false, .int .i64 0, .string ByteArray.empty] 35) := ⟨_, rfl⟩
    have HZ : Blk Wz w.heap.size 35 #[.int .i64 0, .bool false, .int .i64 0, .string ByteArray.empty] := by rw [hWz]; exact Blk.new w _ _
    have HBz : Below w.heap.size w Wz := by rw [hWz]; exact HB.out
    rw [show w.alloc (.cells #[.int .i64 0, .bool false, .int .i64 0, .string { data := #[] }] 35) = Wz from hWz.symm]
    obtain ⟨z0, z1, z2, z3⟩ := HZ.cells4y
    clear hWz
    exact bodyPost_ret (v := noPb) (by simp [results, Tryd.results19, go_sem, z0, z1, z2, z3, noPb]) rfl ⟨rfl, HBz⟩
  · have h2 : (S.size : Int) < i := by omega
    clear h
    go_enter Tryd.func19, Tryd.ntmps19
    go_wp2_with fail
    obtain ⟨Wz, hWz⟩ : ∃ Wz, Wz = w.alloc (.cells #[.int .i64 0, .bool false, .int .i64 0, .string ByteArray.empty] 35) := ⟨_, rfl⟩
    have HZ : Blk Wz w.heap.size 35 #[.int .i64 0, .bool false, .int .i64 0, .string ByteArray.empty] := by rw [hWz]; exact Blk.new w _ _
    have HBz : Below w.heap.size w Wz := by rw [hWz]; exact HB.out
    rw [show w.alloc (.cells #[.int .i64 0, .bool false, .int .i64 0, .string { data := #[] }] 35) = Wz from hWz.symm]
    obtain ⟨z0, z1, z2, z3⟩ := HZ.cells4y
    clear hWz
    exact bodyPost_ret (v := noPb) (by simp [results, Tryd.results19, go_sem, z0, z1, z2, z3, noPb]) rfl ⟨rfl, HBz⟩

set_option maxHeartbeats 8000000 in
set_option maxRecDepth 100000 in
theorem c_ParseBlock_n1 (S : ByteArray) (A : Nat) (T : List UInt8) (w : World) (hS : S.size ≤ 1000000000000) (hA : A ≤ S.size) (hT : T = S.data.toList.drop A) (h : T.length < 10) : Calls Tryd.prog 19 #[.string S, .int .i64 (A : Int)] w fun e w' => e = .returned noPb ∧ Below w.heap.size w w' := by
  have hTl : T.length = S.size - A := by rw [hT, List.length_drop]; simp
  have d1 : decide ((A : Int) < 0) = false := decide_eq_false (by omega)
  have d2 : decide ((S.size : Int) < (A : Int)) = false := decide_eq_false (by omega)
  have d3 : decide ((S.size : Int) - (A : Int) < 10) = true := decide_eq_true (by omega)
  have HR := hid (Blk.new w 35 #[.int .i64 0, .bool false, .int .i64 0, .string ByteArray.empty])
  have HB := hid (bel_alloc (Below.refl _ w) (.cells #[.int .i64 0, .bool false, .int .i64 0, .string ByteArray.empty] 35))
  obtain ⟨rb, hrb⟩ : ∃ rb, rb = w.heap.size := ⟨_, rfl⟩
  have HLo := hid (show w.heap.size ≤ rb by omega)
  rw [← hrb] at HR
  obtain ⟨r0, r1, r2, r3⟩ := HR.out.cells4y
  have rf0 := HR.out.frozen 0
  have rf1 := HR.out.frozen 1
  have rf2 := HR.out.frozen 2
  have rf3 := HR.out.frozen 3
  clear hT hTl
  go_enter Tryd.func19, Tryd.ntmps19
  go_wp2_with fail
  obtain ⟨Wz, hWz⟩ : ∃ Wz, Wz = w.alloc (.cells #[.int .i64 0, .bool false, .int .i64 0, .string ByteArray.empty] 35) := ⟨_, rfl⟩
  have HZ : Blk Wz w.heap.size 35 #[.int .i64 0, .bool false, .int .i64 0, .string ByteArray.empty] := by rw [hWz]; exact Blk.new w _ _
  have HBz : Below w.heap.size w Wz := by rw [hWz]; exact HB.out
  rw [show w.alloc (.cells #[.int .i64 0, .bool false, .int .i64 0, .string { data := #[] }] 35) = Wz from hWz.symm]
  obtain ⟨z0, z1, z2, z3⟩ := HZ.cells4y
  clear hWz
  exact bodyPost_ret (v := noPb) (by simp [results, Tryd.results19, go_sem, z0, z1, z2, z3, noPb]) rfl ⟨rfl, HBz⟩

set_option maxHeartbeats 8000000 in
set_option maxRecDepth 100000 in
theorem c_ParseBlock_n2 (S : ByteArray) (A : Nat) (T : List UInt8) (w : World) (hS : S.size ≤ 1000000000000) (hA : A ≤ S.size) (hT : T = S.data.toList.drop A) (h : 10 ≤ T.length) (h0 : bat T 0 ≠ 181) : Calls Tryd.prog 19 #[.string S, .int .i64 (A : Int)] w fun e w' => e = .returned noPb ∧ Below w.heap.size w w' := by
  have hTl : T.length = S.size - A := by rw [hT, List.length_drop]; simp
  have d1 : decide ((A : Int) < 0) = false := decide_eq_false (by omega)
  have d2 : decide ((S.size : Int) < (A : Int)) = false := decide_eq_false (by omega)
  have d3 : decide ((S.size : Int) - (A : Int) < 10) = false := decide_eq_false (by omega)
  have i0 : ∀ W, (Instr.index 9 (.string S) (.int .i64 (A : Int))).run Tryd.prog W = .ok (.int .u8 ((bat T 0 : Nat) : Int)) W := fun W => ix Tryd.underlying9 S A T hT 0 _ (by omega) (by omega) W
  have i1 : ∀ W, (Instr.index 9 (.string S) (.int .i64 ((A : Int) + 1))).run Tryd.prog W = .ok (.int .u8 ((bat T 1 : Nat) : Int)) W := fun W => ix Tryd.underlying9 S A T hT 1 _ (by omega) (by omega) W
  have d4 : (((bat T 0 : Nat) : Int) != 181) = true := by rw [bne_iff_ne]; omega
  clear h0
  have HR := hid (Blk.new w 35 #[.int .i64 0, .bool false, .int .i64 0, .string ByteArray.empty])
  have HB := hid (bel_alloc (Below.refl _ w) (.cells #[.int .i64 0, .bool false, .int .i64 0, .string ByteArray.empty] 35))
  obtain ⟨rb, hrb⟩ : ∃ rb, rb = w.heap.size := ⟨_, rfl⟩
  have HLo := hid (show w.heap.size ≤ rb by omega)
  rw [← hrb] at HR
  obtain ⟨r0, r1, r2, r3⟩ := HR.out.cells4y
  have rf0 := HR.out.frozen 0
  have rf1 := HR.out.frozen 1
  have rf2 := HR.out.frozen 2
  have rf3 := HR.out.frozen 3
  clear hT hTl
  go_enter Tryd.func19, Tryd.ntmps19
  go_wp2_with fail
  obtain ⟨Wz, hWz⟩ : ∃ Wz, Wz = w.alloc (.cells #[.int .i64 0, .bool false, .int .i64 0, .string ByteArray.empty] 35) := ⟨_, rfl⟩
  have HZ : Blk Wz w.heap.size 35 #[.int .i64 0, .bool false, .int .i64 0, .string ByteArray.empty] := by rw [hWz]; exact Blk.new w _ _
  have HBz : Below w.heap.size w Wz := by rw [hWz]; exact HB.out
  rw [show w.alloc (.cells #[.int .i64 0, .bool false, .int .i64 0, .string { data := #[] }] 35) = Wz from hWz.symm]
  obtain ⟨z0, z1, z2, z3⟩ := HZ.cells4y
  clear hWz
  exact bodyPost_ret (v := noPb) (by simp [results, Tryd.results19, go_sem, z0, z1, z2, z3, noPb]) rfl ⟨rfl, HBz⟩

set_option maxHeartbeats 8000000 in
set_option maxRecDepth 100000 in
theorem c_ParseBlock_n3 (S : ByteArray) (A : Nat) (T : List UInt8) (w : World) (hS : S.size ≤ 1000000000000) (hA : A ≤ S.size) (hT : T = S.data.toList.drop A) (h : 10 ≤ T.length) (h0 : bat T 0 = 181) (h1 : 1 < bat T 1) : Calls Tryd.prog 19 #[.string S, .int .i64 (A : Int)] w fun e w' => e = .returned noPb ∧ Below w.heap.size w w' := by
  have hTl : T.length = S.size - A := by rw [hT, List.length_drop]; simp
  have d1 : decide ((A : Int) < 0) = false := decide_eq_false (by omega)
  have d2 : decide ((S.size : Int) < (A : Int)) = false := decide_eq_false (by omega)
  have d3 : decide ((S.size : Int) - (A : Int) < 10) = false := decide_eq_false (by omega)
  have i0 : ∀ W, (Instr.index 9 (.string S) (.int .i64 (A : Int))).run Tryd.prog W = .ok (.int .u8 ((bat T 0 : Nat) : Int)) W := fun W => ix Tryd.underlying9 S A T hT 0 _ (by omega) (by omega) W
  have i1 : ∀ W, (Instr.index 9 (.string S) (.int .i64 ((A : Int) + 1))).run Tryd.prog W = .ok (.int .u8 ((bat T 1 : Nat) : Int)) W := fun W => ix Tryd.underlying9 S A T hT 1 _ (by omega) (by omega) W
  rw [h0] at i0
  have d5 : decide ((1 : Int) < ((bat T 1 : Nat) : Int)) = true := decide_eq_true (by omega)
  have HR := hid (Blk.new w 35 #[.int .i64 0, .bool false, .int .i64 0, .string ByteArray.empty])
  have HB := hid (bel_alloc (Below.refl _ w) (.cells #[.int .i64 0, .bool false, .int .i64 0, .string ByteArray.empty] 35))
  obtain ⟨rb, hrb⟩ : ∃ rb, rb = w.heap.size := ⟨_, rfl⟩
  have HLo := hid (show w.heap.size ≤ rb by omega)
  rw [← hrb] at HR
  obtain ⟨r0, r1, r2, r3⟩ := HR.out.cells4y
  have rf0 := HR.out.frozen 0
  have rf1 := HR.out.frozen 1
  have rf2 := HR.out.frozen 2
  have rf3 := HR.out.frozen 3
  clear hT hTl
  go_enter Tryd.func19, Tryd.ntmps19
  go_wp2_with fail
  obtain ⟨Wz, hWz⟩ : ∃ Wz, Wz = w.alloc (.cells #[.int .i64 0, .bool false, .int .i64 0, .string ByteArray.empty] 35) := ⟨_, rfl⟩
  have HZ : Blk Wz w.heap.size 35 #[.int .i64 0, .bool false, .int .i64 0, .string ByteArray.empty] := by rw [hWz]; exact Blk.new w _ _
  have HBz : Below w.heap.size w Wz := by rw [hWz]; exact HB.out
  rw [show w.alloc (.cells #[.int .i64 0, .bool false, .int .i64 0, .string { data := #[] }] 35) = Wz from hWz.symm]
  obtain ⟨z0, z1, z2, z3⟩ := HZ.cells4y
  clear hWz
  exact bodyPost_ret (v := noPb) (by simp [results, Tryd.results19, go_sem, z0, z1, z2, z3, noPb]) rfl ⟨rfl, HBz⟩

set_option maxHeartbeats 8000000 in
set_option maxRecDepth 100000 in
theorem c_ParseBlock_n4 (S : ByteArray) (A : Nat) (T : List UInt8) (w : World) (hS : S.size ≤ 1000000000000) (hA : A ≤ S.size) (hT : T = S.data.toList.drop A) (h : 10 ≤ T.length) (h0 : bat T 0 = 181) (h1 : bat T 1 ≤ 1) (h6 : T.length < 10 + pat2 T 6) : Calls Tryd.prog 19 #[.string S, .int .i64 (A : Int)] w fun e w' => e = .returned noPb ∧ Below w.heap.size w w' := by
  have hTl : T.length = S.size - A := by rw [hT, List.length_drop]; simp
  have d1 : decide ((A : Int) < 0) = false := decide_eq_false (by omega)
  have d2 : decide ((S.size : Int) < (A : Int)) = false := decide_eq_false (by omega)
  have d3 : decide ((S.size : Int) - (A : Int) < 10) = false := decide_eq_false (by omega)
  have i0 : ∀ W, (Instr.index 9 (.string S) (.int .i64 (A : Int))).run Tryd.prog W = .ok (.int .u8 ((bat T 0 : Nat) : Int)) W := fun W => ix Tryd.underlying9 S A T hT 0 _ (by omega) (by omega) W
  have i1 : ∀ W, (Instr.index 9 (.string S) (.int .i64 ((A : Int) + 1))).run Tryd.prog W = .ok (.int .u8 ((bat T 1 : Nat) : Int)) W := fun W => ix Tryd.underlying9 S A T hT 1 _ (by omega) (by omega) W
  rw [h0] at i0
  have d5 : decide ((1 : Int) < ((bat T 1 : Nat) : Int)) = false := decide_eq_false (by omega)
  obtain ⟨X6, hX6⟩ : ∃ X, X = str (sub T 6 2) := ⟨_, rfl⟩
  have hs6 : ∀ W, (Instr.slice 9 (.string S) (some (.int .i64 ((A : Int) + 6))) (some (.int .i64 ((A : Int) + 8))) none).run Tryd.prog W = .ok (.string X6) W := fun W => by rw [hX6]; exact slc Tryd.underlying9 S A T hT 6 2 _ _ (by omega) (by omega) (by omega) W
  have HP6 := hid (show ∀ v, Calls Tryd.prog 28 #[.string X6] v fun e w' => e = .returned (.int .i64 ((pat2 T 6 : Nat) : Int)) ∧ Below v.heap.size v w' from fun v => by
    have := c_l5PairB (sub T 6 2) v (sub_two T 6 (by omega)).1
    rw [(sub_two T 6 (by omega)).2, ← hX6] at this; exact this)
  have hp6 : pat2 T 6 ≤ 65535 := by have := bat_lt T 6; have := bat_lt T (6 + 1); unfold pat2; omega
  have d6 : decide ((S.size : Int) - (A : Int) - 10 < ((pat2 T 6 : Nat) : Int)) = true := decide_eq_true (by omega)
  have HR := hid (Blk.new w 35 #[.int .i64 0, .bool false, .int .i64 0, .string ByteArray.empty])
  have HB := hid (bel_alloc (Below.refl _ w) (.cells #[.int .i64 0, .bool false, .int .i64 0, .string ByteArray.empty] 35))
  obtain ⟨rb, hrb⟩ : ∃ rb, rb = w.heap.size := ⟨_, rfl⟩
  have HLo := hid (show w.heap.size ≤ rb by omega)
  rw [← hrb] at HR
  obtain ⟨r0, r1, r2, r3⟩ := HR.out.cells4y
  have rf0 := HR.out.frozen 0
  have rf1 := HR.out.frozen 1
  have rf2 := HR.out.frozen 2
  have rf3 := HR.out.frozen 3
  clear hT hTl hX6
  go_enter Tryd.func19, Tryd.ntmps19
  go_wp2_with fail
  refine (HP6.out _).mono ?_
  rintro e w1 ⟨rfl, hb1⟩
  replace HR := hid (HR.out.on hb1)
  replace HB := hid (bel_trans HB.out hb1)
  clear hb1 r0 r1 r2 r3 rf0 rf1 rf2 rf3
  obtain ⟨r0, r1, r2, r3⟩ := HR.out.cells4y
  have rf0 := HR.out.frozen 0
  have rf1 := HR.out.frozen 1
  have rf2 := HR.out.frozen 2
  have rf3 := HR.out.frozen 3
  rw [← hrb]
  clear hrb
  go_wp2_with fail
  obtain ⟨Wz, hWz⟩ : ∃ Wz, Wz = ((((w1.setCell ⟨rb, 0, none⟩ (.int .i64 0)).setCell ⟨rb, 1, none⟩ (.bool false)).setCell ⟨rb, 2, none⟩ (.int .i64 0)).setCell ⟨rb, 3, none⟩ (.string ByteArray.empty)) := ⟨_, rfl⟩
  have HZ : Blk Wz rb 35 #[.int .i64 0, .bool false, .int .i64 0, .string ByteArray.empty] := by rw [hWz]; exact HR.out.put4y _ _ _ _
  have HBz : Below w.heap.size w Wz := by rw [hWz]; exact bel_set (bel_set (bel_set (bel_set HB.out HLo.out _) HLo.out _) HLo.out _) HLo.out _
  rw [show ((((w1.setCell ⟨rb, 0, none⟩ (.int .i64 0)).setCell ⟨rb, 1, none⟩ (.bool false)).setCell ⟨rb, 2, none⟩ (.int .i64 0)).setCell ⟨rb, 3, none⟩ (.string { data := #[] })) = Wz from hWz.symm]
  obtain ⟨z0, z1, z2, z3⟩ := HZ.cells4y
  clear hWz
  exact bodyPost_ret (v := noPb) (by simp [results, Tryd.results19, go_sem, z0, z1, z2, z3, noPb]) rfl ⟨rfl, HBz⟩
end Go.Proofs.YtepbjmpbcobfpaaDoor
