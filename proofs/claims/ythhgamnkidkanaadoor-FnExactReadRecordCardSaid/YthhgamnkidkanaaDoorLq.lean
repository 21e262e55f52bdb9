/- ReadRecord in both programs, and the walk of its law. -/
import Derived.Test.YthhgamnkidkanaaDoorLp
import Derived.Test.YthhgamnkidkanaaDoorKh
import Derived.Test.YthhgamnkidkanaaDoorQy
namespace Go.Proofs.YthhgamnkidkanaaDoor
open Go.ChangeShapes Go.WideShapes Go.ChangeAt Go.RowKit Go.Joins
set_option linter.unusedVariables false
set_option linter.unusedSimpArgs false

/-- what ReadRecord returns -/
def opR (k : Int) (nm : ByteArray) (f t z : Int) (d : ByteArray) (n : Int) (b : Bool) : Ending := .returned (.tuple #[.agg #[.int .i64 k, .string nm, .int .i64 f, .int .i64 t, .int .i64 z, .string d], .int .i64 n, .bool b])
theorem slice_nn {P : Program} {ty : TypeId} (ht : P.underlying ty = some .string) (s : ByteArray) (a b : Nat) (i j : Int) (hi : i = a) (hj : j = b) (h1 : a ≤ b) (h2 : b ≤ s.size) (W : World) :
    (Instr.slice ty (.string s) (some (.int .i64 i)) (some (.int .i64 j)) none).run P W = .ok (.string (s.extract a b)) W := by
  subst hi hj
  rw [run_slice_string_if W ty s .i64 .i64 a b ht, if_pos (by omega), if_pos (by omega)]
  rfl
theorem idx_txt {P : Program} {t : TypeId} (ht : P.underlying t = some .string) (s : ByteArray) (n : Nat) (h : n < s.size) (w : World) :
    (Instr.index t (.string s) (.int .i64 (n : Int))).run P w = .ok (.int .u8 ((s[n]).toNat : Int)) w := by
  have e := run_index_string (P := P) (w := w) t s .i64 (n : Int) ht
  rw [dif_pos (by omega)] at e
  exact e
theorem or_twoq (a b : UInt8) : bits .or .i64 (IntKind.i64.wrap ((a.toNat : Int) * 256)) (b.toNat : Int) = ((256 * a.toNat + b.toNat : Nat) : Int) := by
  have h1 := UInt8.toNat_lt a
  have h2 := UInt8.toNat_lt b
  have := (bits_nat .i64 63 (by decide) (fun n h0 h1 => IntWalk.i64_in n (by omega)) (a.toNat * 256) b.toNat (by omega) (by omega)).2
  have e : (a.toNat * 256 ||| b.toNat) = 256 * a.toNat + b.toNat := by
    rw [Nat.mul_comm, show (256 : Nat) = 2 ^ 8 from rfl, Nat.two_pow_add_eq_or_of_lt h2]
  rw [e] at this
  have e2 : IntKind.i64.wrap ((a.toNat : Int) * 256) = ((a.toNat * 256 : Nat) : Int) := by rw [IntWalk.i64_in _ (by omega)]; omega
  rw [e2]
  exact this
theorem get_d (X : ByteArray) (i : Nat) (h : i < X.size) : X.data.toList.getD i 0 = X[i] := by
  rw [List.getD_eq_getElem?_getD, byte_get X i h]; rfl

theorem c_from2 (X : ByteArray) (n : Nat) (w : World) (hX : X.size = 2) (hn : n = (X.data.toList.getD 0 0).toNat * 256 + (X.data.toList.getD 1 0).toNat) : Calls Tryd.prog 22 #[.string X] w fun e w' => e = .returned (.int .i64 (n : Int)) ∧ Below w.heap.size w w' := by
  rw [get_d X 0 (by omega), get_d X 1 (by omega)] at hn
  obtain ⟨a, ha⟩ : ∃ a, a = X[0] := ⟨_, rfl⟩
  obtain ⟨b, hb⟩ : ∃ b, b = X[1] := ⟨_, rfl⟩
  rw [← ha, ← hb] at hn
  have i0 : ∀ W, (Instr.index 9 (.string X) (.int .i64 0)).run Tryd.prog W = .ok (.int .u8 (a.toNat : Int)) W := fun W => by
    have := idx_txt (P := Tryd.prog) Tryd.underlying9 X 0 (by omega) W
    exact this.trans (by rw [ha])
  have i1 : ∀ W, (Instr.index 9 (.string X) (.int .i64 1)).run Tryd.prog W = .ok (.int .u8 (b.toNat : Int)) W := fun W => by
    have := idx_txt (P := Tryd.prog) Tryd.underlying9 X 1 (by omega) W
    exact this.trans (by rw [hb])
  have la := UInt8.toNat_lt a
  have lb := UInt8.toNat_lt b
  have ho := or_twoq a b
  have ho2 := ho
  rw [IntWalk.i64_in _ (by omega)] at ho2
  have HN := hid hn
  clear ha hb hn
  go_enter Tryd.func22, Tryd.ntmps22
  go_wp2
  go_quiet (fail)
  go_wp2_with fail
  go_ret
  exact ⟨by rw [HN.out, Nat.mul_comm]; rfl, by (repeat (first | with_reducible (first | assumption | exact Below.refl _ _ | refine bel_alloc ?_ _ | refine bel_drew ?_ | refine bel_drewN ?_ _ | refine bel_set ?_ (by first | omega | (simp; done) | (simp; omega)) _ | refine bel_trans ?_ (by assumption)) | assumption | refine bel_trans ?_ (by assumption)))⟩

theorem c_pair2 (X : ByteArray) (n : Nat) (w : World) (hX : X.size = 2) (hn : n = (X.data.toList.getD 0 0).toNat * 256 + (X.data.toList.getD 1 0).toNat) : Calls Tryd.prog 20 #[.string X] w fun e w' => e = .returned (.int .i64 (n : Int)) ∧ Below w.heap.size w w' := by
  rw [get_d X 0 (by omega), get_d X 1 (by omega)] at hn
  obtain ⟨a, ha⟩ : ∃ a, a = X[0] := ⟨_, rfl⟩
  obtain ⟨b, hb⟩ : ∃ b, b = X[1] := ⟨_, rfl⟩
  rw [← ha, ← hb] at hn
  have i0 : ∀ W, (Instr.index 9 (.string X) (.int .i64 0)).run Tryd.prog W = .ok (.int .u8 (a.toNat : Int)) W := fun W => by
    have := idx_txt (P := Tryd.prog) Tryd.underlying9 X 0 (by omega) W
    exact this.trans (by rw [ha])
  have i1 : ∀ W, (Instr.index 9 (.string X) (.int .i64 1)).run Tryd.prog W = .ok (.int .u8 (b.toNat : Int)) W := fun W => by
    have := idx_txt (P := Tryd.prog) Tryd.underlying9 X 1 (by omega) W
    exact this.trans (by rw [hb])
  have la := UInt8.toNat_lt a
  have lb := UInt8.toNat_lt b
  have w1 : IntKind.i64.wrap (256 * (a.toNat : Int)) = 256 * (a.toNat : Int) := by rw [IntWalk.i64_in _ (by omega)]
  have w2 : IntKind.i64.wrap (256 * (a.toNat : Int) + (b.toNat : Int)) = 256 * (a.toNat : Int) + (b.toNat : Int) := by rw [IntWalk.i64_in _ (by omega)]
  have HR := hid (show (n : Int) = 256 * (a.toNat : Int) + (b.toNat : Int) by omega)
  clear ha hb hn
  go_enter Tryd.func20, Tryd.ntmps20
  go_wp2
  go_quiet (fail)
  go_wp2
  go_ret
  exact ⟨ret_int (by rw [HR.out]), by (repeat (first | with_reducible (first | assumption | exact Below.refl _ _ | refine bel_alloc ?_ _ | refine bel_drew ?_ | refine bel_drewN ?_ _ | refine bel_set ?_ (by first | omega | (simp; done) | (simp; omega)) _ | refine bel_trans ?_ (by assumption)) | assumption | refine bel_trans ?_ (by assumption)))⟩

set_option maxHeartbeats 4000000 in
set_option maxRecDepth 100000 in
theorem c_RR1 (L : ByteArray) (q : Int) (w : World) (hL : L.size ≤ 1048576) (hq : -9223372036854775808 ≤ q ∧ q ≤ 9223372036854775807) (h : q < 0 ∨ (L.size : Int) < q + 2) :
    Calls Tryd.prog 9 #[.string L, .int .i64 q] w fun e w' => e = opR 0 ⟨#[]⟩ 0 0 0 ⟨#[]⟩ 0 false ∧ Below w.heap.size w w' := by
  by_cases h0 : q < 0
  · clear h
    have kN : Blk (w.alloc (.cells #[.int .i64 0, .string ⟨#[]⟩, .int .i64 0, .int .i64 0, .int .i64 0, .string ⟨#[]⟩] 23)) w.heap.size 23 #[.int .i64 0, .string ⟨#[]⟩, .int .i64 0, .int .i64 0, .int .i64 0, .string ⟨#[]⟩] := Blk.new w _ _
    have c1 : Below w.heap.size w (w.alloc (.cells #[.int .i64 0, .string ⟨#[]⟩, .int .i64 0, .int .i64 0, .int .i64 0, .string ⟨#[]⟩] 23)) := bel_alloc (Below.refl _ _) _
    have hNw : w.heap.size ≤ w.heap.size := Nat.le_refl _
    go_enter Tryd.func9, Tryd.ntmps9
    go_wp2_with fail
    (try simp only [Exit.inBlock, Exit.then])
    obtain ⟨j0, j1, j2, j3, j4, j5⟩ := kN.cells6
    exact bodyPost_ret (v := .tuple #[.agg #[.int .i64 0, .string ⟨#[]⟩, .int .i64 0, .int .i64 0, .int .i64 0, .string ⟨#[]⟩], .int .i64 0, .bool false]) (by simp [results, Tryd.results9, go_sem, j0, j1, j2, j3, j4, j5]) rfl ⟨rfl, c1⟩
  have h1 : (L.size : Int) - 2 < q := by omega
  clear h
  have kN : Blk (w.alloc (.cells #[.int .i64 0, .string ⟨#[]⟩, .int .i64 0, .int .i64 0, .int .i64 0, .string ⟨#[]⟩] 23)) w.heap.size 23 #[.int .i64 0, .string ⟨#[]⟩, .int .i64 0, .int .i64 0, .int .i64 0, .string ⟨#[]⟩] := Blk.new w _ _
  have c1 : Below w.heap.size w (w.alloc (.cells #[.int .i64 0, .string ⟨#[]⟩, .int .i64 0, .int .i64 0, .int .i64 0, .string ⟨#[]⟩] 23)) := bel_alloc (Below.refl _ _) _
  have hNw : w.heap.size ≤ w.heap.size := Nat.le_refl _
  go_enter Tryd.func9, Tryd.ntmps9
  go_wp2_with fail
  (try simp only [Exit.inBlock, Exit.then])
  obtain ⟨j0, j1, j2, j3, j4, j5⟩ := kN.cells6
  exact bodyPost_ret (v := .tuple #[.agg #[.int .i64 0, .string ⟨#[]⟩, .int .i64 0, .int .i64 0, .int .i64 0, .string ⟨#[]⟩], .int .i64 0, .bool false]) (by simp [results, Tryd.results9, go_sem, j0, j1, j2, j3, j4, j5]) rfl ⟨rfl, c1⟩

set_option maxHeartbeats 4000000 in
set_option maxRecDepth 100000 in
theorem c_RR2 (L : ByteArray) (a : Nat) (w : World) (hL : L.size ≤ 1048576) (ha : a + 2 ≤ L.size) (X : ByteArray) (hX : X = L.extract a (a + 2)) (n : Nat) (hn : n = (X.data.toList.getD 0 0).toNat * 256 + (X.data.toList.getD 1 0).toNat) (hbig : L.size < a + 4 + n) :
    Calls Tryd.prog 9 #[.string L, .int .i64 (a : Int)] w fun e w' => e = opR 0 ⟨#[]⟩ 0 0 0 ⟨#[]⟩ 0 false ∧ Below w.heap.size w w' := by
  have hXz : X.size = 2 := by rw [hX, ByteArray.size_extract]; omega
  have HPR := hid (fun (v : World) => c_from2 X n v hXz hn)
  have hnn : n ≤ 65535 := by
    have e1 := UInt8.toNat_lt (X.data.toList.getD 0 0)
    have e2 := UInt8.toNat_lt (X.data.toList.getD 1 0)
    omega
  have hs1 : ∀ W, (Instr.slice 9 (.string L) (some (.int .i64 (a : Int))) (some (.int .i64 ((a : Int) + 2))) none).run Tryd.prog W = .ok (.string X) W := fun W => by
    rw [hX]; exact slice_nn Tryd.underlying9 L a (a + 2) _ _ rfl (by omega) (by omega) (by omega) W
  clear hX hn hXz
  have d1 : ¬ (L.size : Int) - 2 < (a : Int) := by omega
  have d2 : (L.size : Int) < (a : Int) + 2 + (n : Int) + 2 := by omega
  go_enter Tryd.func9, Tryd.ntmps9
  go_wp2_with fail
  obtain ⟨N, hN⟩ : ∃ N, N = w.heap.size := ⟨_, rfl⟩
  have hNw : w.heap.size ≤ N := by omega
  obtain ⟨W1, hW1⟩ : ∃ W1, W1 = w.alloc (.cells #[.int .i64 0, .string ⟨#[]⟩, .int .i64 0, .int .i64 0, .int .i64 0, .string ⟨#[]⟩] 23) := ⟨_, rfl⟩
  rw [← hN, ← hW1]
  have kN : Blk W1 N 23 #[.int .i64 0, .string ⟨#[]⟩, .int .i64 0, .int .i64 0, .int .i64 0, .string ⟨#[]⟩] := by rw [hW1, hN]; exact Blk.new w _ _
  have c1 : Below w.heap.size w W1 := by rw [hW1]; exact bel_alloc (Below.refl _ _) _
  clear hN hW1
  go_wp2_with fail
  refine (HPR.out W1).mono ?_
  rintro e W2 ⟨rfl, hb2⟩
  have kN2 := kN.on hb2
  have c2 := bel_trans c1 hb2
  clear kN c1 hb2
  obtain ⟨q0, q1, q2, q3, q4, q5⟩ := kN2.cells6
  have g0 := kN2.frozen 0
  have g1 := kN2.frozen 1
  have g2 := kN2.frozen 2
  have g3 := kN2.frozen 3
  have g4 := kN2.frozen 4
  have g5 := kN2.frozen 5
  go_wp2
  (try simp only [Exit.inBlock, Exit.then])
  have K9 := kN2.put6o (.int .i64 0) (.string ⟨#[]⟩) (.int .i64 0) (.int .i64 0) (.int .i64 0) (.string ⟨#[]⟩)
  obtain ⟨j0, j1, j2, j3, j4, j5⟩ := K9.cells6
  have HB9 := hid (bel_put6 c2 hNw (.int .i64 0) (.string ⟨#[]⟩) (.int .i64 0) (.int .i64 0) (.int .i64 0) (.string ⟨#[]⟩))
  clear K9
  exact bodyPost_ret (v := .tuple #[.agg #[.int .i64 0, .string ⟨#[]⟩, .int .i64 0, .int .i64 0, .int .i64 0, .string ⟨#[]⟩], .int .i64 (0), .bool false]) (by simp [results, Tryd.results9, go_sem, j0, j1, j2, j3, j4, j5]) rfl ⟨rfl, HB9.out⟩

set_option maxHeartbeats 8000000 in
set_option maxRecDepth 100000 in
theorem c_RR3 (L : ByteArray) (a : Nat) (w : World) (hL : L.size ≤ 1048576) (X : ByteArray) (hX : X = L.extract a (a + 2)) (n : Nat) (hn : n = (X.data.toList.getD 0 0).toNat * 256 + (X.data.toList.getD 1 0).toNat) (ha : a + 4 + n ≤ L.size) (T : ByteArray) (hT : T = L.extract (a + 2) (a + 2 + n)) (Y : ByteArray) (hY : Y = L.extract a (a + 4 + n))
    (k : Int) (nm : ByteArray) (f t z : Int) (d : ByteArray) (b : Bool) (HPo : Hid (∀ v : World, Below w.heap.size w v → Calls Tryd.prog 6 #[.string T] v fun e w' => e = opV k nm f t z d b ∧ Below v.heap.size v w')) :
    Calls Tryd.prog 9 #[.string L, .int .i64 (a : Int)] w fun e w' => e = (if b = true ∧ recT T = Y then opR k nm f t z d ((a : Int) + 4 + n) true else opR 0 ⟨#[]⟩ 0 0 0 ⟨#[]⟩ 0 false) ∧ Below w.heap.size w w' := by
  have hXz : X.size = 2 := by rw [hX, ByteArray.size_extract]; omega
  have HPR := hid (fun (v : World) => c_from2 X n v hXz hn)
  have hnn : n ≤ 65535 := by
    have e1 := UInt8.toNat_lt (X.data.toList.getD 0 0)
    have e2 := UInt8.toNat_lt (X.data.toList.getD 1 0)
    omega
  have hs1 : ∀ W, (Instr.slice 9 (.string L) (some (.int .i64 (a : Int))) (some (.int .i64 ((a : Int) + 2))) none).run Tryd.prog W = .ok (.string X) W := fun W => by
    rw [hX]; exact slice_nn Tryd.underlying9 L a (a + 2) _ _ rfl (by omega) (by omega) (by omega) W
  have hTz : T.size ≤ 100000 := by rw [hT, ByteArray.size_extract]; omega
  have hs2 : ∀ W, (Instr.slice 9 (.string L) (some (.int .i64 ((a : Int) + 2))) (some (.int .i64 ((a : Int) + 2 + (n : Int)))) none).run Tryd.prog W = .ok (.string T) W := fun W => by
    rw [hT]; exact slice_nn Tryd.underlying9 L (a + 2) (a + 2 + n) _ _ (by omega) (by omega) (by omega) (by omega) W
  have hs3 : ∀ W, (Instr.slice 9 (.string L) (some (.int .i64 (a : Int))) (some (.int .i64 ((a : Int) + 2 + (n : Int) + 2))) none).run Tryd.prog W = .ok (.string Y) W := fun W => by
    rw [hY]; exact slice_nn Tryd.underlying9 L a (a + 4 + n) _ _ rfl (by omega) (by omega) (by omega) W
  have HRC := hid (fun (v : World) => c_recordOf T v hTz)
  obtain ⟨RT, hRT⟩ : ∃ RT, RT = recT T := ⟨_, rfl⟩
  rw [← hRT] at HRC ⊢
  unfold opV at HPo
  obtain ⟨RS, hRS⟩ : ∃ RS, RS = (if b = true ∧ RT = Y then opR k nm f t z d ((a : Int) + 4 + n) true else opR 0 ⟨#[]⟩ 0 0 0 ⟨#[]⟩ 0 false) := ⟨_, rfl⟩
  rw [← hRS]
  have HRS := hid hRS
  clear hRS
  clear hX hn hXz hT hY hRT hTz
  have d1 : ¬ (L.size : Int) - 2 < (a : Int) := by omega
  have d2 : ¬ (L.size : Int) < (a : Int) + 2 + (n : Int) + 2 := by omega
  go_enter Tryd.func9, Tryd.ntmps9
  go_wp2_with fail
  obtain ⟨N, hN⟩ : ∃ N, N = w.heap.size := ⟨_, rfl⟩
  have hNw : w.heap.size ≤ N := by omega
  obtain ⟨W1, hW1⟩ : ∃ W1, W1 = w.alloc (.cells #[.int .i64 0, .string ⟨#[]⟩, .int .i64 0, .int .i64 0, .int .i64 0, .string ⟨#[]⟩] 23) := ⟨_, rfl⟩
  rw [← hN, ← hW1]
  have kN : Blk W1 N 23 #[.int .i64 0, .string ⟨#[]⟩, .int .i64 0, .int .i64 0, .int .i64 0, .string ⟨#[]⟩] := by rw [hW1, hN]; exact Blk.new w _ _
  have c1 : Below w.heap.size w W1 := by rw [hW1]; exact bel_alloc (Below.refl _ _) _
  clear hN hW1
  go_wp2_with fail
  refine (HPR.out W1).mono ?_
  rintro e W2 ⟨rfl, hb2⟩
  have kN2 := kN.on hb2
  have c2 := bel_trans c1 hb2
  clear kN c1 hb2
  go_wp2_with fail
  refine (HPo.out W2 c2).mono ?_
  rintro e W3 ⟨rfl, hb3⟩
  have kN3 := kN2.on hb3
  have c3 := bel_trans c2 hb3
  clear kN2 c2 hb3
  go_wp2_with fail
  obtain ⟨P, hP⟩ : ∃ P, P = W3.heap.size := ⟨_, rfl⟩
  obtain ⟨W4, hW4⟩ : ∃ W4, W4 = W3.alloc (.cells #[.int .i64 k, .string nm, .int .i64 f, .int .i64 t, .int .i64 z, .string d] 23) := ⟨_, rfl⟩
  rw [← hP, ← hW4]
  have kP4 : Blk W4 P 23 #[.int .i64 k, .string nm, .int .i64 f, .int .i64 t, .int .i64 z, .string d] := by rw [hW4, hP]; exact Blk.new W3 _ _
  have kN4 : Blk W4 N 23 #[.int .i64 0, .string ⟨#[]⟩, .int .i64 0, .int .i64 0, .int .i64 0, .string ⟨#[]⟩] := by rw [hW4]; exact kN3.alloc _
  have c4 : Below w.heap.size w W4 := by rw [hW4]; exact bel_alloc c3 _
  clear hW4 hP kN3 c3
  cases b with
  | false =>
    have hS : Below W4.heap.size W4 W4 := Below.refl _ _
    refine qB (S := (fun v => Below W4.heap.size W4 v)) (by kernel_rfl) (by kernel_rfl) (bel_drew hS) ?_
    refine qK ?_
    refine qK ?_
    refine qK ?_
    refine qU ?_
    refine qU ?_
    refine qU ?_
    refine qU ?_
    refine qU ?_
    refine qU ?_
    refine qU ?_
    refine qK ?_
    refine qN ?_
    intro wq hSq
    (try dsimp only at hSq)
    have cq := bel_trans c4 hSq
    have kNq := kN4.on hSq
    clear hSq hS kN4 c4 kP4
    obtain ⟨q0, q1, q2, q3, q4, q5⟩ := kNq.cells6
    have g0 := kNq.frozen 0
    have g1 := kNq.frozen 1
    have g2 := kNq.frozen 2
    have g3 := kNq.frozen 3
    have g4 := kNq.frozen 4
    have g5 := kNq.frozen 5
    go_wp2
    (try simp only [Exit.inBlock, Exit.then])
    have K9 := kNq.put6o (.int .i64 0) (.string ⟨#[]⟩) (.int .i64 0) (.int .i64 0) (.int .i64 0) (.string ⟨#[]⟩)
    obtain ⟨j0, j1, j2, j3, j4, j5⟩ := K9.cells6
    have HB9 := hid (bel_put6 cq hNw (.int .i64 0) (.string ⟨#[]⟩) (.int .i64 0) (.int .i64 0) (.int .i64 0) (.string ⟨#[]⟩))
    clear K9
    exact bodyPost_ret (v := .tuple #[.agg #[.int .i64 0, .string ⟨#[]⟩, .int .i64 0, .int .i64 0, .int .i64 0, .string ⟨#[]⟩], .int .i64 (0), .bool false]) (by simp [results, Tryd.results9, go_sem, j0, j1, j2, j3, j4, j5]) rfl ⟨by rw [HRS.out, if_neg (by simp)]; rfl, HB9.out⟩
  | true =>
    have hS : Below W4.heap.size W4 W4 := Below.refl _ _
    by_cases he : RT = Y
    · have he1 : (RT.toList == Y.toList) = true := by rw [he]; simp
      have HE := hid he
      clear he
      refine qB (S := (fun v => Below W4.heap.size W4 v)) (by kernel_rfl) (by kernel_rfl) (bel_drew hS) ?_
      refine qK ?_
      refine qK ?_
      refine qK ?_
      refine qK ?_
      refine qC (fun wq hSq => HRC.out wq) (fun wq wr hbr hSq => (fun hbr hSq => bel_trans hSq hbr) hbr hSq) ?_
      refine qK ?_
      refine qK ?_
      refine qK ?_
      refine qK ?_
      refine qK ?_
      refine qK ?_
      refine qN ?_
      intro wq hSq
      (try dsimp only at hSq)
      have cq := bel_trans c4 hSq
      have kNq := kN4.on hSq
      have kPq := kP4.on hSq
      obtain ⟨p0, p1, p2, p3, p4, p5⟩ := kPq.cells6
      clear hSq hS kN4 c4 kP4
      obtain ⟨q0, q1, q2, q3, q4, q5⟩ := kNq.cells6
      have g0 := kNq.frozen 0
      have g1 := kNq.frozen 1
      have g2 := kNq.frozen 2
      have g3 := kNq.frozen 3
      have g4 := kNq.frozen 4
      have g5 := kNq.frozen 5
      go_wp2
      (try simp only [Exit.inBlock, Exit.then])
      have K9 := kNq.put6o (.int .i64 k) (.string nm) (.int .i64 f) (.int .i64 t) (.int .i64 z) (.string d)
      obtain ⟨j0, j1, j2, j3, j4, j5⟩ := K9.cells6
      have HB9 := hid (bel_put6 cq hNw (.int .i64 k) (.string nm) (.int .i64 f) (.int .i64 t) (.int .i64 z) (.string d))
      clear K9
      exact bodyPost_ret (v := .tuple #[.agg #[.int .i64 k, .string nm, .int .i64 f, .int .i64 t, .int .i64 z, .string d], .int .i64 ((a : Int) + 2 + (n : Int) + 2), .bool true]) (by simp [results, Tryd.results9, go_sem, j0, j1, j2, j3, j4, j5]) rfl ⟨by rw [HRS.out, if_pos ⟨by trivial, HE.out⟩]; unfold opR; rw [show (a : Int) + 4 + (n : Int) = (a : Int) + 2 + (n : Int) + 2 from by omega], HB9.out⟩
    · have he1 : (RT.toList == Y.toList) = false := bytes_neI he
      have HE := hid he
      clear he
      refine qB (S := (fun v => Below W4.heap.size W4 v)) (by kernel_rfl) (by kernel_rfl) (bel_drew hS) ?_
      refine qK ?_
      refine qK ?_
      refine qK ?_
      refine qK ?_
      refine qC (fun wq hSq => HRC.out wq) (fun wq wr hbr hSq => (fun hbr hSq => bel_trans hSq hbr) hbr hSq) ?_
      refine qK ?_
      refine qK ?_
      refine qK ?_
      refine qK ?_
      refine qK ?_
      refine qK ?_
      refine qN ?_
      intro wq hSq
      (try dsimp only at hSq)
      have cq := bel_trans c4 hSq
      have kNq := kN4.on hSq
      clear hSq hS kN4 c4 kP4
      obtain ⟨q0, q1, q2, q3, q4, q5⟩ := kNq.cells6
      have g0 := kNq.frozen 0
      have g1 := kNq.frozen 1
      have g2 := kNq.frozen 2
      have g3 := kNq.frozen 3
      have g4 := kNq.frozen 4
      have g5 := kNq.frozen 5
      go_wp2
      (try simp only [Exit.inBlock, Exit.then])
      have K9 := kNq.put6o (.int .i64 0) (.string ⟨#[]⟩) (.int .i64 0) (.int .i64 0) (.int .i64 0) (.string ⟨#[]⟩)
      obtain ⟨j0, j1, j2, j3, j4, j5⟩ := K9.cells6
      have HB9 := hid (bel_put6 cq hNw (.int .i64 0) (.string ⟨#[]⟩) (.int .i64 0) (.int .i64 0) (.int .i64 0) (.string ⟨#[]⟩))
      clear K9
      exact bodyPost_ret (v := .tuple #[.agg #[.int .i64 0, .string ⟨#[]⟩, .int .i64 0, .int .i64 0, .int .i64 0, .string ⟨#[]⟩], .int .i64 (0), .bool false]) (by simp [results, Tryd.results9, go_sem, j0, j1, j2, j3, j4, j5]) rfl ⟨by rw [HRS.out, if_neg (fun h => HE.out h.2)]; rfl, HB9.out⟩

set_option maxHeartbeats 4000000 in
set_option maxRecDepth 100000 in
theorem c_sRR1 (L : ByteArray) (q : Int) (w : World) (hL : L.size ≤ 1048576) (hq : -9223372036854775808 ≤ q ∧ q ≤ 9223372036854775807) (h : q < 0 ∨ (L.size : Int) < q + 4) :
    Calls Tryd.prog 8 #[.string L, .int .i64 q] w fun e w' => e = opR 0 ⟨#[]⟩ 0 0 0 ⟨#[]⟩ 0 false ∧ Below w.heap.size w w' := by
  by_cases h0 : q < 0
  · clear h
    have kN : Blk (w.alloc (.cells #[.int .i64 0, .string ⟨#[]⟩, .int .i64 0, .int .i64 0, .int .i64 0, .string ⟨#[]⟩] 23)) w.heap.size 23 #[.int .i64 0, .string ⟨#[]⟩, .int .i64 0, .int .i64 0, .int .i64 0, .string ⟨#[]⟩] := Blk.new w _ _
    have c1 : Below w.heap.size w (w.alloc (.cells #[.int .i64 0, .string ⟨#[]⟩, .int .i64 0, .int .i64 0, .int .i64 0, .string ⟨#[]⟩] 23)) := bel_alloc (Below.refl _ _) _
    have hNw : w.heap.size ≤ w.heap.size := Nat.le_refl _
    go_enter Tryd.func8, Tryd.ntmps8
    go_wp2_with fail
    (try simp only [Exit.inBlock, Exit.then])
    obtain ⟨j0, j1, j2, j3, j4, j5⟩ := kN.cells6
    exact bodyPost_ret (v := .tuple #[.agg #[.int .i64 0, .string ⟨#[]⟩, .int .i64 0, .int .i64 0, .int .i64 0, .string ⟨#[]⟩], .int .i64 0, .bool false]) (by simp [results, Tryd.results8, go_sem, j0, j1, j2, j3, j4, j5]) rfl ⟨rfl, c1⟩
  by_cases h1 : (L.size : Int) < q
  · clear h
    have kN : Blk (w.alloc (.cells #[.int .i64 0, .string ⟨#[]⟩, .int .i64 0, .int .i64 0, .int .i64 0, .string ⟨#[]⟩] 23)) w.heap.size 23 #[.int .i64 0, .string ⟨#[]⟩, .int .i64 0, .int .i64 0, .int .i64 0, .string ⟨#[]⟩] := Blk.new w _ _
    have c1 : Below w.heap.size w (w.alloc (.cells #[.int .i64 0, .string ⟨#[]⟩, .int .i64 0, .int .i64 0, .int .i64 0, .string ⟨#[]⟩] 23)) := bel_alloc (Below.refl _ _) _
    have hNw : w.heap.size ≤ w.heap.size := Nat.le_refl _
    go_enter Tryd.func8, Tryd.ntmps8
    go_wp2_with fail
    (try simp only [Exit.inBlock, Exit.then])
    obtain ⟨j0, j1, j2, j3, j4, j5⟩ := kN.cells6
    exact bodyPost_ret (v := .tuple #[.agg #[.int .i64 0, .string ⟨#[]⟩, .int .i64 0, .int .i64 0, .int .i64 0, .string ⟨#[]⟩], .int .i64 0, .bool false]) (by simp [results, Tryd.results8, go_sem, j0, j1, j2, j3, j4, j5]) rfl ⟨rfl, c1⟩
  have h2 : (L.size : Int) - q < 4 := by omega
  clear h
  have kN : Blk (w.alloc (.cells #[.int .i64 0, .string ⟨#[]⟩, .int .i64 0, .int .i64 0, .int .i64 0, .string ⟨#[]⟩] 23)) w.heap.size 23 #[.int .i64 0, .string ⟨#[]⟩, .int .i64 0, .int .i64 0, .int .i64 0, .string ⟨#[]⟩] := Blk.new w _ _
  have c1 : Below w.heap.size w (w.alloc (.cells #[.int .i64 0, .string ⟨#[]⟩, .int .i64 0, .int .i64 0, .int .i64 0, .string ⟨#[]⟩] 23)) := bel_alloc (Below.refl _ _) _
  have hNw : w.heap.size ≤ w.heap.size := Nat.le_refl _
  go_enter Tryd.func8, Tryd.ntmps8
  go_wp2_with fail
  (try simp only [Exit.inBlock, Exit.then])
  obtain ⟨j0, j1, j2, j3, j4, j5⟩ := kN.cells6
  exact bodyPost_ret (v := .tuple #[.agg #[.int .i64 0, .string ⟨#[]⟩, .int .i64 0, .int .i64 0, .int .i64 0, .string ⟨#[]⟩], .int .i64 0, .bool false]) (by simp [results, Tryd.results8, go_sem, j0, j1, j2, j3, j4, j5]) rfl ⟨rfl, c1⟩

set_option maxHeartbeats 4000000 in
set_option maxRecDepth 100000 in
theorem c_sRR2 (L : ByteArray) (a : Nat) (w : World) (hL : L.size ≤ 1048576) (ha : a + 4 ≤ L.size) (X : ByteArray) (hX : X = L.extract a (a + 2)) (n : Nat) (hn : n = (X.data.toList.getD 0 0).toNat * 256 + (X.data.toList.getD 1 0).toNat) (hbig : L.size < a + 4 + n) :
    Calls Tryd.prog 8 #[.string L, .int .i64 (a : Int)] w fun e w' => e = opR 0 ⟨#[]⟩ 0 0 0 ⟨#[]⟩ 0 false ∧ Below w.heap.size w w' := by
  have hXz : X.size = 2 := by rw [hX, ByteArray.size_extract]; omega
  have HPR := hid (fun (v : World) => c_pair2 X n v hXz hn)
  have hnn : n ≤ 65535 := by
    have e1 := UInt8.toNat_lt (X.data.toList.getD 0 0)
    have e2 := UInt8.toNat_lt (X.data.toList.getD 1 0)
    omega
  have hs1 : ∀ W, (Instr.slice 9 (.string L) (some (.int .i64 (a : Int))) (some (.int .i64 ((a : Int) + 2))) none).run Tryd.prog W = .ok (.string X) W := fun W => by
    rw [hX]; exact slice_nn Tryd.underlying9 L a (a + 2) _ _ rfl (by omega) (by omega) (by omega) W
  clear hX hn hXz
  have d1 : ¬ (L.size : Int) < (a : Int) := by omega
  have d3 : ¬ (L.size : Int) - (a : Int) < 4 := by omega
  have d2 : (L.size : Int) - (a : Int) - 4 < (n : Int) := by omega
  go_enter Tryd.func8, Tryd.ntmps8
  go_wp2_with fail
  obtain ⟨N, hN⟩ : ∃ N, N = w.heap.size := ⟨_, rfl⟩
  have hNw : w.heap.size ≤ N := by omega
  obtain ⟨W1, hW1⟩ : ∃ W1, W1 = w.alloc (.cells #[.int .i64 0, .string ⟨#[]⟩, .int .i64 0, .int .i64 0, .int .i64 0, .string ⟨#[]⟩] 23) := ⟨_, rfl⟩
  rw [← hN, ← hW1]
  have kN : Blk W1 N 23 #[.int .i64 0, .string ⟨#[]⟩, .int .i64 0, .int .i64 0, .int .i64 0, .string ⟨#[]⟩] := by rw [hW1, hN]; exact Blk.new w _ _
  have c1 : Below w.heap.size w W1 := by rw [hW1]; exact bel_alloc (Below.refl _ _) _
  clear hN hW1
  go_wp2_with fail
  refine (HPR.out W1).mono ?_
  rintro e W2 ⟨rfl, hb2⟩
  have kN2 := kN.on hb2
  have c2 := bel_trans c1 hb2
  clear kN c1 hb2
  obtain ⟨q0, q1, q2, q3, q4, q5⟩ := kN2.cells6
  have g0 := kN2.frozen 0
  have g1 := kN2.frozen 1
  have g2 := kN2.frozen 2
  have g3 := kN2.frozen 3
  have g4 := kN2.frozen 4
  have g5 := kN2.frozen 5
  go_wp2
  (try simp only [Exit.inBlock, Exit.then])
  have K9 := kN2.put6o (.int .i64 0) (.string ⟨#[]⟩) (.int .i64 0) (.int .i64 0) (.int .i64 0) (.string ⟨#[]⟩)
  obtain ⟨j0, j1, j2, j3, j4, j5⟩ := K9.cells6
  have HB9 := hid (bel_put6 c2 hNw (.int .i64 0) (.string ⟨#[]⟩) (.int .i64 0) (.int .i64 0) (.int .i64 0) (.string ⟨#[]⟩))
  clear K9
  exact bodyPost_ret (v := .tuple #[.agg #[.int .i64 0, .string ⟨#[]⟩, .int .i64 0, .int .i64 0, .int .i64 0, .string ⟨#[]⟩], .int .i64 (0), .bool false]) (by simp [results, Tryd.results8, go_sem, j0, j1, j2, j3, j4, j5]) rfl ⟨rfl, HB9.out⟩

set_option maxHeartbeats 8000000 in
set_option maxRecDepth 100000 in
theorem c_sRR3 (L : ByteArray) (a : Nat) (w : World) (hL : L.size ≤ 1048576) (X : ByteArray) (hX : X = L.extract a (a + 2)) (n : Nat) (hn : n = (X.data.toList.getD 0 0).toNat * 256 + (X.data.toList.getD 1 0).toNat) (ha : a + 4 + n ≤ L.size) (T : ByteArray) (hT : T = L.extract (a + 2) (a + 2 + n)) (Y : ByteArray) (hY : Y = L.extract a (a + 4 + n))
    (k : Int) (nm : ByteArray) (f t z : Int) (d : ByteArray) (b : Bool) (HPo : Hid (∀ v : World, Below w.heap.size w v → Calls Tryd.prog 5 #[.string T] v fun e w' => e = opV k nm f t z d b ∧ Below v.heap.size v w')) :
    Calls Tryd.prog 8 #[.string L, .int .i64 (a : Int)] w fun e w' => e = (if b = true ∧ recT T = Y then opR k nm f t z d ((a : Int) + 4 + n) true else opR 0 ⟨#[]⟩ 0 0 0 ⟨#[]⟩ 0 false) ∧ Below w.heap.size w w' := by
  have hXz : X.size = 2 := by rw [hX, ByteArray.size_extract]; omega
  have HPR := hid (fun (v : World) => c_pair2 X n v hXz hn)
  have hnn : n ≤ 65535 := by
    have e1 := UInt8.toNat_lt (X.data.toList.getD 0 0)
    have e2 := UInt8.toNat_lt (X.data.toList.getD 1 0)
    omega
  have hs1 : ∀ W, (Instr.slice 9 (.string L) (some (.int .i64 (a : Int))) (some (.int .i64 ((a : Int) + 2))) none).run Tryd.prog W = .ok (.string X) W := fun W => by
    rw [hX]; exact slice_nn Tryd.underlying9 L a (a + 2) _ _ rfl (by omega) (by omega) (by omega) W
  have hTz : T.size ≤ 100000 := by rw [hT, ByteArray.size_extract]; omega
  have hs2 : ∀ W, (Instr.slice 9 (.string L) (some (.int .i64 ((a : Int) + 2))) (some (.int .i64 ((a : Int) + 2 + (n : Int)))) none).run Tryd.prog W = .ok (.string T) W := fun W => by
    rw [hT]; exact slice_nn Tryd.underlying9 L (a + 2) (a + 2 + n) _ _ (by omega) (by omega) (by omega) (by omega) W
  have hs3 : ∀ W, (Instr.slice 9 (.string L) (some (.int .i64 (a : Int))) (some (.int .i64 ((a : Int) + 4 + (n : Int)))) none).run Tryd.prog W = .ok (.string Y) W := fun W => by
    rw [hY]; exact slice_nn Tryd.underlying9 L a (a + 4 + n) _ _ rfl (by omega) (by omega) (by omega) W
  have HRC := hid (fun (v : World) => c_l8Record T v hTz)
  obtain ⟨RT, hRT⟩ : ∃ RT, RT = recT T := ⟨_, rfl⟩
  rw [← hRT] at HRC ⊢
  unfold opV at HPo
  obtain ⟨RS, hRS⟩ : ∃ RS, RS = (if b = true ∧ RT = Y then opR k nm f t z d ((a : Int) + 4 + n) true else opR 0 ⟨#[]⟩ 0 0 0 ⟨#[]⟩ 0 false) := ⟨_, rfl⟩
  rw [← hRS]
  have HRS := hid hRS
  clear hRS
  clear hX hn hXz hT hY hRT hTz
  have d1 : ¬ (L.size : Int) < (a : Int) := by omega
  have d3 : ¬ (L.size : Int) - (a : Int) < 4 := by omega
  have d2 : ¬ (L.size : Int) - (a : Int) - 4 < (n : Int) := by omega
  have w1 : IntKind.i64.wrap ((a : Int) + 4) = (a : Int) + 4 := by rw [IntWalk.i64_in _ (by omega)]
  have w2 : IntKind.i64.wrap ((a : Int) + 4 + (n : Int)) = (a : Int) + 4 + (n : Int) := by rw [IntWalk.i64_in _ (by omega)]
  go_enter Tryd.func8, Tryd.ntmps8
  go_wp2_with fail
  obtain ⟨N, hN⟩ : ∃ N, N = w.heap.size := ⟨_, rfl⟩
  have hNw : w.heap.size ≤ N := by omega
  obtain ⟨W1, hW1⟩ : ∃ W1, W1 = w.alloc (.cells #[.int .i64 0, .string ⟨#[]⟩, .int .i64 0, .int .i64 0, .int .i64 0, .string ⟨#[]⟩] 23) := ⟨_, rfl⟩
  rw [← hN, ← hW1]
  have kN : Blk W1 N 23 #[.int .i64 0, .string ⟨#[]⟩, .int .i64 0, .int .i64 0, .int .i64 0, .string ⟨#[]⟩] := by rw [hW1, hN]; exact Blk.new w _ _
  have c1 : Below w.heap.size w W1 := by rw [hW1]; exact bel_alloc (Below.refl _ _) _
  clear hN hW1
  go_wp2_with fail
  refine (HPR.out W1).mono ?_
  rintro e W2 ⟨rfl, hb2⟩
  have kN2 := kN.on hb2
  have c2 := bel_trans c1 hb2
  clear kN c1 hb2
  go_wp2_with fail
  refine (HPo.out W2 c2).mono ?_
  rintro e W3 ⟨rfl, hb3⟩
  have kN3 := kN2.on hb3
  have c3 := bel_trans c2 hb3
  clear kN2 c2 hb3
  go_wp2_with fail
  obtain ⟨P, hP⟩ : ∃ P, P = W3.heap.size := ⟨_, rfl⟩
  obtain ⟨W4, hW4⟩ : ∃ W4, W4 = W3.alloc (.cells #[.int .i64 k, .string nm, .int .i64 f, .int .i64 t, .int .i64 z, .string d] 23) := ⟨_, rfl⟩
  rw [← hP, ← hW4]
  have kP4 : Blk W4 P 23 #[.int .i64 k, .string nm, .int .i64 f, .int .i64 t, .int .i64 z, .string d] := by rw [hW4, hP]; exact Blk.new W3 _ _
  have kN4 : Blk W4 N 23 #[.int .i64 0, .string ⟨#[]⟩, .int .i64 0, .int .i64 0, .int .i64 0, .string ⟨#[]⟩] := by rw [hW4]; exact kN3.alloc _
  have c4 : Below w.heap.size w W4 := by rw [hW4]; exact bel_alloc c3 _
  clear hW4 hP kN3 c3
  cases b with
  | false =>
    have hS : Below W4.heap.size W4 W4 := Below.refl _ _
    refine qB (S := (fun v => Below W4.heap.size W4 v)) (by kernel_rfl) (by kernel_rfl) (bel_drew hS) ?_
    refine qK ?_
    refine qK ?_
    refine qK ?_
    refine qU ?_
    refine qU ?_
    refine qU ?_
    refine qU ?_
    refine qU ?_
    refine qU ?_
    refine qU ?_
    refine qU ?_
    refine qU ?_
    refine qU ?_
    refine qK ?_
    refine qN ?_
    intro wq hSq
    (try dsimp only at hSq)
    have cq := bel_trans c4 hSq
    have kNq := kN4.on hSq
    clear hSq hS kN4 c4 kP4
    obtain ⟨q0, q1, q2, q3, q4, q5⟩ := kNq.cells6
    have g0 := kNq.frozen 0
    have g1 := kNq.frozen 1
    have g2 := kNq.frozen 2
    have g3 := kNq.frozen 3
    have g4 := kNq.frozen 4
    have g5 := kNq.frozen 5
    go_wp2
    (try simp only [Exit.inBlock, Exit.then])
    have K9 := kNq.put6o (.int .i64 0) (.string ⟨#[]⟩) (.int .i64 0) (.int .i64 0) (.int .i64 0) (.string ⟨#[]⟩)
    obtain ⟨j0, j1, j2, j3, j4, j5⟩ := K9.cells6
    have HB9 := hid (bel_put6 cq hNw (.int .i64 0) (.string ⟨#[]⟩) (.int .i64 0) (.int .i64 0) (.int .i64 0) (.string ⟨#[]⟩))
    clear K9
    exact bodyPost_ret (v := .tuple #[.agg #[.int .i64 0, .string ⟨#[]⟩, .int .i64 0, .int .i64 0, .int .i64 0, .string ⟨#[]⟩], .int .i64 (0), .bool false]) (by simp [results, Tryd.results8, go_sem, j0, j1, j2, j3, j4, j5]) rfl ⟨by rw [HRS.out, if_neg (by simp)]; rfl, HB9.out⟩
  | true =>
    have hS : Below W4.heap.size W4 W4 := Below.refl _ _
    by_cases he : RT = Y
    · have he1 : (RT.toList == Y.toList) = true := by rw [he]; simp
      have HE := hid he
      clear he
      refine qB (S := (fun v => Below W4.heap.size W4 v)) (by kernel_rfl) (by kernel_rfl) (bel_drew hS) ?_
      refine qK ?_
      refine qK ?_
      refine qK ?_
      refine qK ?_
      refine qC (fun wq hSq => HRC.out wq) (fun wq wr hbr hSq => (fun hbr hSq => bel_trans hSq hbr) hbr hSq) ?_
      refine qK ?_
      refine qK ?_
      refine qK ?_
      refine qK ?_
      refine qK ?_
      refine qK ?_
      refine qK ?_
      refine qK ?_
      refine qK ?_
      refine qN ?_
      intro wq hSq
      (try dsimp only at hSq)
      have cq := bel_trans c4 hSq
      have kNq := kN4.on hSq
      have kPq := kP4.on hSq
      obtain ⟨p0, p1, p2, p3, p4, p5⟩ := kPq.cells6
      clear hSq hS kN4 c4 kP4
      obtain ⟨q0, q1, q2, q3, q4, q5⟩ := kNq.cells6
      have g0 := kNq.frozen 0
      have g1 := kNq.frozen 1
      have g2 := kNq.frozen 2
      have g3 := kNq.frozen 3
      have g4 := kNq.frozen 4
      have g5 := kNq.frozen 5
      go_wp2
      (try simp only [Exit.inBlock, Exit.then])
      have K9 := kNq.put6o (.int .i64 k) (.string nm) (.int .i64 f) (.int .i64 t) (.int .i64 z) (.string d)
      obtain ⟨j0, j1, j2, j3, j4, j5⟩ := K9.cells6
      have HB9 := hid (bel_put6 cq hNw (.int .i64 k) (.string nm) (.int .i64 f) (.int .i64 t) (.int .i64 z) (.string d))
      clear K9
      exact bodyPost_ret (v := .tuple #[.agg #[.int .i64 k, .string nm, .int .i64 f, .int .i64 t, .int .i64 z, .string d], .int .i64 ((a : Int) + 4 + (n : Int)), .bool true]) (by simp [results, Tryd.results8, go_sem, j0, j1, j2, j3, j4, j5]) rfl ⟨by rw [HRS.out, if_pos ⟨by trivial, HE.out⟩]; rfl, HB9.out⟩
    · have he1 : (RT.toList == Y.toList) = false := bytes_neI he
      have HE := hid he
      clear he
      refine qB (S := (fun v => Below W4.heap.size W4 v)) (by kernel_rfl) (by kernel_rfl) (bel_drew hS) ?_
      refine qK ?_
      refine qK ?_
      refine qK ?_
      refine qK ?_
      refine qC (fun wq hSq => HRC.out wq) (fun wq wr hbr hSq => (fun hbr hSq => bel_trans hSq hbr) hbr hSq) ?_
      refine qK ?_
      refine qK ?_
      refine qK ?_
      refine qK ?_
      refine qK ?_
      refine qK ?_
      refine qK ?_
      refine qK ?_
      refine qK ?_
      refine qN ?_
      intro wq hSq
      (try dsimp only at hSq)
      have cq := bel_trans c4 hSq
      have kNq := kN4.on hSq
      clear hSq hS kN4 c4 kP4
      obtain ⟨q0, q1, q2, q3, q4, q5⟩ := kNq.cells6
      have g0 := kNq.frozen 0
      have g1 := kNq.frozen 1
      have g2 := kNq.frozen 2
      have g3 := kNq.frozen 3
      have g4 := kNq.frozen 4
      have g5 := kNq.frozen 5
      go_wp2
      (try simp only [Exit.inBlock, Exit.then])
      have K9 := kNq.put6o (.int .i64 0) (.string ⟨#[]⟩) (.int .i64 0) (.int .i64 0) (.int .i64 0) (.string ⟨#[]⟩)
      obtain ⟨j0, j1, j2, j3, j4, j5⟩ := K9.cells6
      have HB9 := hid (bel_put6 cq hNw (.int .i64 0) (.string ⟨#[]⟩) (.int .i64 0) (.int .i64 0) (.int .i64 0) (.string ⟨#[]⟩))
      clear K9
      exact bodyPost_ret (v := .tuple #[.agg #[.int .i64 0, .string ⟨#[]⟩, .int .i64 0, .int .i64 0, .int .i64 0, .string ⟨#[]⟩], .int .i64 (0), .bool false]) (by simp [results, Tryd.results8, go_sem, j0, j1, j2, j3, j4, j5]) rfl ⟨by rw [HRS.out, if_neg (fun h => HE.out h.2)]; rfl, HB9.out⟩

theorem rr_ex (L : ByteArray) (q : Int) (w : World) (hL : L.size ≤ 1048576) (hq : -9223372036854775808 ≤ q ∧ q ≤ 9223372036854775807) (hE : ErrAt w) (mm : Int) (hm : w.cell? ⟨2, 0, none⟩ = some (.int .i64 mm)) (hLy : Lay w) (hFm : Frm w) (hTab : Tab w) :
    ∃ (k : Int) (nm : ByteArray) (f t z : Int) (d : ByteArray) (n : Int) (b : Bool), (∀ v : World, Calls Tryd.prog 8 #[.string L, .int .i64 q] v fun e w' => e = opR k nm f t z d n b ∧ Below v.heap.size v w') ∧
      (∀ v : World, Below w.heap.size w v → Calls Tryd.prog 9 #[.string L, .int .i64 q] v fun e w' => e = opR k nm f t z d n b ∧ Below v.heap.size v w') := by
  by_cases h0 : q < 0 ∨ (L.size : Int) < q + 2
  · exact ⟨0, ⟨#[]⟩, 0, 0, 0, ⟨#[]⟩, 0, false, fun v => c_sRR1 L q v hL hq (by omega), fun v _ => c_RR1 L q v hL hq h0⟩
  obtain ⟨a, rfl⟩ : ∃ a : Nat, q = (a : Int) := ⟨q.toNat, by omega⟩
  obtain ⟨X, hX⟩ : ∃ X, X = L.extract a (a + 2) := ⟨_, rfl⟩
  obtain ⟨n, hn⟩ : ∃ n, n = (X.data.toList.getD 0 0).toNat * 256 + (X.data.toList.getD 1 0).toNat := ⟨_, rfl⟩
  by_cases h1 : L.size < a + 4
  · exact ⟨0, ⟨#[]⟩, 0, 0, 0, ⟨#[]⟩, 0, false, fun v => c_sRR1 L a v hL hq (by omega), fun v _ => c_RR2 L a v hL (by omega) X hX n hn (by omega)⟩
  by_cases h2 : L.size < a + 4 + n
  · exact ⟨0, ⟨#[]⟩, 0, 0, 0, ⟨#[]⟩, 0, false, fun v => c_sRR2 L a v hL (by omega) X hX n hn h2, fun v _ => c_RR2 L a v hL (by omega) X hX n hn h2⟩
  obtain ⟨T, hT⟩ : ∃ T, T = L.extract (a + 2) (a + 2 + n) := ⟨_, rfl⟩
  obtain ⟨Y, hY⟩ : ∃ Y, Y = L.extract a (a + 4 + n) := ⟨_, rfl⟩
  have hTz : T.size ≤ 1048576 := by rw [hT, ByteArray.size_extract]; omega
  obtain ⟨k, nm, f, t, z, d, b, hone⟩ := pop_ex T
  have S := fun (v : World) => c_sRR3 L a v hL X hX n hn (by omega) T hT Y hY k nm f t z d b (hid (fun v2 _ => (c_sParseOp T v2 hTz).mono fun _ _ h => ⟨hone _ h.1, h.2⟩))
  have I := fun (v : World) (hb : Below w.heap.size w v) => c_RR3 L a v hL X hX n hn (by omega) T hT Y hY k nm f t z d b (hid (fun v2 hb2 => (c_ParseOp T v2 hTz ((hE.kept hb).kept hb2) mm (cell_kept (cell_kept hm hb) hb2) ((hTab.on hb).on hb2) ((hLy.on hb).on hb2) ((hFm.on hb).on hb2)).mono fun _ _ h => ⟨hone _ h.1, h.2⟩))
  by_cases hc : b = true ∧ recT T = Y
  · simp only [if_pos hc] at S I
    exact ⟨k, nm, f, t, z, d, (a : Int) + 4 + n, true, S, I⟩
  · simp only [if_neg hc] at S I
    exact ⟨0, ⟨#[]⟩, 0, 0, 0, ⟨#[]⟩, 0, false, S, I⟩

set_option maxRecDepth 100000 in
set_option maxHeartbeats 4000000 in
theorem walk_FnExactReadRecord (L : ByteArray) (q : Int) (w : World) (h_t : L.size ≤ maxLen) (hq : -9223372036854775808 ≤ q ∧ q ≤ 9223372036854775807) (hE : ErrAt w) (mm : Int) (hm : w.cell? ⟨2, 0, none⟩ = some (.int .i64 mm)) (hLy : Lay w) (hFm : Frm w) (hTab : Tab w) :
    Calls Tryd.prog 4 #[.string L, .int .i64 q] w fun e w' => e = .returned (.bool true) ∧ Below w.heap.size w w' := by
  by_cases big : 1048576 < L.size
  · unfold maxLen at *
    go_enter Tryd.func4, Tryd.ntmps4
    go_wp2_with fail
    go_ret
    exact ⟨rfl, by (repeat (first | with_reducible (first | assumption | exact Below.refl _ _ | refine bel_alloc ?_ _ | refine bel_drew ?_ | refine bel_drewN ?_ _ | refine bel_set ?_ (by first | omega | (simp; done) | (simp; omega)) _ | refine bel_trans ?_ (by assumption)) | assumption | refine bel_trans ?_ (by assumption)))⟩
  · obtain ⟨k, nm, f, u, z, D, n, b, hs, hi⟩ := rr_ex L q w (by omega) hq hE mm hm hLy hFm hTab
    have H1 := hid hs
    have H2 := hid hi
    unfold opR at H1 H2
    have hbb : (b != b) = false := by simp
    have hnn : (n != n) = false := by simp
    clear hs hi hE hm hTab hLy hFm
    go_enter Tryd.func4, Tryd.ntmps4
    go_wp2_with fail
    refine (H1.out _).mono ?_
    rintro e W1 ⟨rfl, hb1⟩
    go_wp2_with fail
    have k2 := Blk.new W1 23 #[.int .i64 k, .string nm, .int .i64 f, .int .i64 u, .int .i64 z, .string D]
    obtain ⟨M, hM⟩ : ∃ M, M = W1.heap.size := ⟨_, rfl⟩
    obtain ⟨W2, hW2⟩ : ∃ W2, W2 = W1.alloc (.cells #[.int .i64 k, .string nm, .int .i64 f, .int .i64 u, .int .i64 z, .string D] 23) := ⟨_, rfl⟩
    have c2 : Below w.heap.size w W2 := by rw [hW2]; exact bel_alloc hb1 _
    rw [← hM, ← hW2] at k2 ⊢
    clear hM hW2 hb1
    refine (H2.out _ c2).mono ?_
    rintro e W3 ⟨rfl, hb3⟩
    have k3 := k2.on hb3
    have c3 := bel_trans c2 hb3
    obtain ⟨x0, x1, x2, x3, x4, x5⟩ := k3.cells6
    have hlt := k3.lt
    clear k2 c2 hb3
    go_wp2_with fail
    refine (c_eqOp k nm f u z D _).mono ?_
    rintro e W4 ⟨rfl, hb4⟩
    go_wp2
    go_ret
    exact ⟨by simp_all, by (repeat (first | with_reducible (first | assumption | exact Below.refl _ _ | refine bel_alloc ?_ _ | refine bel_drew ?_ | refine bel_drewN ?_ _ | refine bel_set ?_ (by first | omega | (simp; done) | (simp; omega)) _ | refine bel_trans ?_ (by assumption)) | assumption | refine bel_trans ?_ (by assumption)))⟩
end Go.Proofs.YthhgamnkidkanaaDoor
