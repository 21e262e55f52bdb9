/- ReadRecord in both programs, and the walk of its law. -/
import Derived.Test.YtaiemogcboidhaaGreatDoorLp
import Derived.Test.YtaiemogcboidhaaGreatDoorKh
import Derived.Test.YtaiemogcboidhaaGreatDoorQy
namespace Go.Proofs.YtaiemogcboidhaaGreatDoor
open Go.ChangeShapes Go.WideShapes Go.ChangeAt Go.RowKit Go.Joins
set_option linter.unusedVariables false
set_option linter.unusedSimpArgs false

/-- what ReadRecord returns -/
def opR (k : Int) (nm : ByteArray) (f t z : Int) (d : ByteArray) (n : Int) (b : Bool) : Ending := .returned (.tuple #[.agg #[.int .i64 k, .string nm, .int .i64 f, .int .i64 t, .int .i64 z, .string d], .int .i64 n, .bool b])
theorem slice_nn {P : Program} {ty : TypeId} (ht : P.underlying ty = some .string) (s : ByteArray) (a b : Nat) (i j : Int) (hi : i = a) (hj : j = b) (h1 : a ≤ b) (h2 : b ≤ s.size) (W : World) :
    (Instr.slice ty (.string s) (some (.int .i64 i)) (some (.int .i64 j)) none).run P W = .ok (.string (s.extract a b)) W := by
  subst hi hj
  rw [run_slice_string_if W ty s .i64 .i64 a b ht, if_pos (by omega), if_pos (by omega)]
  rfl
theorem idx_txt {P : Program} {t : TypeId} (ht : P.underlying t = some .string) (s : ByteArray) (n : Nat) (h : n < s.size) (w : World) :
    (Instr.index t (.string s) (.int .i64 (n : Int))).run P w = .ok (.int .u8 ((s[n]).toNat : Int)) w := by
  have e := run_index_string (P := P) (w := w) t s .i64 (n : Int) ht
  rw [dif_pos (by omega)] at e
  exact e
theorem or_twoq (a b : UInt8) : bits .or .i64 (IntKind.i64.wrap ((a.toNat : Int) * 256)) (b.toNat : Int) = ((256 * a.toNat + b.toNat : Nat) : Int) := by
  have h1 := UInt8.toNat_lt a
  have h2 := UInt8.toNat_lt b
  have := (bits_nat .i64 63 (by decide) (fun n h0 h1 => IntWalk.i64_in n (by omega)) (a.toNat * 256) b.toNat (by omega) (by omega)).2
  have e : (a.toNat * 256 ||| b.toNat) = 256 * a.toNat + b.toNat := by
    rw [Nat.mul_comm, show (256 : Nat) = 2 ^ 8 from rfl, Nat.two_pow_add_eq_or_of_lt h2]
  rw [e] at this
  have e2 : IntKind.i64.wrap ((a.toNat : Int) * 256) = ((a.toNat * 256 : Nat) : Int) := by rw [IntWalk.i64_in _ (by omega)]; omega
  rw [e2]
  exact this
theorem get_d (X : ByteArray) (i : Nat) (h : i < X.size) : X.data.toList.getD i 0 = X[i] := by
  rw [List.getD_eq_getElem?_getD, byte_get X i h]; rfl

theorem c_from2 (X : ByteArray) (n : Nat) (w : World) (hX : X.size = 2) (hn : n = (X.data.toList.getD 0 0).toNat * 256 + (X.data.toList.getD 1 0).toNat) : Calls Tryz.prog 42 #[.string X] w fun e w' => e = .returned (.int .i64 (n : Int)) ∧ Below w.heap.size w w' := by
  rw [get_d X 0 (by omega), get_d X 1 (by omega)] at hn
  obtain ⟨a, ha⟩ : ∃ a, a = X[0] := ⟨_, rfl⟩
  obtain ⟨b, hb⟩ : ∃ b, b = X[1] := ⟨_, rfl⟩
  rw [← ha, ← hb] at hn
  have i0 : ∀ W, (Instr.index 9 (.string X) (.int .i64 0)).run Tryz.prog W = .ok (.int .u8 (a.toNat : Int)) W := fun W => by
    have := idx_txt (P := Tryz.prog) Tryz.underlying9 X 0 (by omega) W
    exact this.trans (by rw [ha])
  have i1 : ∀ W, (Instr.index 9 (.string X) (.int .i64 1)).run Tryz.prog W = .ok (.int .u8 (b.toNat : Int)) W := fun W => by
    have := idx_txt (P := Tryz.prog) Tryz.underlying9 X 1 (by omega) W
    exact this.trans (by rw [hb])
  have la := UInt8.toNat_lt a
  have lb := UInt8.toNat_lt b
  have ho := or_twoq a b
  have ho2 := ho
  rw [IntWalk.i64_in _ (by omega)] at ho2
  have HN := hid hn
  clear ha hb hn
  go_enter Tryz.func42, Tryz.ntmps42
  go_wp2
  go_quiet (fail)
  go_wp2_with fail
  go_ret
  exact ⟨by rw [HN.out, Nat.mul_comm]; rfl, by exact obB⟩

set_option maxHeartbeats 4000000 in
set_option maxRecDepth 100000 in
theorem c_RR1 (L : ByteArray) (q : Int) (w : World) (hL : L.size ≤ 1048576) (hq : -9223372036854775808 ≤ q ∧ q ≤ 9223372036854775807) (h : q < 0 ∨ (L.size : Int) < q + 2) :
    Calls Tryz.prog 16 #[.string L, .int .i64 q] w fun e w' => e = opR 0 ⟨#[]⟩ 0 0 0 ⟨#[]⟩ 0 false ∧ Below w.heap.size w w' := by
  by_cases h0 : q < 0
  · clear h
    have kN : Blk (w.alloc (.cells #[.int .i64 0, .string ⟨#[]⟩, .int .i64 0, .int .i64 0, .int .i64 0, .string ⟨#[]⟩] 24)) w.heap.size 24 #[.int .i64 0, .string ⟨#[]⟩, .int .i64 0, .int .i64 0, .int .i64 0, .string ⟨#[]⟩] := Blk.new w _ _
    have c1 : Below w.heap.size w (w.alloc (.cells #[.int .i64 0, .string ⟨#[]⟩, .int .i64 0, .int .i64 0, .int .i64 0, .string ⟨#[]⟩] 24)) := bel_alloc (Below.refl _ _) _
    have hNw : w.heap.size ≤ w.heap.size := Nat.le_refl _
    go_enter Tryz.func16, Tryz.ntmps16
    go_wp2_with fail
    (try simp only [Exit.inBlock, Exit.then])
    obtain ⟨j0, j1, j2, j3, j4, j5⟩ := kN.cells6
    exact bodyPost_ret (v := .tuple #[.agg #[.int .i64 0, .string ⟨#[]⟩, .int .i64 0, .int .i64 0, .int .i64 0, .string ⟨#[]⟩], .int .i64 0, .bool false]) (by simp [results, Tryz.results16, go_sem, j0, j1, j2, j3, j4, j5]) rfl ⟨rfl, c1⟩
  have h1 : (L.size : Int) - 2 < q := by omega
  clear h
  have kN : Blk (w.alloc (.cells #[.int .i64 0, .string ⟨#[]⟩, .int .i64 0, .int .i64 0, .int .i64 0, .string ⟨#[]⟩] 24)) w.heap.size 24 #[.int .i64 0, .string ⟨#[]⟩, .int .i64 0, .int .i64 0, .int .i64 0, .string ⟨#[]⟩] := Blk.new w _ _
  have c1 : Below w.heap.size w (w.alloc (.cells #[.int .i64 0, .string ⟨#[]⟩, .int .i64 0, .int .i64 0, .int .i64 0, .string ⟨#[]⟩] 24)) := bel_alloc (Below.refl _ _) _
  have hNw : w.heap.size ≤ w.heap.size := Nat.le_refl _
  go_enter Tryz.func16, Tryz.ntmps16
  go_wp2_with fail
  (try simp only [Exit.inBlock, Exit.then])
  obtain ⟨j0, j1, j2, j3, j4, j5⟩ := kN.cells6
  exact bodyPost_ret (v := .tuple #[.agg #[.int .i64 0, .string ⟨#[]⟩, .int .i64 0, .int .i64 0, .int .i64 0, .string ⟨#[]⟩], .int .i64 0, .bool false]) (by simp [results, Tryz.results16, go_sem, j0, j1, j2, j3, j4, j5]) rfl ⟨rfl, c1⟩

set_option maxHeartbeats 4000000 in
set_option maxRecDepth 100000 in
theorem c_RR2 (L : ByteArray) (a : Nat) (w : World) (hL : L.size ≤ 1048576) (ha : a + 2 ≤ L.size) (X : ByteArray) (hX : X = L.extract a (a + 2)) (n : Nat) (hn : n = (X.data.toList.getD 0 0).toNat * 256 + (X.data.toList.getD 1 0).toNat) (hbig : L.size < a + 4 + n) :
    Calls Tryz.prog 16 #[.string L, .int .i64 (a : Int)] w fun e w' => e = opR 0 ⟨#[]⟩ 0 0 0 ⟨#[]⟩ 0 false ∧ Below w.heap.size w w' := by
  have hXz : X.size = 2 := by rw [hX, ByteArray.size_extract]; omega
  have HPR := hid (fun (v : World) => c_from2 X n v hXz hn)
  have hnn : n ≤ 65535 := by
    have e1 := UInt8.toNat_lt (X.data.toList.getD 0 0)
    have e2 := UInt8.toNat_lt (X.data.toList.getD 1 0)
    omega
  have hs1 : ∀ W, (Instr.slice 9 (.string L) (some (.int .i64 (a : Int))) (some (.int .i64 ((a : Int) + 2))) none).run Tryz.prog W = .ok (.string X) W := fun W => by
    rw [hX]; exact slice_nn Tryz.underlying9 L a (a + 2) _ _ rfl (by omega) (by omega) (by omega) W
  clear hX hn hXz
  have d1 : ¬ (L.size : Int) - 2 < (a : Int) := by omega
  have d2 : (L.size : Int) < (a : Int) + 2 + (n : Int) + 2 := by omega
  go_enter Tryz.func16, Tryz.ntmps16
  go_wp2_with fail
  obtain ⟨N, hN⟩ : ∃ N, N = w.heap.size := ⟨_, rfl⟩
  have hNw : w.heap.size ≤ N := by omega
  obtain ⟨W1, hW1⟩ : ∃ W1, W1 = w.alloc (.cells #[.int .i64 0, .string ⟨#[]⟩, .int .i64 0, .int .i64 0, .int .i64 0, .string ⟨#[]⟩] 24) := ⟨_, rfl⟩
  rw [← hN, ← hW1]
  have kN : Blk W1 N 24 #[.int .i64 0, .string ⟨#[]⟩, .int .i64 0, .int .i64 0, .int .i64 0, .string ⟨#[]⟩] := by rw [hW1, hN]; exact Blk.new w _ _
  have c1 : Below w.heap.size w W1 := by rw [hW1]; exact bel_alloc (Below.refl _ _) _
  clear hN hW1
  go_wp2_with fail
  refine (HPR.out W1).mono ?_
  rintro e W2 ⟨rfl, hb2⟩
  have kN2 := kN.on hb2
  have c2 := bel_trans c1 hb2
  clear kN c1 hb2
  obtain ⟨q0, q1, q2, q3, q4, q5⟩ := kN2.cells6
  have g0 := kN2.frozen 0
  have g1 := kN2.frozen 1
  have g2 := kN2.frozen 2
  have g3 := kN2.frozen 3
  have g4 := kN2.frozen 4
  have g5 := kN2.frozen 5
  go_wp2
  (try simp only [Exit.inBlock, Exit.then])
  have K9 := kN2.put6o (.int .i64 0) (.string ⟨#[]⟩) (.int .i64 0) (.int .i64 0) (.int .i64 0) (.string ⟨#[]⟩)
  obtain ⟨j0, j1, j2, j3, j4, j5⟩ := K9.cells6
  have HB9 := hid (bel_put6 c2 hNw (.int .i64 0) (.string ⟨#[]⟩) (.int .i64 0) (.int .i64 0) (.int .i64 0) (.string ⟨#[]⟩))
  clear K9
  exact bodyPost_ret (v := .tuple #[.agg #[.int .i64 0, .string ⟨#[]⟩, .int .i64 0, .int .i64 0, .int .i64 0, .string ⟨#[]⟩], .int .i64 (0), .bool false]) (by simp [results, Tryz.results16, go_sem, j0, j1, j2, j3, j4, j5]) rfl ⟨rfl, HB9.out⟩

set_option maxHeartbeats 8000000 in
set_option maxRecDepth 100000 in
theorem c_RR3 (L : ByteArray) (a : Nat) (w : World) (hL : L.size ≤ 1048576) (X : ByteArray) (hX : X = L.extract a (a + 2)) (n : Nat) (hn : n = (X.data.toList.getD 0 0).toNat * 256 + (X.data.toList.getD 1 0).toNat) (ha : a + 4 + n ≤ L.size) (T : ByteArray) (hT : T = L.extract (a + 2) (a + 2 + n)) (Y : ByteArray) (hY : Y = L.extract a (a + 4 + n))
    (k : Int) (nm : ByteArray) (f t z : Int) (d : ByteArray) (b : Bool) (HPo : Hid (∀ v : World, Below w.heap.size w v → Calls Tryz.prog 9 #[.string T] v fun e w' => e = opV k nm f t z d b ∧ Below v.heap.size v w')) :
    Calls Tryz.prog 16 #[.string L, .int .i64 (a : Int)] w fun e w' => e = (if b = true ∧ recT T = Y then opR k nm f t z d ((a : Int) + 4 + n) true else opR 0 ⟨#[]⟩ 0 0 0 ⟨#[]⟩ 0 false) ∧ Below w.heap.size w w' := by
  have hXz : X.size = 2 := by rw [hX, ByteArray.size_extract]; omega
  have HPR := hid (fun (v : World) => c_from2 X n v hXz hn)
  have hnn : n ≤ 65535 := by
    have e1 := UInt8.toNat_lt (X.data.toList.getD 0 0)
    have e2 := UInt8.toNat_lt (X.data.toList.getD 1 0)
    omega
  have hs1 : ∀ W, (Instr.slice 9 (.string L) (some (.int .i64 (a : Int))) (some (.int .i64 ((a : Int) + 2))) none).run Tryz.prog W = .ok (.string X) W := fun W => by
    rw [hX]; exact slice_nn Tryz.underlying9 L a (a + 2) _ _ rfl (by omega) (by omega) (by omega) W
  have hTz : T.size ≤ 100000 := by rw [hT, ByteArray.size_extract]; omega
  have hs2 : ∀ W, (Instr.slice 9 (.string L) (some (.int .i64 ((a : Int) + 2))) (some (.int .i64 ((a : Int) + 2 + (n : Int)))) none).run Tryz.prog W = .ok (.string T) W := fun W => by
    rw [hT]; exact slice_nn Tryz.underlying9 L (a + 2) (a + 2 + n) _ _ (by omega) (by omega) (by omega) (by omega) W
  have hs3 : ∀ W, (Instr.slice 9 (.string L) (some (.int .i64 (a : Int))) (some (.int .i64 ((a : Int) + 2 + (n : Int) + 2))) none).run Tryz.prog W = .ok (.string Y) W := fun W => by
    rw [hY]; exact slice_nn Tryz.underlying9 L a (a + 4 + n) _ _ rfl (by omega) (by omega) (by omega) W
  have HRC := hid (fun (v : World) => c_recordOf T v hTz)
  obtain ⟨RT, hRT⟩ : ∃ RT, RT = recT T := ⟨_, rfl⟩
  rw [← hRT] at HRC ⊢
  unfold opV at HPo
  obtain ⟨RS, hRS⟩ : ∃ RS, RS = (if b = true ∧ RT = Y then opR k nm f t z d ((a : Int) + 4 + n) true else opR 0 ⟨#[]⟩ 0 0 0 ⟨#[]⟩ 0 false) := ⟨_, rfl⟩
  rw [← hRS]
  have HRS := hid hRS
  clear hRS
  clear hX hn hXz hT hY hRT hTz
  have d1 : ¬ (L.size : Int) - 2 < (a : Int) := by omega
  have d2 : ¬ (L.size : Int) < (a : Int) + 2 + (n : Int) + 2 := by omega
  go_enter Tryz.func16, Tryz.ntmps16
  go_wp2_with fail
  obtain ⟨N, hN⟩ : ∃ N, N = w.heap.size := ⟨_, rfl⟩
  have hNw : w.heap.size ≤ N := by omega
  obtain ⟨W1, hW1⟩ : ∃ W1, W1 = w.alloc (.cells #[.int .i64 0, .string ⟨#[]⟩, .int .i64 0, .int .i64 0, .int .i64 0, .string ⟨#[]⟩] 24) := ⟨_, rfl⟩
  rw [← hN, ← hW1]
  have kN : Blk W1 N 24 #[.int .i64 0, .string ⟨#[]⟩, .int .i64 0, .int .i64 0, .int .i64 0, .string ⟨#[]⟩] := by rw [hW1, hN]; exact Blk.new w _ _
  have c1 : Below w.heap.size w W1 := by rw [hW1]; exact bel_alloc (Below.refl _ _) _
  clear hN hW1
  go_wp2_with fail
  refine (HPR.out W1).mono ?_
  rintro e W2 ⟨rfl, hb2⟩
  have kN2 := kN.on hb2
  have c2 := bel_trans c1 hb2
  clear kN c1 hb2
  go_wp2_with fail
  refine (HPo.out W2 c2).mono ?_
  rintro e W3 ⟨rfl, hb3⟩
  have kN3 := kN2.on hb3
  have c3 := bel_trans c2 hb3
  clear kN2 c2 hb3
  go_wp2_with fail
  obtain ⟨P, hP⟩ : ∃ P, P = W3.heap.size := ⟨_, rfl⟩
  obtain ⟨W4, hW4⟩ : ∃ W4, W4 = W3.alloc (.cells #[.int .i64 k, .string nm, .int .i64 f, .int .i64 t, .int .i64 z, .string d] 24) := ⟨_, rfl⟩
  rw [← hP, ← hW4]
  have kP4 : Blk W4 P 24 #[.int .i64 k, .string nm, .int .i64 f, .int .i64 t, .int .i64 z, .string d] := by rw [hW4, hP]; exact Blk.new W3 _ _
  have kN4 : Blk W4 N 24 #[.int .i64 0, .string ⟨#[]⟩, .int .i64 0, .int .i64 0, .int .i64 0, .string ⟨#[]⟩] := by rw [hW4]; exact kN3.alloc _
  have c4 : Below w.heap.size w W4 := by rw [hW4]; exact bel_alloc c3 _
  clear hW4 hP kN3 c3
  cases b with
  | false =>
    have hS : Below W4.heap.size W4 W4 := Below.refl _ _
    refine qB (S := (fun v => Below W4.heap.size W4 v)) (by kernel_rfl) (by kernel_rfl) (bel_drew hS) ?_
    refine qK ?_
    refine qK ?_
    refine qK ?_
    refine qU ?_
    refine qU ?_
    refine qU ?_
    refine qU ?_
    refine qU ?_
    refine qU ?_
    refine qU ?_
    refine qK ?_
    refine qN ?_
    intro wq hSq
    (try dsimp only at hSq)
    have cq := bel_trans c4 hSq
    have kNq := kN4.on hSq
    clear hSq hS kN4 c4 kP4
    obtain ⟨q0, q1, q2, q3, q4, q5⟩ := kNq.cells6
    have g0 := kNq.frozen 0
    have g1 := kNq.frozen 1
    have g2 := kNq.frozen 2
    have g3 := kNq.frozen 3
    have g4 := kNq.frozen 4
    have g5 := kNq.frozen 5
    go_wp2
    (try simp only [Exit.inBlock, Exit.then])
    have K9 := kNq.put6o (.int .i64 0) (.string ⟨#[]⟩) (.int .i64 0) (.int .i64 0) (.int .i64 0) (.string ⟨#[]⟩)
    obtain ⟨j0, j1, j2, j3, j4, j5⟩ := K9.cells6
    have HB9 := hid (bel_put6 cq hNw (.int .i64 0) (.string ⟨#[]⟩) (.int .i64 0) (.int .i64 0) (.int .i64 0) (.string ⟨#[]⟩))
    clear K9
    exact bodyPost_ret (v := .tuple #[.agg #[.int .i64 0, .string ⟨#[]⟩, .int .i64 0, .int .i64 0, .int .i64 0, .string ⟨#[]⟩], .int .i64 (0), .bool false]) (by simp [results, Tryz.results16, go_sem, j0, j1, j2, j3, j4, j5]) rfl ⟨by rw [HRS.out, if_neg (by simp)]; rfl, HB9.out⟩
  | true =>
    have hS : Below W4.heap.size W4 W4 := Below.refl _ _
    by_cases he : RT = Y
    · have he1 : (RT.toList == Y.toList) = true := by rw [he]; simp
      have HE := hid he
      clear he
      refine qB (S := (fun v => Below W4.heap.size W4 v)) (by kernel_rfl) (by kernel_rfl) (bel_drew hS) ?_
      refine qK ?_
      refine qK ?_
      refine qK ?_
      refine qK ?_
      refine qC (fun wq hSq => HRC.out wq) (fun wq wr hbr hSq => (fun hbr hSq => bel_trans hSq hbr) hbr hSq) ?_
      refine qK ?_
      refine qK ?_
      refine qK ?_
      refine qK ?_
      refine qK ?_
      refine qK ?_
      refine qN ?_
      intro wq hSq
      (try dsimp only at hSq)
      have cq := bel_trans c4 hSq
      have kNq := kN4.on hSq
      have kPq := kP4.on hSq
      obtain ⟨p0, p1, p2, p3, p4, p5⟩ := kPq.cells6
      clear hSq hS kN4 c4 kP4
      obtain ⟨q0, q1, q2, q3, q4, q5⟩ := kNq.cells6
      have g0 := kNq.frozen 0
      have g1 := kNq.frozen 1
      have g2 := kNq.frozen 2
      have g3 := kNq.frozen 3
      have g4 := kNq.frozen 4
      have g5 := kNq.frozen 5
      go_wp2
      (try simp only [Exit.inBlock, Exit.then])
      have K9 := kNq.put6o (.int .i64 k) (.string nm) (.int .i64 f) (.int .i64 t) (.int .i64 z) (.string d)
      obtain ⟨j0, j1, j2, j3, j4, j5⟩ := K9.cells6
      have HB9 := hid (bel_put6 cq hNw (.int .i64 k) (.string nm) (.int .i64 f) (.int .i64 t) (.int .i64 z) (.string d))
      clear K9
      exact bodyPost_ret (v := .tuple #[.agg #[.int .i64 k, .string nm, .int .i64 f, .int .i64 t, .int .i64 z, .string d], .int .i64 ((a : Int) + 2 + (n : Int) + 2), .bool true]) (by simp [results, Tryz.results16, go_sem, j0, j1, j2, j3, j4, j5]) rfl ⟨by rw [HRS.out, if_pos ⟨by trivial, HE.out⟩]; unfold opR; rw [show (a : Int) + 4 + (n : Int) = (a : Int) + 2 + (n : Int) + 2 from by omega], HB9.out⟩
    · have he1 : (RT.toList == Y.toList) = false := bytes_neI he
      have HE := hid he
      clear he
      refine qB (S := (fun v => Below W4.heap.size W4 v)) (by kernel_rfl) (by kernel_rfl) (bel_drew hS) ?_
      refine qK ?_
      refine qK ?_
      refine qK ?_
      refine qK ?_
      refine qC (fun wq hSq => HRC.out wq) (fun wq wr hbr hSq => (fun hbr hSq => bel_trans hSq hbr) hbr hSq) ?_
      refine qK ?_
      refine qK ?_
      refine qK ?_
      refine qK ?_
      refine qK ?_
      refine qK ?_
      refine qN ?_
      intro wq hSq
      (try dsimp only at hSq)
      have cq := bel_trans c4 hSq
      have kNq := kN4.on hSq
      clear hSq hS kN4 c4 kP4
      obtain ⟨q0, q1, q2, q3, q4, q5⟩ := kNq.cells6
      have g0 := kNq.frozen 0
      have g1 := kNq.frozen 1
      have g2 := kNq.frozen 2
      have g3 := kNq.frozen 3
      have g4 := kNq.frozen 4
      have g5 := kNq.frozen 5
      go_wp2
      (try simp only [Exit.inBlock, Exit.then])
      have K9 := kNq.put6o (.int .i64 0) (.string ⟨#[]⟩) (.int .i64 0) (.int .i64 0) (.int .i64 0) (.string ⟨#[]⟩)
      obtain ⟨j0, j1, j2, j3, j4, j5⟩ := K9.cells6
      have HB9 := hid (bel_put6 cq hNw (.int .i64 0) (.string ⟨#[]⟩) (.int .i64 0) (.int .i64 0) (.int .i64 0) (.string ⟨#[]⟩))
      clear K9
      exact bodyPost_ret (v := .tuple #[.agg #[.int .i64 0, .string ⟨#[]⟩, .int .i64 0, .int .i64 0, .int .i64 0, .string ⟨#[]⟩], .int .i64 (0), .bool false]) (by simp [results, Tryz.results16, go_sem, j0, j1, j2, j3, j4, j5]) rfl ⟨by rw [HRS.out, if_neg (fun h => HE.out h.2)]; rfl, HB9.out⟩
end Go.Proofs.YtaiemogcboidhaaGreatDoor
