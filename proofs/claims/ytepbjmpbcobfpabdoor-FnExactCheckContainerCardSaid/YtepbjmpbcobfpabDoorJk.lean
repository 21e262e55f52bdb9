/- errors.Is where an error is the very one that is asked for, and where there is none; ParseBlock in the program, and its law's walk. The layout of the header and the first error are as the program's text lays them. -/
import Derived.Test.YtepbjmpbcobfpabDoorRn
import Derived.LaidEql
import Derived.Stop.Asserts
namespace Go.Proofs.YtepbjmpbcobfpabDoor
open Go.ChangeShapes Go.WideShapes Go.ChangeAt Go.RowKit Go.Joins Go.Extern.Stop Go.Stop Go.Extern
set_option linter.unusedVariables false
set_option linter.unusedSimpArgs false

theorem c_isNil (a : Addr) (w : World) : Calls Tryd.prog 14 #[.nilIface, errV a] w fun e w' => e = .returned (.bool false) ∧ w' = w := by
  unfold errV
  have hn := run_eql_iface_nil_left (P := Tryd.prog) w 79 (.pointer (some a)) Tryd.underlying35
  go_enter Tryd.func14, Tryd.ntmps14
  go_wp2
  go_ret
  exact ⟨rfl, rfl⟩

theorem A.isT (v : Value) (w : World) : (Extern.ReflectliteType.typeOf #[.iface 79 v]).run Tryd.prog w = .ok (.iface 69 (.agg #[.pointer (some ⟨4, 79, none⟩)])) w := by kernel_rfl

theorem A.isC (w : World) : ((Go.Extern.ReflectliteType.method fun t => do Go.Extern.Rtype.noPackHeld "Comparable" t; Functor.map (fun a => Value.bool a.comparable) (typeInfo t)) #[.agg #[.pointer (some ⟨4, 79, none⟩)]]).run Tryd.prog w = .ok (.bool true) w := by kernel_rfl
theorem A.isM (v : Value) (w : World) : (Go.method 217 69 v "Comparable").run Tryd.prog w = .ok (53, v) w := by kernel_rfl
theorem A.isComp : (Tryd.prog.info? 79).map (·.comparable) = some true := by kernel_rfl
theorem A.isSize : (Tryd.prog.info? 106).map (·.size) = some 1 := by kernel_rfl

set_option maxRecDepth 100000 in
theorem c_isSame (a : Addr) (w : World) : Calls Tryd.prog 14 #[errV a, errV a] w fun e w' => e = .returned (.bool true) ∧ w' = w := by
  unfold errV
  have hTo := @run_callFunc_extern Tryd.prog 26 _ Extern.ReflectliteType.typeOf Tryd.func26 (by kernel_rfl) (by kernel_rfl) (by kernel_rfl) (by kernel_rfl)
  have hCo := @run_callFunc_extern Tryd.prog 53 _ (Go.Extern.ReflectliteType.method fun t => do Go.Extern.Rtype.noPackHeld "Comparable" t; pure (.bool (← typeInfo t).comparable)) Tryd.func53 (by kernel_rfl) (by kernel_rfl) (by kernel_rfl) (by kernel_rfl)
  have tT := A.isT
  have tC := A.isC
  have tM := A.isM
  obtain ⟨i, hi, hcmp⟩ := Option.map_eq_some_iff.1 A.isComp
  obtain ⟨j, hj, hjs⟩ := Option.map_eq_some_iff.1 A.isSize
  have heq := run_eql_iface_ptr_same (P := Tryd.prog) w a Tryd.underlying35 Tryd.underlying79 hi hcmp hj
  go_enter Tryd.func14, Tryd.ntmps14
  go_wp2
  refine wp_loop_rounds 1 ?_
  rw [rounds_succ]
  go_wp2
  go_ret
  exact ⟨rfl, rfl⟩

theorem bel_set4b {G : Nat} {w0 w : World} (h : Below w0.heap.size w0 w) (hG : w0.heap.size ≤ G) (x0 x1 x2 x3 : Value) : Below w0.heap.size w0 ((((w.setCell ⟨G, 0, none⟩ x0).setCell ⟨G, 1, none⟩ x1).setCell ⟨G, 2, none⟩ x2).setCell ⟨G, 3, none⟩ x3) :=
  bel_set (bel_set (bel_set (bel_set h hG _) hG _) hG _) hG _

set_option maxHeartbeats 4000000 in
set_option maxRecDepth 100000 in
theorem c_ParseBlock_no (S : ByteArray) (i : Int) (w : World) (a0 : Addr) (hG : Glob0 w a0) (hR : ∀ v, Glob0 v a0 → Calls Tryd.prog 13 #[.string S, .int .i64 i] v fun e w' => e = .returned (noBl a0) ∧ Below v.heap.size v w') : Calls Tryd.prog 6 #[.string S, .int .i64 i] w fun e w' => e = .returned (noPb) ∧ Below w.heap.size w w' := by
  have hbW : Below w.heap.size w (w.alloc (.cells #[.int .i64 0, .bool false, .int .i64 0, .string ByteArray.empty] 23)) := bel_alloc (Below.refl _ w) _
  have HX := hid (Blk.new w 23 #[.int .i64 0, .bool false, .int .i64 0, .string ByteArray.empty])
  have HR := hid (hR _ (hG.on hbW))
  unfold noBl errV at HR
  have HG := hid hG
  have HI := hid (fun v => c_isSame a0 v)
  unfold errV at HI
  clear hG hR
  go_enter Tryd.func6, Tryd.ntmps6
  go_wp2_with fail
  refine (HR.out).mono ?_
  rintro e w1 ⟨rfl, hb1⟩
  have hlw : w.heap.size < (w.alloc (.cells #[.int .i64 0, .bool false, .int .i64 0, .string ByteArray.empty] 23)).heap.size := by rw [World.size_alloc]; omega
  have hB1 := hbW.trans (hb1.mono hbW.size)
  have X1 := HX.out.below hb1 hlw
  have hz1 := X1.lt
  have hRB := Blk.new w1 23 #[.int .i64 0, .bool false, .int .i64 0, .string ByteArray.empty]
  obtain ⟨r0, r1, r2, r3⟩ := hRB.cells4y
  have f0 := hRB.frozen 0
  have f1 := hRB.frozen 1
  have f2 := hRB.frozen 2
  have f3 := hRB.frozen 3
  have hB2 := bel_alloc hB1 (.cells #[.int .i64 0, .bool false, .int .i64 0, .string ByteArray.empty] 23)
  have hgb := (HG.out.on hB2).broken
  unfold errV at hgb
  have Y0 := X1.alloc (.cells #[.int .i64 0, .bool false, .int .i64 0, .string ByteArray.empty] 23)
  have HY0 := hid Y0
  obtain ⟨e0, e1, e2, e3⟩ := Y0.cells4y
  obtain ⟨x0, x1, x2, x3⟩ := X1.cells4y
  have m0 := X1.frozen 0
  have m1 := X1.frozen 1
  have m2 := X1.frozen 2
  have m3 := X1.frozen 3
  have n0 := Y0.frozen 0
  have n1 := Y0.frozen 1
  have n2 := Y0.frozen 2
  have n3 := Y0.frozen 3
  have hne : ¬ (w.heap.size = w1.heap.size) := by omega
  clear hRB Y0 hb1 hlw
  go_wp2_with fail
  refine (HI.out _).mono ?_
  rintro e w9 ⟨rfl, hw9⟩
  rw [hw9]
  clear hw9
  go_wp2_with fail
  have HX1 := hid X1
  obtain ⟨Wz, hWz⟩ : ∃ Wz, Wz = ((((w1.setCell ⟨w.heap.size, 0, none⟩ (.int .i64 0)).setCell ⟨w.heap.size, 1, none⟩ (.bool false)).setCell ⟨w.heap.size, 2, none⟩ (.int .i64 0)).setCell ⟨w.heap.size, 3, none⟩ (.string ⟨#[]⟩)).alloc (.cells #[.int .i64 0, .bool false, .int .i64 0, .string ByteArray.empty] 23) := ⟨_, rfl⟩
  have K0 : Blk Wz w.heap.size 23 #[.int .i64 0, .bool false, .int .i64 0, .string ByteArray.empty] := by rw [hWz]; exact (HX1.out.put4y _ _ _ _).alloc _
  have KB : Below w.heap.size w Wz := by rw [hWz]; exact bel_alloc (bel_set4b hB1 (Nat.le_refl _) _ _ _ _) _
  rw [← hWz]
  clear hWz e0 e1 e2 e3 n0 n1 n2 n3 x0 x1 x2 x3 m0 m1 m2 m3 r0 r1 r2 r3 f0 f1 f2 f3
  obtain ⟨z0, z1, z2, z3⟩ := K0.cells4y
  exact bodyPost_ret (v := .tuple #[.agg #[.int .i64 0, .bool false, .int .i64 0, .string ByteArray.empty], .int .i64 0, .bool false]) (by simp [results, Tryd.results6, go_sem, z0, z1, z2, z3]) rfl ⟨rfl, KB⟩

set_option maxHeartbeats 4000000 in
set_option maxRecDepth 100000 in
theorem c_ParseBlock_yes (S : ByteArray) (i : Int) (b : Bl) (nx : Int) (w : World) (a0 : Addr) (hG : Glob0 w a0) (hR : ∀ v, Glob0 v a0 → Calls Tryd.prog 13 #[.string S, .int .i64 i] v fun e w' => e = .returned (.tuple #[.agg #[.int .i64 b.n, .bool b.raw, .int .i64 b.z, .string b.body], .int .i64 nx, .nilIface]) ∧ Below v.heap.size v w') : Calls Tryd.prog 6 #[.string S, .int .i64 i] w fun e w' => e = .returned (.tuple #[.agg #[.int .i64 b.n, .bool b.raw, .int .i64 b.z, .string b.body], .int .i64 nx, .bool true]) ∧ Below w.heap.size w w' := by
  have hbW : Below w.heap.size w (w.alloc (.cells #[.int .i64 0, .bool false, .int .i64 0, .string ByteArray.empty] 23)) := bel_alloc (Below.refl _ w) _
  have HX := hid (Blk.new w 23 #[.int .i64 0, .bool false, .int .i64 0, .string ByteArray.empty])
  have HR := hid (hR _ (hG.on hbW))
  have HR2 := HR.out
  have HG := hid hG
  have HI := hid (fun v => c_isNil a0 v)
  unfold errV at HI
  clear hG hR
  go_enter Tryd.func6, Tryd.ntmps6
  go_wp2_with fail
  refine (HR.out).mono ?_
  rintro e w1 ⟨rfl, hb1⟩
  have hlw : w.heap.size < (w.alloc (.cells #[.int .i64 0, .bool false, .int .i64 0, .string ByteArray.empty] 23)).heap.size := by rw [World.size_alloc]; omega
  have hB1 := hbW.trans (hb1.mono hbW.size)
  have X1 := HX.out.below hb1 hlw
  have hz1 := X1.lt
  have hRB := Blk.new w1 23 #[.int .i64 0, .bool false, .int .i64 0, .string ByteArray.empty]
  obtain ⟨r0, r1, r2, r3⟩ := hRB.cells4y
  have f0 := hRB.frozen 0
  have f1 := hRB.frozen 1
  have f2 := hRB.frozen 2
  have f3 := hRB.frozen 3
  have hB2 := bel_alloc hB1 (.cells #[.int .i64 b.n, .bool b.raw, .int .i64 b.z, .string b.body] 23)
  have hgb := (HG.out.on hB2).broken
  unfold errV at hgb
  have Y0 := X1.alloc (.cells #[.int .i64 b.n, .bool b.raw, .int .i64 b.z, .string b.body] 23)
  have HY0 := hid Y0
  obtain ⟨e0, e1, e2, e3⟩ := Y0.cells4y
  obtain ⟨x0, x1, x2, x3⟩ := X1.cells4y
  have m0 := X1.frozen 0
  have m1 := X1.frozen 1
  have m2 := X1.frozen 2
  have m3 := X1.frozen 3
  have n0 := Y0.frozen 0
  have n1 := Y0.frozen 1
  have n2 := Y0.frozen 2
  have n3 := Y0.frozen 3
  have hne : ¬ (w.heap.size = w1.heap.size) := by omega
  clear hRB Y0 hb1 hlw
  go_wp2_with fail
  refine (HI.out _).mono ?_
  rintro e w9 ⟨rfl, hw9⟩
  rw [hw9]
  clear hw9
  go_wp2_with fail
  have HX1 := hid X1
  obtain ⟨Wz, hWz⟩ : ∃ Wz, Wz = ((((w1.setCell ⟨w.heap.size, 0, none⟩ (.int .i64 b.n)).setCell ⟨w.heap.size, 1, none⟩ (.bool b.raw)).setCell ⟨w.heap.size, 2, none⟩ (.int .i64 b.z)).setCell ⟨w.heap.size, 3, none⟩ (.string b.body)).alloc (.cells #[.int .i64 b.n, .bool b.raw, .int .i64 b.z, .string b.body] 23) := ⟨_, rfl⟩
  have K0 : Blk Wz w.heap.size 23 #[.int .i64 b.n, .bool b.raw, .int .i64 b.z, .string b.body] := by rw [hWz]; exact (HX1.out.put4y _ _ _ _).alloc _
  have KB : Below w.heap.size w Wz := by rw [hWz]; exact bel_alloc (bel_set4b hB1 (Nat.le_refl _) _ _ _ _) _
  rw [← hWz]
  clear hWz e0 e1 e2 e3 n0 n1 n2 n3 x0 x1 x2 x3 m0 m1 m2 m3 r0 r1 r2 r3 f0 f1 f2 f3
  obtain ⟨z0, z1, z2, z3⟩ := K0.cells4y
  exact bodyPost_ret (v := .tuple #[.agg #[.int .i64 b.n, .bool b.raw, .int .i64 b.z, .string b.body], .int .i64 nx, .bool true]) (by simp [results, Tryd.results6, go_sem, z0, z1, z2, z3]) rfl ⟨rfl, KB⟩

theorem c_eqBlk (a z : Int) (r : Bool) (d : ByteArray) (w : World) : Calls Tryd.prog 7 #[.agg #[.int .i64 a, .bool r, .int .i64 z, .string d], .agg #[.int .i64 a, .bool r, .int .i64 z, .string d]] w fun e w' => e = .returned (.bool true) ∧ Below w.heap.size w w' := by
  go_enter Tryd.func7, Tryd.ntmps7
  go_wp2
  go_ret
  exact ⟨rfl, by (repeat (first | with_reducible (first | assumption | exact Below.refl _ _ | refine bel_alloc ?_ _ | refine bel_drew ?_ | refine bel_drewN ?_ _ | refine bel_set ?_ (by first | omega | (simp; done) | (simp; omega)) _ | refine bel_trans ?_ (by assumption)) | assumption | refine bel_trans ?_ (by assumption)))⟩

set_option maxHeartbeats 4000000 in
set_option maxRecDepth 100000 in
theorem walk_FnExactParseBlock (S : ByteArray) (x : Int) (w : World) (h_S : S.size ≤ maxLen) (h_x : -9223372036854775808 ≤ x ∧ x ≤ 9223372036854775807) {a0 : Addr} (hG : Glob0 w a0) :
    Calls Tryd.prog 3 #[.string S, .int .i64 x] w fun e w' => e = .returned (.bool true) ∧ Below w.heap.size w w' := by
  by_cases big : 1048576 < S.size
  · unfold maxLen at *
    go_enter Tryd.func3, Tryd.ntmps3
    go_wp2_with fail
    go_ret
    exact ⟨rfl, by (repeat (first | with_reducible (first | assumption | exact Below.refl _ _ | refine bel_alloc ?_ _ | refine bel_drew ?_ | refine bel_drewN ?_ _ | refine bel_set ?_ (by first | omega | (simp; done) | (simp; omega)) _ | refine bel_trans ?_ (by assumption)) | assumption | refine bel_trans ?_ (by assumption)))⟩
  have key : ∃ (n0 : Int) (r0 : Bool) (z0 : Int) (d0 : ByteArray) (nx : Int) (q : Bool), (∀ v, Calls Tryd.prog 5 #[.string S, .int .i64 x] v fun e w' => e = .returned (.tuple #[.agg #[.int .i64 n0, .bool r0, .int .i64 z0, .string d0], .int .i64 nx, .bool q]) ∧ Below v.heap.size v w') ∧ (∀ v, Glob0 v a0 → Calls Tryd.prog 6 #[.string S, .int .i64 x] v fun e w' => e = .returned (.tuple #[.agg #[.int .i64 n0, .bool r0, .int .i64 z0, .string d0], .int .i64 nx, .bool q]) ∧ Below v.heap.size v w') := by
    by_cases hx : x < 0 ∨ (S.size : Int) < x
    · exact ⟨0, false, 0, ByteArray.empty, 0, false, fun v => c_ParseBlock_out S x v (by omega) h_x hx, fun v hG => c_ParseBlock_no S x v a0 hG (fun u hu => c_readBlock_out S x u a0 a0 a0 h_S h_x hu hx)⟩
    · obtain ⟨n, rfl⟩ := Int.eq_ofNat_of_zero_le (show 0 ≤ x by omega)
      have hn : n ≤ S.size := by omega
      cases hp : parse (S.data.toList.drop n) with
      | none => exact ⟨0, false, 0, ByteArray.empty, 0, false, fun v => c_PB_none S n _ v (by omega) hn rfl hp, fun v hG => c_ParseBlock_no S (n : Int) v a0 hG (fun u hu => c_RB0_none S n _ u a0 a0 a0 (by omega) hn rfl hu hp)⟩
      | some b => exact ⟨b.n, b.raw, b.z, b.body, _, true, fun v => c_PB_some S n _ b v (by omega) hn rfl hp, fun v hG => c_ParseBlock_yes S (n : Int) b _ v a0 hG (fun u hu => c_RB0_some S n _ b u a0 a0 a0 (by omega) hn rfl hu hp)⟩
  obtain ⟨n0, r0, z0, d0, nx, q, k1, k2⟩ := key
  have HS := hid k1
  have HI := hid k2
  have HG := hid hG
  have HE := hid (fun v => c_eqBlk n0 z0 r0 d0 v)
  clear k1 k2 hG
  go_enter Tryd.func3, Tryd.ntmps3
  go_wp2_with fail
  refine (HS.out _).mono ?_
  rintro e w1 ⟨rfl, hb1⟩
  have hRB := Blk.new w1 23 #[.int .i64 0, .bool false, .int .i64 0, .string ByteArray.empty]
  obtain ⟨s0, s1, s2, s3⟩ := hRB.cells4y
  have f0 := hRB.frozen 0
  have f1 := hRB.frozen 1
  have f2 := hRB.frozen 2
  have f3 := hRB.frozen 3
  clear hRB
  go_wp2_with fail
  clear s0 s1 s2 s3 f0 f1 f2 f3
  have hB1 := bel_alloc hb1 (.cells #[.int .i64 n0, .bool r0, .int .i64 z0, .string d0] 23)
  have X1 := Blk.new w1 23 #[.int .i64 n0, .bool r0, .int .i64 z0, .string d0]
  obtain ⟨V1, hV1⟩ : ∃ V1, V1 = w1.alloc (.cells #[.int .i64 n0, .bool r0, .int .i64 z0, .string d0] 23) := ⟨_, rfl⟩
  have hz1 : w1.heap.size < V1.heap.size := by rw [hV1, World.size_alloc]; omega
  rw [← hV1] at hB1 X1 ⊢
  clear hV1 hb1
  refine (HI.out _ (HG.out.on hB1)).mono ?_
  rintro e w2 ⟨rfl, hb2⟩
  have X2 := X1.below hb2 hz1
  have hRB := Blk.new w2 23 #[.int .i64 0, .bool false, .int .i64 0, .string ByteArray.empty]
  obtain ⟨s0, s1, s2, s3⟩ := hRB.cells4y
  have f0 := hRB.frozen 0
  have f1 := hRB.frozen 1
  have f2 := hRB.frozen 2
  have f3 := hRB.frozen 3
  have Y2 := X2.alloc (.cells #[.int .i64 n0, .bool r0, .int .i64 z0, .string d0] 23)
  have HY2 := hid Y2
  have HZ2 := hid (Blk.new w2 23 #[.int .i64 n0, .bool r0, .int .i64 z0, .string d0])
  have hB2 := bel_alloc (hB1.trans (hb2.mono hB1.size)) (.cells #[.int .i64 n0, .bool r0, .int .i64 z0, .string d0] 23)
  obtain ⟨x0, x1, x2, x3⟩ := X2.cells4y
  obtain ⟨y0, y1, y2, y3⟩ := Y2.cells4y
  have hzz : w1.heap.size < w2.heap.size := by have := hb2.size; omega
  clear hRB hb2 X1 X2 Y2
  go_wp2_with fail
  refine (HE.out _).mono ?_
  rintro e w3 ⟨rfl, hb3⟩
  go_wp2_with fail
  go_ret
  exact ⟨rfl, hB2.trans (hb3.mono hB2.size)⟩
end Go.Proofs.YtepbjmpbcobfpabDoor
