/- readBlock by what stands at an index; readNext in the program, where it refuses. The layout of the header and the errors are as the program's text lays them. -/
import Derived.Test.YtepbjmpbcobfpaaDoorRk
import Derived.Test.YtepbjmpbcobfpaaDoorYb
namespace Go.Proofs.YtepbjmpbcobfpaaDoor
open Go.ChangeShapes Go.WideShapes Go.ChangeAt Go.RowKit Go.Joins
set_option linter.unusedVariables false
set_option linter.unusedSimpArgs false

theorem c_RB0_some (S : ByteArray) (A : Nat) (T : List UInt8) (b : Bl) (w : World) (a0 a1 a2 : Addr) (hS : S.size ≤ 1000000000000) (hA : A ≤ S.size) (hT : T = S.data.toList.drop A) (hG : Glob0 w a0) (h : parse T = some b) : Calls Tryd.prog 32 #[.string S, .int .i64 (A : Int)] w fun e w' => e = .returned (.tuple #[.agg #[.int .i64 b.n, .bool b.raw, .int .i64 b.z, .string b.body], .int .i64 ((A : Int) + 10 + b.body.size), .nilIface]) ∧ Below w.heap.size w w' := by
  obtain ⟨rfl, h1, h2, h3, h4⟩ := parse_some h
  exact c_readBlock_x3 S A T w a0 a1 a2 hS hA hT hG h1 h2 h3 h4

theorem c_RB0_none (S : ByteArray) (A : Nat) (T : List UInt8) (w : World) (a0 a1 a2 : Addr) (hS : S.size ≤ 1000000000000) (hA : A ≤ S.size) (hT : T = S.data.toList.drop A) (hG : Glob0 w a0) (h : parse T = none) : Calls Tryd.prog 32 #[.string S, .int .i64 (A : Int)] w fun e w' => e = .returned (noBl a0) ∧ Below w.heap.size w w' := by
  have hno := parse_none h
  by_cases h1 : hdOk T
  · by_cases h3 : T.length < 10 + pat2 T 6
    · exact c_readBlock_no2 S A T w a0 a1 a2 hS hA hT hG h1 h3
    · by_cases h4 : (brd T).ok
      · by_cases h5 : (brd T).text = T.take (10 + pat2 T 6)
        · exact absurd ⟨h1, by omega, h4, h5⟩ hno
        · exact c_readBlock_x2 S A T w a0 a1 a2 hS hA hT hG h1 (by omega) h4 h5
      · exact c_readBlock_x1 S A T w a0 a1 a2 hS hA hT hG h1 (by omega) h4
  · exact c_readBlock_no1 S A T w a0 a1 a2 hS hA hT hG h1

theorem c_RB_some (S : ByteArray) (A : Nat) (T : List UInt8) (b : Bl) (w : World) (a0 a1 a2 : Addr) (hS : S.size ≤ 1000000000000) (hA : A ≤ S.size) (hT : T = S.data.toList.drop A) (hG : Glob w a0 a1 a2) (h : parse T = some b) : Calls Tryd.prog 32 #[.string S, .int .i64 (A : Int)] w fun e w' => e = .returned (.tuple #[.agg #[.int .i64 b.n, .bool b.raw, .int .i64 b.z, .string b.body], .int .i64 ((A : Int) + 10 + b.body.size), .nilIface]) ∧ Below w.heap.size w w' :=
  c_RB0_some S A T b w a0 a1 a2 hS hA hT hG.g0 h

theorem c_RB_none (S : ByteArray) (A : Nat) (T : List UInt8) (w : World) (a0 a1 a2 : Addr) (hS : S.size ≤ 1000000000000) (hA : A ≤ S.size) (hT : T = S.data.toList.drop A) (hG : Glob w a0 a1 a2) (h : parse T = none) : Calls Tryd.prog 32 #[.string S, .int .i64 (A : Int)] w fun e w' => e = .returned (noBl a0) ∧ Below w.heap.size w w' :=
  c_RB0_none S A T w a0 a1 a2 hS hA hT hG.g0 h

set_option maxHeartbeats 4000000 in
set_option maxRecDepth 100000 in
theorem c_readNext_none (S : ByteArray) (a z cb : Nat) (v1 v2 : Value) (w : World) (a0 a1 a2 : Addr) (hS : S.size ≤ 1000000000000) (ha : a ≤ S.size) (hG : Glob w a0 a1 a2) (hC : Blk w cb 54 #[v1, v2, .int .i64 (a : Int), .int .i64 (z : Int)]) (h : parse (S.data.toList.drop a) = none) : Calls Tryd.prog 45 #[.pointer (some ⟨cb, 0, none⟩), .string S] w fun e w' => e = .returned (errV a0) ∧ Below w.heap.size w w' := by
  have HR := hid (c_RB_none S a _ w a0 a1 a2 hS ha rfl hG h)
  obtain ⟨c0, c1, c2, c3⟩ := hC.cells4y
  clear hC hG h
  go_enter Tryd.func45, Tryd.ntmps45
  go_wp2_with fail
  refine (HR.out).mono ?_
  rintro e w1 ⟨rfl, hb1⟩
  clear c0 c1 c2 c3
  unfold noBl errV
  go_wp2_with fail
  go_ret
  exact ⟨rfl, by (repeat (first | with_reducible (first | assumption | exact Below.refl _ _ | refine bel_alloc ?_ _ | refine bel_drew ?_ | refine bel_drewN ?_ _ | refine bel_set ?_ (by first | omega | (simp; done) | (simp; omega)) _ | refine bel_trans ?_ (by assumption)) | assumption | refine bel_trans ?_ (by assumption)))⟩

set_option maxHeartbeats 4000000 in
set_option maxRecDepth 100000 in
theorem c_readNext_num (S : ByteArray) (a z cb k c1 : Nat) (A1 : Option Addr) (v2 : Value) (b : Bl) (w : World) (a0 a1 a2 : Addr) (hS : S.size ≤ 1000000000000) (ha : a ≤ S.size) (hG : Glob w a0 a1 a2) (hC : Blk w cb 54 #[.slice A1 k c1, v2, .int .i64 (a : Int), .int .i64 (z : Int)]) (h : parse (S.data.toList.drop a) = some b) (hk : k ≤ 1000000) (hn : b.n ≠ (k : Int)) : Calls Tryd.prog 45 #[.pointer (some ⟨cb, 0, none⟩), .string S] w fun e w' => e = .returned (errV a1) ∧ Below w.heap.size w w' := by
  have HR := hid (c_RB_some S a _ b w a0 a1 a2 hS ha rfl hG h)
  have hbo := parse_len h
  have hbn := hbo.1.1
  have hbz := hbo.1.2.1
  have hbt := hbo.2.1
  rw [List.length_drop] at hbt
  have hSl : S.data.toList.length = S.size := by simp
  rw [hSl] at hbt
  have HG := hid hG
  have HC := hid hC
  obtain ⟨c0, c1', c2, c3⟩ := hC.cells4y
  obtain ⟨nb, hnb⟩ : ∃ nb, nb = b.n := ⟨_, rfl⟩
  rw [← hnb] at HR hn hbn
  have hnk : (nb != (k : Int)) = true := by simpa using hn
  clear hC hG h hbo hSl hnb hn
  go_enter Tryd.func45, Tryd.ntmps45
  go_wp2_with fail
  refine (HR.out).mono ?_
  rintro e w1 ⟨rfl, hb1⟩
  replace HC := hid (HC.out.on hb1)
  replace HG := hid (HG.out.on hb1)
  have hlc := HC.out.lt
  clear c0 c1' c2 c3
  have hB := Blk.new w1 35 #[.int .i64 nb, .bool b.raw, .int .i64 b.z, .string b.body]
  obtain ⟨d0, d1, d2, d3⟩ := hB.cells4y
  have hC2 := HC.out.alloc (.cells #[.int .i64 nb, .bool b.raw, .int .i64 b.z, .string b.body] 35)
  obtain ⟨c0, c1', c2, c3⟩ := hC2.cells4y
  have hgn := (HG.out.on (bel_alloc (Below.refl _ w1) (.cells #[.int .i64 nb, .bool b.raw, .int .i64 b.z, .string b.body] 35))).number
  clear hB hC2
  go_wp2_with fail
  go_quiet (fail)
  go_wp2_with fail
  go_ret
  exact ⟨rfl, by (repeat (first | with_reducible (first | assumption | exact Below.refl _ _ | refine bel_alloc ?_ _ | refine bel_drew ?_ | refine bel_drewN ?_ _ | refine bel_set ?_ (by first | omega | (simp; done) | (simp; omega)) _ | refine bel_trans ?_ (by assumption)) | assumption | refine bel_trans ?_ (by assumption)))⟩

set_option maxHeartbeats 4000000 in
set_option maxRecDepth 100000 in
theorem c_readNext_long (S : ByteArray) (a z cb k c1 : Nat) (A1 : Option Addr) (v2 : Value) (b : Bl) (w : World) (a0 a1 a2 : Addr) (hS : S.size ≤ 1000000000000) (ha : a ≤ S.size) (hG : Glob w a0 a1 a2) (hC : Blk w cb 54 #[.slice A1 k c1, v2, .int .i64 (a : Int), .int .i64 (z : Int)]) (h : parse (S.data.toList.drop a) = some b) (hk : k ≤ 1000000) (hn : b.n = (k : Int)) (hz : z ≤ 2000) (hl : 2000 < z + b.z.toNat) : Calls Tryd.prog 45 #[.pointer (some ⟨cb, 0, none⟩), .string S] w fun e w' => e = .returned (errV a2) ∧ Below w.heap.size w w' := by
  have HR := hid (c_RB_some S a _ b w a0 a1 a2 hS ha rfl hG h)
  have hbo := parse_len h
  have hbn := hbo.1.1
  have hbz := hbo.1.2.1
  have hbt := hbo.2.1
  rw [List.length_drop] at hbt
  have hSl : S.data.toList.length = S.size := by simp
  rw [hSl] at hbt
  have HG := hid hG
  have HC := hid hC
  obtain ⟨c0, c1', c2, c3⟩ := hC.cells4y
  obtain ⟨nb, hnb⟩ : ∃ nb, nb = b.n := ⟨_, rfl⟩
  obtain ⟨zb, hzb⟩ : ∃ zb, zb = b.z := ⟨_, rfl⟩
  rw [← hnb] at hn hbn
  rw [← hzb] at hbz hl
  rw [← hnb, ← hzb] at HR
  have hnk : (nb != (k : Int)) = false := by simp [hn]
  have hld : decide ((2000 : Int) < (z : Int) + zb) = true := decide_eq_true (by omega)
  clear hC hG h hbo hSl hnb hn hl hzb
  go_enter Tryd.func45, Tryd.ntmps45
  go_wp2_with fail
  refine (HR.out).mono ?_
  rintro e w1 ⟨rfl, hb1⟩
  replace HC := hid (HC.out.on hb1)
  replace HG := hid (HG.out.on hb1)
  have hlc := HC.out.lt
  clear c0 c1' c2 c3
  have hB := Blk.new w1 35 #[.int .i64 nb, .bool b.raw, .int .i64 zb, .string b.body]
  obtain ⟨d0, d1, d2, d3⟩ := hB.cells4y
  have hC2 := HC.out.alloc (.cells #[.int .i64 nb, .bool b.raw, .int .i64 zb, .string b.body] 35)
  obtain ⟨c0, c1', c2, c3⟩ := hC2.cells4y
  have hgn := (HG.out.on (bel_alloc (Below.refl _ w1) (.cells #[.int .i64 nb, .bool b.raw, .int .i64 zb, .string b.body] 35))).long
  clear hB hC2
  go_wp2_with fail
  go_quiet (fail)
  go_wp2_with fail
  go_quiet (fail)
  go_wp2_with fail
  go_ret
  exact ⟨rfl, by (repeat (first | with_reducible (first | assumption | exact Below.refl _ _ | refine bel_alloc ?_ _ | refine bel_drew ?_ | refine bel_drewN ?_ _ | refine bel_set ?_ (by first | omega | (simp; done) | (simp; omega)) _ | refine bel_trans ?_ (by assumption)) | assumption | refine bel_trans ?_ (by assumption)))⟩
end Go.Proofs.YtepbjmpbcobfpaaDoor
