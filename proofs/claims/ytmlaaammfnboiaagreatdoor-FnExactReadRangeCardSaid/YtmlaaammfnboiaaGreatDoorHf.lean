/- ReadRange in both programs, and its law's walk. The layout of the header and the errors are as the program's text lays them. -/
import Derived.Test.YtmlaaammfnboiaaGreatDoorHd
namespace Go.Proofs.YtmlaaammfnboiaaGreatDoor
open Go.ChangeShapes Go.WideShapes Go.ChangeAt Go.RowKit Go.Joins
set_option linter.unusedVariables false
set_option linter.unusedSimpArgs false

/-- ReadRange's answer, of the data -/
def rrOf (r : Option ByteArray) (x y : Int) : Option ByteArray := match r with | none => none | some d => if (0 ≤ x ∧ x ≤ y) ∧ y ≤ (d.size : Int) then some (d.extract x.toNat y.toNat) else none
theorem rr_no (d : ByteArray) (x y : Int) (h : ¬ ((0 ≤ x ∧ x ≤ y) ∧ y ≤ (d.size : Int))) : rrOf (some d) x y = none := by simp only [rrOf]; rw [if_neg h]
theorem rr_yes (d : ByteArray) (x y : Int) (h : (0 ≤ x ∧ x ≤ y) ∧ y ≤ (d.size : Int)) : rrOf (some d) x y = some (d.extract x.toNat y.toNat) := by simp only [rrOf]; rw [if_pos h]

section
variable (o l m : Int) (dict S : ByteArray) (R : Option ByteArray) (x y : Int) (w : World)

set_option maxHeartbeats 4000000 in
set_option maxRecDepth 100000 in
theorem c_sReadRange (HC : Hid (∀ v, Calls Tryz.prog 21 #[.agg #[.int .i64 o, .int .i64 l, .int .i64 m], .string dict, .string S] v fun e w' => e = .returned (optV R) ∧ Below v.heap.size v w')) : Calls Tryz.prog 23 #[.agg #[.int .i64 o, .int .i64 l, .int .i64 m], .string dict, .string S, .int .i64 x, .int .i64 y] w fun e w' => e = .returned (optV (rrOf R x y)) ∧ Below w.heap.size w w' := by
 have hB0 : Below w.heap.size w (w.alloc (.cells #[.int .i64 o, .int .i64 l, .int .i64 m] 28)) := bel_alloc (Below.refl _ w) _
 have kS := Blk.new w 28 #[.int .i64 o, .int .i64 l, .int .i64 m]
 obtain ⟨y0, y1, y2⟩ := kS.cells3
 clear kS
 cases R with
 | none =>
  simp only [optV, rrOf] at HC ⊢
  go_enter Tryz.func23, Tryz.ntmps23
  go_wp2_with fail
  refine (HC.out _).mono ?_
  rintro e w1 ⟨rfl, hb1⟩
  have hB1 := hB0.trans (hb1.mono hB0.size)
  go_wp2_with fail
  go_ret2
  exact ⟨rfl, hB1⟩
 | some d =>
  have H1 := hid (fun v => c_l1In x 0 y v)
  have H2 := hid (fun v => c_l1In y 0 (d.size : Nat) v)
  cases h1 : inB x 0 y with
  | false =>
   rw [rr_no d x y (fun h => by rw [inB_iff.2 h.1] at h1; cases h1)]
   rw [h1] at H1
   simp only [optV] at HC ⊢
   clear h1
   go_enter Tryz.func23, Tryz.ntmps23
   go_wp2_with fail
   refine (HC.out _).mono ?_
   rintro e w1 ⟨rfl, hb1⟩
   have hB1 := hB0.trans (hb1.mono hB0.size)
   go_wp2_with fail
   refine (H1.out _).mono ?_
   rintro e w2 ⟨rfl, rfl⟩
   go_wp2_with fail
   go_ret2
   exact ⟨rfl, hB1⟩
  | true =>
  have hx := inB_iff.1 h1
  cases h2 : inB y 0 d.size with
  | false =>
   rw [rr_no d x y (fun h => by rw [inB_iff.2 (by omega)] at h2; cases h2)]
   rw [h1] at H1
   rw [h2] at H2
   simp only [optV] at HC ⊢
   clear h1 h2
   go_enter Tryz.func23, Tryz.ntmps23
   go_wp2_with fail
   refine (HC.out _).mono ?_
   rintro e w1 ⟨rfl, hb1⟩
   have hB1 := hB0.trans (hb1.mono hB0.size)
   go_wp2_with fail
   refine (H1.out _).mono ?_
   rintro e w2 ⟨rfl, rfl⟩
   go_wp2_with fail
   refine (H2.out _).mono ?_
   rintro e w2 ⟨rfl, rfl⟩
   go_wp2_with fail
   go_ret2
   exact ⟨rfl, hB1⟩
  | true =>
   have hy := inB_iff.1 h2
   rw [rr_yes d x y ⟨hx, hy.2⟩]
   rw [h1] at H1
   rw [h2] at H2
   obtain ⟨xn, rfl⟩ := Int.eq_ofNat_of_zero_le hx.1
   obtain ⟨yn, rfl⟩ := Int.eq_ofNat_of_zero_le hy.1
   obtain ⟨E, hE⟩ : ∃ E, E = d.extract (xn : Int).toNat (yn : Int).toNat := ⟨_, rfl⟩
   rw [← hE]
   have HE := hid hE
   have hx2 : (xn : Int) ≤ (yn : Int) := hx.2
   have hy2 : (yn : Int) ≤ (d.size : Int) := hy.2
   simp only [optV] at HC ⊢
   clear h1 h2 hE hx hy
   go_enter Tryz.func23, Tryz.ntmps23
   go_wp2_with fail
   refine (HC.out _).mono ?_
   rintro e w1 ⟨rfl, hb1⟩
   have hB1 := hB0.trans (hb1.mono hB0.size)
   go_wp2_with fail
   refine (H1.out _).mono ?_
   rintro e w2 ⟨rfl, rfl⟩
   go_wp2_with fail
   refine (H2.out _).mono ?_
   rintro e w2 ⟨rfl, rfl⟩
   go_wp2_with fail
   go_ret2
   exact ⟨by rw [HE.out]; rfl, hB1⟩

set_option maxHeartbeats 4000000 in
set_option maxRecDepth 100000 in
theorem c_ReadRange (HC : Hid (∀ v, Below w.heap.size w v → Calls Tryz.prog 22 #[.agg #[.int .i64 o, .int .i64 l, .int .i64 m], .string dict, .string S] v fun e w' => e = .returned (optV R) ∧ Below v.heap.size v w')) : Calls Tryz.prog 24 #[.agg #[.int .i64 o, .int .i64 l, .int .i64 m], .string dict, .string S, .int .i64 x, .int .i64 y] w fun e w' => e = .returned (optV (rrOf R x y)) ∧ Below w.heap.size w w' := by
 have hB0 : Below w.heap.size w (w.alloc (.cells #[.int .i64 o, .int .i64 l, .int .i64 m] 28)) := bel_alloc (Below.refl _ w) _
 have kS := Blk.new w 28 #[.int .i64 o, .int .i64 l, .int .i64 m]
 obtain ⟨y0, y1, y2⟩ := kS.cells3
 clear kS
 cases R with
 | none =>
  simp only [optV, rrOf] at HC ⊢
  go_enter Tryz.func24, Tryz.ntmps24
  go_wp2_with fail
  refine (HC.out _ hB0).mono ?_
  rintro e w1 ⟨rfl, hb1⟩
  have hB1 := hB0.trans (hb1.mono hB0.size)
  go_wp2_with fail
  go_ret2
  exact ⟨rfl, hB1⟩
 | some d =>
  by_cases hok : (0 ≤ x ∧ x ≤ y) ∧ y ≤ (d.size : Int)
  ·rw [rr_yes d x y hok]
   obtain ⟨xn, rfl⟩ := Int.eq_ofNat_of_zero_le hok.1.1
   obtain ⟨yn, rfl⟩ := Int.eq_ofNat_of_zero_le (Int.le_trans hok.1.1 hok.1.2)
   obtain ⟨E, hE⟩ : ∃ E, E = d.extract (xn : Int).toNat (yn : Int).toNat := ⟨_, rfl⟩
   rw [← hE]
   have HE := hid hE
   have g1 : ((xn : Int) < 0) = False := by simp
   have g2 : decide ((yn : Int) < (xn : Int)) = false := decide_eq_false (by omega)
   have g3 : decide ((d.size : Int) < (yn : Int)) = false := decide_eq_false (by omega)
   have hx2 : (xn : Int) ≤ (yn : Int) := hok.1.2
   have hy2 : (yn : Int) ≤ (d.size : Int) := hok.2
   simp only [optV] at HC ⊢
   clear hE hok g1
   go_enter Tryz.func24, Tryz.ntmps24
   go_wp2_with fail
   refine (HC.out _ hB0).mono ?_
   rintro e w1 ⟨rfl, hb1⟩
   have hB1 := hB0.trans (hb1.mono hB0.size)
   go_wp2_with fail
   go_ret2
   exact ⟨by rw [HE.out]; rfl, hB1⟩
  ·rw [rr_no d x y hok]
   simp only [optV] at HC ⊢
   by_cases h1 : x < 0
   ·clear hok
    go_enter Tryz.func24, Tryz.ntmps24
    go_wp2_with fail
    refine (HC.out _ hB0).mono ?_
    rintro e w1 ⟨rfl, hb1⟩
    have hB1 := hB0.trans (hb1.mono hB0.size)
    go_wp2_with fail
    go_ret2
    exact ⟨rfl, hB1⟩
   ·by_cases h2 : y < x
    ·clear hok
     go_enter Tryz.func24, Tryz.ntmps24
     go_wp2_with fail
     refine (HC.out _ hB0).mono ?_
     rintro e w1 ⟨rfl, hb1⟩
     have hB1 := hB0.trans (hb1.mono hB0.size)
     go_wp2_with fail
     go_ret2
     exact ⟨rfl, hB1⟩
    ·have h3 : (d.size : Int) < y := by omega
     clear hok
     go_enter Tryz.func24, Tryz.ntmps24
     go_wp2_with fail
     refine (HC.out _ hB0).mono ?_
     rintro e w1 ⟨rfl, hb1⟩
     have hB1 := hB0.trans (hb1.mono hB0.size)
     go_wp2_with fail
     go_ret2
     exact ⟨rfl, hB1⟩
end

set_option maxHeartbeats 4000000 in
set_option maxRecDepth 100000 in
theorem walk_FnExactReadRange (o l m : Int) (dict S : ByteArray) (x y : Int) (w : World) (h_o : -9223372036854775808 ≤ o ∧ o ≤ 9223372036854775807) (h_l : -9223372036854775808 ≤ l ∧ l ≤ 9223372036854775807) (h_m : -9223372036854775808 ≤ m ∧ m ≤ 9223372036854775807) (hs : dict.size ≤ maxLen) (hS : S.size ≤ maxLen) (h_x : -9223372036854775808 ≤ x ∧ x ≤ 9223372036854775807) (h_y : -9223372036854775808 ≤ y ∧ y ≤ 9223372036854775807) {a0 a1 a2 : Addr} (hG : Glob w a0 a1 a2) :
  Calls Tryz.prog 7 #[.agg #[.int .i64 o, .int .i64 l, .int .i64 m], .string dict, .string S, .int .i64 x, .int .i64 y] w fun e w' => e = .returned (.bool true) ∧ Below w.heap.size w w' := by
 by_cases b1 : 1048576 < dict.size
 ·unfold maxLen at *
  go_enter Tryz.func7, Tryz.ntmps7
  go_wp2_with fail
  go_ret
  exact ⟨rfl, by exact obB⟩
 by_cases b2 : 1048576 < S.size
 ·unfold maxLen at *
  go_enter Tryz.func7, Tryz.ntmps7
  go_wp2_with fail
  go_ret
  exact ⟨rfl, by exact obB⟩
 obtain ⟨bs, c, hst⟩ := stop_ex S.data.toList
 have HS0 := (fun v => c_sReadRange o l m dict S _ x y v (hid (fun v => c_sContainerData o l m dict S _ bs c v hs (by omega) rfl hst)))
 have HI0 := (fun v (hG : Glob v a0 a1 a2) => c_ReadRange o l m dict S _ x y v (hid (fun v2 hb => c_ContainerData o l m dict S _ bs c v2 hs (by omega) rfl hst (hG.on hb))))
 obtain ⟨X, q, hV⟩ := optV_ex (rrOf (cdRes o l m dict bs c) x y)
 rw [hV] at HS0 HI0
 have HS := hid HS0
 have HI := hid HI0
 have HT := hid (fun (v : World) => c_toSetting o l m v)
 have HGl := hid (fun (v : World) (hb : Below w.heap.size w v) => hG.on hb)
 clear HS0 HI0 hV hst hG
 have hle1 : dict.size ≤ 1048576 := by omega
 have hle2 : S.size ≤ 1048576 := by omega
 have hB0 : Below w.heap.size w (w.alloc (.cells #[.int .i64 o, .int .i64 l, .int .i64 m] 23)) := bel_alloc (Below.refl _ w) _
 have kS := Blk.new w 23 #[.int .i64 o, .int .i64 l, .int .i64 m]
 obtain ⟨y0, y1, y2⟩ := kS.cells3
 clear b1 b2 hs hS
 go_enter Tryz.func7, Tryz.ntmps7
 go_wp2_with fail
 refine (HT.out _).mono ?_
 rintro e w1 ⟨rfl, hb1⟩
 have hB1 := hB0.trans (hb1.mono hB0.size)
 have kS1 := kS.on hb1
 clear y0 y1 y2 hb1 hB0 kS
 go_wp2_with fail
 refine (HS.out _).mono ?_
 rintro e w2 ⟨rfl, hb2⟩
 have hB2 := hB1.trans (hb2.mono hB1.size)
 have kS2 := kS1.on hb2
 obtain ⟨y0, y1, y2⟩ := kS2.cells3
 clear hb2 hB1 kS1
 go_wp2_with fail
 refine (HT.out _).mono ?_
 rintro e w3 ⟨rfl, hb3⟩
 have hB3 := hB2.trans (hb3.mono hB2.size)
 clear y0 y1 y2 hb3 hB2 kS2
 go_wp2_with fail
 refine (HI.out _ (HGl.out _ hB3)).mono ?_
 rintro e w4 ⟨rfl, hb4⟩
 have hB4 := hB3.trans (hb4.mono hB3.size)
 go_wp2_with fail
 go_ret
 exact ⟨rfl, hB4⟩
end Go.Proofs.YtmlaaammfnboiaaGreatDoor
