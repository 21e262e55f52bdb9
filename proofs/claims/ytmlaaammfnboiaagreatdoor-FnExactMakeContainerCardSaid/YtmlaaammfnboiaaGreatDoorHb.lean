/- Blocks of data: what a block holds by what is known, and what data a block gives; the contracts in both programs. No condition but that the numbers are int's. -/
import Derived.Test.YtmlaaammfnboiaaGreatDoorUa
import Derived.Test.YtmlaaammfnboiaaGreatDoorWdw
import Derived.Test.YtmlaaammfnboiaaGreatDoorUb
import Derived.Test.YtmlaaammfnboiaaGreatDoorQy
namespace Go.Proofs.YtmlaaammfnboiaaGreatDoor
open Go.ChangeShapes Go.WideShapes Go.ChangeAt Go.RowKit Go.Joins
set_option linter.unusedVariables false
set_option linter.unusedSimpArgs false

theorem begun_ok {o l m : Int} (hset : setOk o l m = true) : (begun o l m).Ok := by
  obtain ⟨s1, ⟨s2, s3⟩, s4, s5⟩ := setOk_iff.1 hset
  refine ⟨hset, ?_, fun i p hp => by simp [begun] at hp, Int.le_refl _, by simp [begun], .inr ⟨rfl, rfl⟩⟩
  have e1 : ∀ a : Int, 0 ≤ a → pow2 a = ((2 ^ a.toNat : Nat) : Int) := fun a _ => by simp [pow2]
  have hm : (2 : Nat) ^ (l.toNat + 2) ≤ 2 ^ m.toNat := Nat.pow_le_pow_right (by omega) (by omega)
  have hl : (2 : Nat) ^ 1 ≤ 2 ^ l.toNat := Nat.pow_le_pow_right (by omega) (by omega)
  rw [Nat.pow_add] at hm
  show ((0 : Nat) : Int) ≤ pow2 m - 1 - (pow2 l + 1)
  rw [e1 _ (by omega), e1 _ (by omega)]
  omega
theorem fits_begun (o l m : Int) (D : ByteArray) : FitsOk (begun o l m) D ↔ dataFits o l m D = true := by
  constructor
  · exact fun h => h.2
  · intro h
    refine ⟨begun_ok ?_, h⟩
    unfold dataFits at h
    simp only [Bool.and_eq_true] at h
    exact h.1.1

/-- what compression of data gives -/
noncomputable def packd (K : Kn) (D : ByteArray) : ByteArray := K.packed (K.greedy D.data.toList)
open Classical in
/-- the block of data -/
noncomputable def blkOf (K : Kn) (n : Int) (D : ByteArray) : Bl := if FitsOk K D ∧ (packd K D).size < D.size then ⟨n, false, D.size, packd K D⟩ else ⟨n, true, D.size, D⟩
/-- what a stream gives -/
def unpd (K : Kn) (T : ByteArray) : ByteArray := str (K.dat (K.uc T))
open Classical in
/-- the data of a block -/
noncomputable def bdat (K : Kn) (b : Bl) : Option ByteArray := if b.raw = true then some b.body else if UnpOk K b.body ∧ K.ue b.body = 0 ∧ K.uu b.body = b.body.size ∧ ((unpd K b.body).size : Int) = b.z then some (unpd K b.body) else none

theorem blkOf_z (K : Kn) (n : Int) (D : ByteArray) : (blkOf K n D).z = D.size ∧ (blkOf K n D).n = n := by
  unfold blkOf; split <;> exact ⟨rfl, rfl⟩

section
variable (o l m : Int) (dict : ByteArray) (hk : FitsOk (begun o l m) dict) (K : Kn) (hK : K = (begun o l m).learned dict.data.toList)

include hk hK

set_option maxHeartbeats 4000000 in
set_option maxRecDepth 100000 in
theorem c_l5Block (n : Int) (D : ByteArray) (w : World) (hD : D.size ≤ maxLen) : Calls Tryz.prog 34 #[.agg #[.int .i64 o, .int .i64 l, .int .i64 m], .string dict, .int .i64 n, .string D] w fun e w' => e = .returned (.agg #[.int .i64 (blkOf K n D).n, .bool (blkOf K n D).raw, .int .i64 (blkOf K n D).z, .string (blkOf K n D).body]) ∧ Below w.heap.size w w' := by
  by_cases hu : FitsOk K D
  · have HC := hid (fun v => c_sCompressWith_yes o l m v dict D hk K hK hu)
    obtain ⟨X, hX⟩ : ∃ X, X = packd K D := ⟨_, rfl⟩
    rw [show K.packed (K.greedy D.data.toList) = X from hX.symm] at HC
    obtain ⟨b, hb⟩ : ∃ b, b = blkOf K n D := ⟨_, rfl⟩
    have HB := hid hb
    rw [← hb]
    clear hb
    by_cases hlt : X.size < D.size
    · have hbe : b = ⟨n, false, D.size, X⟩ := by rw [HB.out]; unfold blkOf; rw [if_pos ⟨hu, by rw [← hX]; exact hlt⟩, ← hX]
      subst hbe
      clear HB hX hu hk hK
      have hlt2 : (X.size : Int) < (D.size : Int) := by omega
      have kS := (Blk.new w 28 #[.int .i64 o, .int .i64 l, .int .i64 m]).alloc (.cells #[.int .i64 0, .bool false, .int .i64 0, .string ⟨#[]⟩] 25)
      have kR : Blk ((w.alloc (.cells #[.int .i64 o, .int .i64 l, .int .i64 m] 28)).alloc (.cells #[.int .i64 0, .bool false, .int .i64 0, .string ⟨#[]⟩] 25)) (w.heap.size + 1) 25 #[.int .i64 0, .bool false, .int .i64 0, .string ⟨#[]⟩] := by
        have := Blk.new (w.alloc (.cells #[.int .i64 o, .int .i64 l, .int .i64 m] 28)) 25 #[.int .i64 0, .bool false, .int .i64 0, .string ⟨#[]⟩]
        rwa [World.size_alloc] at this
      have hB0 : Below w.heap.size w ((w.alloc (.cells #[.int .i64 o, .int .i64 l, .int .i64 m] 28)).alloc (.cells #[.int .i64 0, .bool false, .int .i64 0, .string ⟨#[]⟩] 25)) := bel_alloc (bel_alloc (Below.refl _ w) _) _
      obtain ⟨y0, y1, y2⟩ := kS.cells3
      go_enter Tryz.func34, Tryz.ntmps34
      go_wp2_with fail
      refine (HC.out _).mono ?_
      rintro e w1 ⟨rfl, hb1⟩
      have kR1 := kR.on hb1
      have hB1 := hB0.trans (hb1.mono hB0.size)
      obtain ⟨r0, r1, r2, r3⟩ := kR1.cells4y
      have f0 := kR1.frozen 0
      have f1 := kR1.frozen 1
      have f2 := kR1.frozen 2
      have f3 := kR1.frozen 3
      have kF := (((kR1.set_ 0 (.int .i64 n)).set_ 1 (.bool false)).set_ 2 (.int .i64 (D.size : Nat))).set_ 3 (.string X)
      obtain ⟨j0, j1, j2, j3⟩ := kF.cells4y
      clear kS kR y0 y1 y2 hb1 hB0 kR1
      go_wp2_with fail
      exact bodyPost_ret (v := .agg #[.int .i64 n, .bool false, .int .i64 (D.size : Nat), .string X]) (by simp [results, Tryz.results34, go_sem, j0, j1, j2, j3]) rfl ⟨rfl, bel_set (bel_set (bel_set (bel_set hB1 (by simp) _) (by simp) _) (by simp) _) (by simp) _⟩
    · have hbe : b = ⟨n, true, D.size, D⟩ := by rw [HB.out]; unfold blkOf; rw [if_neg (fun h => hlt (by rw [hX]; exact h.2))]
      subst hbe
      clear HB hX hu hk hK
      have hlt2 : ¬ (X.size : Int) < (D.size : Int) := by omega
      have kS := (Blk.new w 28 #[.int .i64 o, .int .i64 l, .int .i64 m]).alloc (.cells #[.int .i64 0, .bool false, .int .i64 0, .string ⟨#[]⟩] 25)
      have kR : Blk ((w.alloc (.cells #[.int .i64 o, .int .i64 l, .int .i64 m] 28)).alloc (.cells #[.int .i64 0, .bool false, .int .i64 0, .string ⟨#[]⟩] 25)) (w.heap.size + 1) 25 #[.int .i64 0, .bool false, .int .i64 0, .string ⟨#[]⟩] := by
        have := Blk.new (w.alloc (.cells #[.int .i64 o, .int .i64 l, .int .i64 m] 28)) 25 #[.int .i64 0, .bool false, .int .i64 0, .string ⟨#[]⟩]
        rwa [World.size_alloc] at this
      have hB0 : Below w.heap.size w ((w.alloc (.cells #[.int .i64 o, .int .i64 l, .int .i64 m] 28)).alloc (.cells #[.int .i64 0, .bool false, .int .i64 0, .string ⟨#[]⟩] 25)) := bel_alloc (bel_alloc (Below.refl _ w) _) _
      obtain ⟨y0, y1, y2⟩ := kS.cells3
      go_enter Tryz.func34, Tryz.ntmps34
      go_wp2_with fail
      refine (HC.out _).mono ?_
      rintro e w1 ⟨rfl, hb1⟩
      have kR1 := kR.on hb1
      have hB1 := hB0.trans (hb1.mono hB0.size)
      obtain ⟨r0, r1, r2, r3⟩ := kR1.cells4y
      have f0 := kR1.frozen 0
      have f1 := kR1.frozen 1
      have f2 := kR1.frozen 2
      have f3 := kR1.frozen 3
      have kF := (((kR1.set_ 0 (.int .i64 n)).set_ 1 (.bool true)).set_ 2 (.int .i64 (D.size : Nat))).set_ 3 (.string D)
      obtain ⟨j0, j1, j2, j3⟩ := kF.cells4y
      clear kS kR y0 y1 y2 hb1 hB0 kR1
      go_wp2_with fail
      exact bodyPost_ret (v := .agg #[.int .i64 n, .bool true, .int .i64 (D.size : Nat), .string D]) (by simp [results, Tryz.results34, go_sem, j0, j1, j2, j3]) rfl ⟨rfl, bel_set (bel_set (bel_set (bel_set hB1 (by simp) _) (by simp) _) (by simp) _) (by simp) _⟩
  · have HC := hid (fun v => c_sCompressWith_bad o l m v dict D hk K hK hD hu)
    have hbe : blkOf K n D = ⟨n, true, D.size, D⟩ := by unfold blkOf; rw [if_neg (fun h => hu h.1)]
    rw [hbe]
    clear hbe hu hk hK
    have kS := (Blk.new w 28 #[.int .i64 o, .int .i64 l, .int .i64 m]).alloc (.cells #[.int .i64 0, .bool false, .int .i64 0, .string ⟨#[]⟩] 25)
    have kR : Blk ((w.alloc (.cells #[.int .i64 o, .int .i64 l, .int .i64 m] 28)).alloc (.cells #[.int .i64 0, .bool false, .int .i64 0, .string ⟨#[]⟩] 25)) (w.heap.size + 1) 25 #[.int .i64 0, .bool false, .int .i64 0, .string ⟨#[]⟩] := by
      have := Blk.new (w.alloc (.cells #[.int .i64 o, .int .i64 l, .int .i64 m] 28)) 25 #[.int .i64 0, .bool false, .int .i64 0, .string ⟨#[]⟩]
      rwa [World.size_alloc] at this
    have hB0 : Below w.heap.size w ((w.alloc (.cells #[.int .i64 o, .int .i64 l, .int .i64 m] 28)).alloc (.cells #[.int .i64 0, .bool false, .int .i64 0, .string ⟨#[]⟩] 25)) := bel_alloc (bel_alloc (Below.refl _ w) _) _
    obtain ⟨y0, y1, y2⟩ := kS.cells3
    go_enter Tryz.func34, Tryz.ntmps34
    go_wp2_with fail
    refine (HC.out _).mono ?_
    rintro e w1 ⟨rfl, hb1⟩
    have kR1 := kR.on hb1
    have hB1 := hB0.trans (hb1.mono hB0.size)
    obtain ⟨r0, r1, r2, r3⟩ := kR1.cells4y
    have f0 := kR1.frozen 0
    have f1 := kR1.frozen 1
    have f2 := kR1.frozen 2
    have f3 := kR1.frozen 3
    have kF := (((kR1.set_ 0 (.int .i64 n)).set_ 1 (.bool true)).set_ 2 (.int .i64 (D.size : Nat))).set_ 3 (.string D)
    obtain ⟨j0, j1, j2, j3⟩ := kF.cells4y
    clear kS kR y0 y1 y2 hb1 hB0 kR1
    go_wp2_with fail
    exact bodyPost_ret (v := .agg #[.int .i64 n, .bool true, .int .i64 (D.size : Nat), .string D]) (by simp [results, Tryz.results34, go_sem, j0, j1, j2, j3]) rfl ⟨rfl, bel_set (bel_set (bel_set (bel_set hB1 (by simp) _) (by simp) _) (by simp) _) (by simp) _⟩

/-- what is returned of data that may be lacking -/
def optV (r : Option ByteArray) : Value := match r with | some d => .tuple #[.string d, .bool true] | none => .tuple #[.string ByteArray.empty, .bool false]

set_option maxHeartbeats 4000000 in
set_option maxRecDepth 100000 in
theorem c_l5Data (b : Bl) (w : World) (hb : b.body.size ≤ maxLen) : Calls Tryz.prog 39 #[.agg #[.int .i64 o, .int .i64 l, .int .i64 m], .string dict, .agg #[.int .i64 b.n, .bool b.raw, .int .i64 b.z, .string b.body]] w fun e w' => e = .returned (optV (bdat K b)) ∧ Below w.heap.size w w' := by
  obtain ⟨n, raw, z, T⟩ := b
  simp only at hb ⊢
  cases raw with
  | true =>
    have hr : bdat K ⟨n, true, z, T⟩ = some T := by unfold bdat; simp
    rw [hr]
    clear hr hk hK
    go_enter Tryz.func39, Tryz.ntmps39
    go_wp2_with fail
    go_ret2
    exact ⟨rfl, by exact obB⟩
  | false =>
    by_cases hu : UnpOk K T
    · have HC := hid (fun v => c_sDecompressWith_yes o l m v dict T hk K hK hu)
      obtain ⟨X, hX⟩ : ∃ X, X = unpd K T := ⟨_, rfl⟩
      obtain ⟨Y, hY⟩ : ∃ Y, Y = K.ue T := ⟨_, rfl⟩
      obtain ⟨Z, hZ⟩ : ∃ Z, Z = K.uu T := ⟨_, rfl⟩
      rw [show str (K.dat (K.uc T)) = X from hX.symm, ← hY, ← hZ] at HC
      have HR := hid (show bdat K ⟨n, false, z, T⟩ = if Y = 0 ∧ Z = T.size ∧ (X.size : Int) = z then some X else none by
        unfold bdat
        rw [if_neg (by simp)]
        simp only
        rw [← hX, ← hY, ← hZ]
        by_cases h : Y = 0 ∧ Z = T.size ∧ (X.size : Int) = z
        · rw [if_pos ⟨hu, h⟩, if_pos h]
        · rw [if_neg (fun h2 => h h2.2), if_neg h])
      clear hX hY hZ hu
      obtain ⟨R, hR⟩ : ∃ R, R = bdat K ⟨n, false, z, T⟩ := ⟨_, rfl⟩
      rw [← hR] at HR ⊢
      clear hR
      clear hk hK
      by_cases h1 : Y = 0
      · by_cases h2 : Z = T.size
        · by_cases h3 : (X.size : Int) = z
          · skip
            have hr := HR.out
            rw [if_pos ⟨h1, h2, h3⟩] at hr
            subst hr
            have g1 : (Y != 0) = false := by rw [h1]; rfl
            have g2 : ((Z : Int) != (T.size : Int)) = false := by rw [h2]; simp
            have g3 : ((X.size : Int) != z) = false := by rw [h3]; simp
            clear h1 h2 h3 HR
            have kS := (Blk.new w 28 #[.int .i64 o, .int .i64 l, .int .i64 m]).alloc (.cells #[.int .i64 n, .bool false, .int .i64 z, .string T] 25)
            have kR : Blk ((w.alloc (.cells #[.int .i64 o, .int .i64 l, .int .i64 m] 28)).alloc (.cells #[.int .i64 n, .bool false, .int .i64 z, .string T] 25)) (w.heap.size + 1) 25 #[.int .i64 n, .bool false, .int .i64 z, .string T] := by
              have := Blk.new (w.alloc (.cells #[.int .i64 o, .int .i64 l, .int .i64 m] 28)) 25 #[.int .i64 n, .bool false, .int .i64 z, .string T]
              rwa [World.size_alloc] at this
            have hB0 : Below w.heap.size w ((w.alloc (.cells #[.int .i64 o, .int .i64 l, .int .i64 m] 28)).alloc (.cells #[.int .i64 n, .bool false, .int .i64 z, .string T] 25)) := bel_alloc (bel_alloc (Below.refl _ w) _) _
            obtain ⟨y0, y1, y2⟩ := kS.cells3
            obtain ⟨s0, s1, s2, s3⟩ := kR.cells4y
            go_enter Tryz.func39, Tryz.ntmps39
            go_wp2_with fail
            refine (HC.out _).mono ?_
            rintro e w1 ⟨rfl, hb1⟩
            have kR1 := kR.on hb1
            have hB1 := hB0.trans (hb1.mono hB0.size)
            obtain ⟨r0, r1, r2, r3⟩ := kR1.cells4y
            clear kS kR y0 y1 y2 s0 s1 s2 s3 hb1 hB0 kR1
            go_wp2_with fail
            go_ret2
            exact ⟨rfl, hB1⟩
          · skip
            have hr := HR.out
            rw [if_neg (fun h => h3 h.2.2)] at hr
            subst hr
            have g1 : (Y != 0) = false := by rw [h1]; rfl
            have g2 : ((Z : Int) != (T.size : Int)) = false := by rw [h2]; simp
            have g3 : ((X.size : Int) != z) = true := by simpa using h3
            clear h1 h2 h3 HR
            have kS := (Blk.new w 28 #[.int .i64 o, .int .i64 l, .int .i64 m]).alloc (.cells #[.int .i64 n, .bool false, .int .i64 z, .string T] 25)
            have kR : Blk ((w.alloc (.cells #[.int .i64 o, .int .i64 l, .int .i64 m] 28)).alloc (.cells #[.int .i64 n, .bool false, .int .i64 z, .string T] 25)) (w.heap.size + 1) 25 #[.int .i64 n, .bool false, .int .i64 z, .string T] := by
              have := Blk.new (w.alloc (.cells #[.int .i64 o, .int .i64 l, .int .i64 m] 28)) 25 #[.int .i64 n, .bool false, .int .i64 z, .string T]
              rwa [World.size_alloc] at this
            have hB0 : Below w.heap.size w ((w.alloc (.cells #[.int .i64 o, .int .i64 l, .int .i64 m] 28)).alloc (.cells #[.int .i64 n, .bool false, .int .i64 z, .string T] 25)) := bel_alloc (bel_alloc (Below.refl _ w) _) _
            obtain ⟨y0, y1, y2⟩ := kS.cells3
            obtain ⟨s0, s1, s2, s3⟩ := kR.cells4y
            go_enter Tryz.func39, Tryz.ntmps39
            go_wp2_with fail
            refine (HC.out _).mono ?_
            rintro e w1 ⟨rfl, hb1⟩
            have kR1 := kR.on hb1
            have hB1 := hB0.trans (hb1.mono hB0.size)
            obtain ⟨r0, r1, r2, r3⟩ := kR1.cells4y
            clear kS kR y0 y1 y2 s0 s1 s2 s3 hb1 hB0 kR1
            go_wp2_with fail
            go_ret2
            exact ⟨rfl, hB1⟩
        · skip
          have hr := HR.out
          rw [if_neg (fun h => h2 h.2.1)] at hr
          subst hr
          have g1 : (Y != 0) = false := by rw [h1]; rfl
          have g2 : ((Z : Int) != (T.size : Int)) = true := by simp; omega
          clear h1 h2 HR
          have kS := (Blk.new w 28 #[.int .i64 o, .int .i64 l, .int .i64 m]).alloc (.cells #[.int .i64 n, .bool false, .int .i64 z, .string T] 25)
          have kR : Blk ((w.alloc (.cells #[.int .i64 o, .int .i64 l, .int .i64 m] 28)).alloc (.cells #[.int .i64 n, .bool false, .int .i64 z, .string T] 25)) (w.heap.size + 1) 25 #[.int .i64 n, .bool false, .int .i64 z, .string T] := by
            have := Blk.new (w.alloc (.cells #[.int .i64 o, .int .i64 l, .int .i64 m] 28)) 25 #[.int .i64 n, .bool false, .int .i64 z, .string T]
            rwa [World.size_alloc] at this
          have hB0 : Below w.heap.size w ((w.alloc (.cells #[.int .i64 o, .int .i64 l, .int .i64 m] 28)).alloc (.cells #[.int .i64 n, .bool false, .int .i64 z, .string T] 25)) := bel_alloc (bel_alloc (Below.refl _ w) _) _
          obtain ⟨y0, y1, y2⟩ := kS.cells3
          obtain ⟨s0, s1, s2, s3⟩ := kR.cells4y
          go_enter Tryz.func39, Tryz.ntmps39
          go_wp2_with fail
          refine (HC.out _).mono ?_
          rintro e w1 ⟨rfl, hb1⟩
          have kR1 := kR.on hb1
          have hB1 := hB0.trans (hb1.mono hB0.size)
          obtain ⟨r0, r1, r2, r3⟩ := kR1.cells4y
          clear kS kR y0 y1 y2 s0 s1 s2 s3 hb1 hB0 kR1
          go_wp2_with fail
          go_ret2
          exact ⟨rfl, hB1⟩
      · skip
        have hr := HR.out
        rw [if_neg (fun h => h1 h.1)] at hr
        subst hr
        have g1 : (Y != 0) = true := by simpa using h1
        clear h1 HR
        have kS := (Blk.new w 28 #[.int .i64 o, .int .i64 l, .int .i64 m]).alloc (.cells #[.int .i64 n, .bool false, .int .i64 z, .string T] 25)
        have kR : Blk ((w.alloc (.cells #[.int .i64 o, .int .i64 l, .int .i64 m] 28)).alloc (.cells #[.int .i64 n, .bool false, .int .i64 z, .string T] 25)) (w.heap.size + 1) 25 #[.int .i64 n, .bool false, .int .i64 z, .string T] := by
          have := Blk.new (w.alloc (.cells #[.int .i64 o, .int .i64 l, .int .i64 m] 28)) 25 #[.int .i64 n, .bool false, .int .i64 z, .string T]
          rwa [World.size_alloc] at this
        have hB0 : Below w.heap.size w ((w.alloc (.cells #[.int .i64 o, .int .i64 l, .int .i64 m] 28)).alloc (.cells #[.int .i64 n, .bool false, .int .i64 z, .string T] 25)) := bel_alloc (bel_alloc (Below.refl _ w) _) _
        obtain ⟨y0, y1, y2⟩ := kS.cells3
        obtain ⟨s0, s1, s2, s3⟩ := kR.cells4y
        go_enter Tryz.func39, Tryz.ntmps39
        go_wp2_with fail
        refine (HC.out _).mono ?_
        rintro e w1 ⟨rfl, hb1⟩
        have kR1 := kR.on hb1
        have hB1 := hB0.trans (hb1.mono hB0.size)
        obtain ⟨r0, r1, r2, r3⟩ := kR1.cells4y
        clear kS kR y0 y1 y2 s0 s1 s2 s3 hb1 hB0 kR1
        go_wp2_with fail
        go_ret2
        exact ⟨rfl, hB1⟩
    · have HC := hid (fun v => c_sDecompressWith_bad o l m v dict T hk K hK hb hu)
      have hr : bdat K ⟨n, false, z, T⟩ = none := by unfold bdat; rw [if_neg (by simp), if_neg (fun h => hu h.1)]
      rw [hr]
      clear hr hu hk hK
      have kS := (Blk.new w 28 #[.int .i64 o, .int .i64 l, .int .i64 m]).alloc (.cells #[.int .i64 n, .bool false, .int .i64 z, .string T] 25)
      have kR : Blk ((w.alloc (.cells #[.int .i64 o, .int .i64 l, .int .i64 m] 28)).alloc (.cells #[.int .i64 n, .bool false, .int .i64 z, .string T] 25)) (w.heap.size + 1) 25 #[.int .i64 n, .bool false, .int .i64 z, .string T] := by
        have := Blk.new (w.alloc (.cells #[.int .i64 o, .int .i64 l, .int .i64 m] 28)) 25 #[.int .i64 n, .bool false, .int .i64 z, .string T]
        rwa [World.size_alloc] at this
      have hB0 : Below w.heap.size w ((w.alloc (.cells #[.int .i64 o, .int .i64 l, .int .i64 m] 28)).alloc (.cells #[.int .i64 n, .bool false, .int .i64 z, .string T] 25)) := bel_alloc (bel_alloc (Below.refl _ w) _) _
      obtain ⟨y0, y1, y2⟩ := kS.cells3
      obtain ⟨s0, s1, s2, s3⟩ := kR.cells4y
      go_enter Tryz.func39, Tryz.ntmps39
      go_wp2_with fail
      refine (HC.out _).mono ?_
      rintro e w1 ⟨rfl, hb1⟩
      have kR1 := kR.on hb1
      have hB1 := hB0.trans (hb1.mono hB0.size)
      obtain ⟨r0, r1, r2, r3⟩ := kR1.cells4y
      clear kS kR y0 y1 y2 s0 s1 s2 s3 hb1 hB0 kR1
      go_wp2_with fail
      go_ret2
      exact ⟨rfl, hB1⟩
end

/-- a primed writer as far as reading goes: its finder's box, and what is known there -/
structure PD (pb fb : Nat) (K : Kn) (A : Option Addr) (cap L : Nat) (w : World) : Prop where
  c0 : w.cell? ⟨pb, 0, none⟩ = some (.pointer (some ⟨fb, 0, none⟩))
  pl : pb < L
  ka : KAt w fb K (.slice A K.ps.length cap)
  fl : fb < L
  ps : PsAt w L A cap K.ps
theorem PD.below {pb fb : Nat} {K : Kn} {A : Option Addr} {cap L B : Nat} {w w' : World} (h : PD pb fb K A cap L w) (hb : Below B w w') (hL : L ≤ B) : PD pb fb K A cap L w' := by
  have h1 := h.pl
  have h2 := h.fl
  exact ⟨(World.cell?_of_block (a := ⟨pb, 0, none⟩) (hb.block pb (by omega))).trans h.c0, h1, h.ka.on hb (by omega), h2, h.ps.below hb hL⟩
theorem PD.of {L wb : Nat} {T : TypeId} {xs : List Value} {pd : Nat → Prop} {fb : Nat} {v : Value} {K : Kn} {w : World} (h : WS L wb T xs pd fb v (Wr.fresh K) w) : ∃ A cap, PD wb fb K A cap w.heap.size w := by
  obtain ⟨A, cap, nb, cap2, N, Lo, bm, n, hn, hF⟩ := h.fa
  have hk : KAt w fb K (.slice A K.ps.length cap) := hF.kat
  exact ⟨A, cap, h.c0, h.bx.lt, hk, hk.1, own_ps_at hF.row⟩

set_option maxHeartbeats 4000000 in
set_option maxRecDepth 100000 in
theorem c_blockData (pb fb : Nat) (K : Kn) (A : Option Addr) (cap L : Nat) (hw : K.Wf) (b : Bl) (w : World) (h : PD pb fb K A cap L w) (hL : L ≤ w.heap.size) (hb : b.body.size ≤ maxLen) : Calls Tryz.prog 41 #[.pointer (some ⟨pb, 0, none⟩), .agg #[.int .i64 b.n, .bool b.raw, .int .i64 b.z, .string b.body]] w fun e w' => e = .returned (optV (bdat K b)) ∧ Below w.heap.size w w' := by
  obtain ⟨n, raw, z, T⟩ := b
  simp only at hb ⊢
  cases raw with
  | true =>
    have hr : bdat K ⟨n, true, z, T⟩ = some T := by unfold bdat; simp
    rw [hr]
    clear hr
    go_enter Tryz.func41, Tryz.ntmps41
    go_wp2_with fail
    go_ret2
    exact ⟨rfl, by exact obB⟩
  | false =>
    have HH := hid (fun (v : World) (hb : Below w.heap.size w v) => h.below hb hL)
    clear h
    by_cases hu : UnpOk K T
    · have HC := hid (fun v (hp : PsAt v L A cap K.ps) (hLv : L ≤ v.heap.size) => c_Decompress_yes K A cap L v hp hLv hw T hu)
      obtain ⟨X, hX⟩ : ∃ X, X = unpd K T := ⟨_, rfl⟩
      obtain ⟨Y, hY⟩ : ∃ Y, Y = K.ue T := ⟨_, rfl⟩
      obtain ⟨Z, hZ⟩ : ∃ Z, Z = K.uu T := ⟨_, rfl⟩
      rw [show str (K.dat (K.uc T)) = X from hX.symm, ← hY, ← hZ] at HC
      have HR := hid (show bdat K ⟨n, false, z, T⟩ = if Y = 0 ∧ Z = T.size ∧ (X.size : Int) = z then some X else none by
        unfold bdat
        rw [if_neg (by simp)]
        simp only
        rw [← hX, ← hY, ← hZ]
        by_cases h : Y = 0 ∧ Z = T.size ∧ (X.size : Int) = z
        · rw [if_pos ⟨hu, h⟩, if_pos h]
        · rw [if_neg (fun h2 => h h2.2), if_neg h])
      clear hX hY hZ hu
      obtain ⟨R, hR⟩ : ∃ R, R = bdat K ⟨n, false, z, T⟩ := ⟨_, rfl⟩
      rw [← hR] at HR ⊢
      clear hR
      by_cases h1 : Y = 0
      · by_cases h2 : Z = T.size
        · by_cases h3 : (X.size : Int) = z
          · skip
            have hr := HR.out
            rw [if_pos ⟨h1, h2, h3⟩] at hr
            subst hr
            have g1 : (Y != 0) = false := by rw [h1]; rfl
            have g2 : ((Z : Int) != (T.size : Int)) = false := by rw [h2]; simp
            have g3 : ((X.size : Int) != z) = false := by rw [h3]; simp
            clear h1 h2 h3 HR
            have kR := Blk.new w 25 #[.int .i64 n, .bool false, .int .i64 z, .string T]
            obtain ⟨s0, s1, s2, s3⟩ := kR.cells4y
            have hB0 : Below w.heap.size w (w.alloc (.cells #[.int .i64 n, .bool false, .int .i64 z, .string T] 25)) := bel_alloc (Below.refl _ w) _
            have hP := HH.out _ hB0
            obtain ⟨W1, hW1⟩ : ∃ W1, W1 = w.alloc (.cells #[.int .i64 n, .bool false, .int .i64 z, .string T] 25) := ⟨_, rfl⟩
            have hS : W1.cell? ⟨pb, 0, none⟩ = some (.pointer (some ⟨fb, 0, none⟩)) ∧ W1.cell? ⟨fb, 0, none⟩ = some (.int .i64 K.o) ∧ W1.cell? ⟨fb, 1, none⟩ = some (.int .i64 K.l) ∧ W1.cell? ⟨fb, 2, none⟩ = some (.int .i64 K.m) ∧ W1.cell? ⟨fb, 3, none⟩ = some (.slice A K.ps.length cap) ∧ W1.cell? ⟨fb, 4, none⟩ = some (.int .i64 K.base) ∧ W1.cell? ⟨fb, 5, none⟩ = some (.int .i64 K.last) ∧ W1.cell? ⟨w.heap.size, 2, none⟩ = some (.int .i64 z) ∧ W1.cell? ⟨w.heap.size, 3, none⟩ = some (.string T) ∧ Below W1.heap.size W1 W1 := by
              rw [← hW1] at hP s2 s3
              obtain ⟨c0, pl, ⟨_, k0, k1, k2, k3, k4, k5⟩, fl, ps⟩ := hP
              exact ⟨c0, k0, k1, k2, k3, k4, k5, s2, s3, Below.refl _ _⟩
            rw [← hW1] at hB0
            have hz0 := hB0.size
            have HQ := hid (fun (v : World) (hb : Below W1.heap.size W1 v) => HC.out v ((HH.out W1 hB0).ps.below hb (Nat.le_trans hL hz0)) (Nat.le_trans hL (Nat.le_trans hz0 hb.size)))
            clear kR hP s0 s2 s3 HC
            go_enter Tryz.func41, Tryz.ntmps41
            go_wp2_with fail
            rw [← hW1]
            clear hW1 s1
            refine qB (S := (fun v => v.cell? ⟨pb, 0, none⟩ = some (.pointer (some ⟨fb, 0, none⟩)) ∧ v.cell? ⟨fb, 0, none⟩ = some (.int .i64 K.o) ∧ v.cell? ⟨fb, 1, none⟩ = some (.int .i64 K.l) ∧ v.cell? ⟨fb, 2, none⟩ = some (.int .i64 K.m) ∧ v.cell? ⟨fb, 3, none⟩ = some (.slice A K.ps.length cap) ∧ v.cell? ⟨fb, 4, none⟩ = some (.int .i64 K.base) ∧ v.cell? ⟨fb, 5, none⟩ = some (.int .i64 K.last) ∧ v.cell? ⟨w.heap.size, 2, none⟩ = some (.int .i64 z) ∧ v.cell? ⟨w.heap.size, 3, none⟩ = some (.string T) ∧ Below W1.heap.size W1 v)) (by kernel_rfl) (by kernel_rfl) (s9_drew hS) ?_
            refine qK ?_
            refine qK ?_
            refine qK ?_
            refine qK ?_
            refine qK ?_
            refine qK ?_
            refine qK ?_
            refine qK ?_
            refine qK ?_
            refine qK ?_
            refine qC (fun wq hSq => HQ.out wq hSq.2.2.2.2.2.2.2.2.2) (fun wq wr hbr hSq => s9_bel hbr hSq) ?_
            refine qK ?_
            refine qK ?_
            refine qK ?_
            refine qK ?_
            refine qK ?_
            refine qK ?_
            refine qK ?_
            refine qN ?_
            intro wq hSq
            (try dsimp only at hSq)
            obtain ⟨p0, k0, k1, k2, k3, k4, k5, r2, r3, hbq⟩ := hSq
            have hB1 := hB0.trans (hbq.mono hz0)
            clear hS p0 k0 k1 k2 k3 k4 k5 hbq hB0
            go_wp2_with fail
            go_ret2
            exact ⟨rfl, hB1⟩
          · skip
            have hr := HR.out
            rw [if_neg (fun h => h3 h.2.2)] at hr
            subst hr
            have g1 : (Y != 0) = false := by rw [h1]; rfl
            have g2 : ((Z : Int) != (T.size : Int)) = false := by rw [h2]; simp
            have g3 : ((X.size : Int) != z) = true := by simpa using h3
            clear h1 h2 h3 HR
            have kR := Blk.new w 25 #[.int .i64 n, .bool false, .int .i64 z, .string T]
            obtain ⟨s0, s1, s2, s3⟩ := kR.cells4y
            have hB0 : Below w.heap.size w (w.alloc (.cells #[.int .i64 n, .bool false, .int .i64 z, .string T] 25)) := bel_alloc (Below.refl _ w) _
            have hP := HH.out _ hB0
            obtain ⟨W1, hW1⟩ : ∃ W1, W1 = w.alloc (.cells #[.int .i64 n, .bool false, .int .i64 z, .string T] 25) := ⟨_, rfl⟩
            have hS : W1.cell? ⟨pb, 0, none⟩ = some (.pointer (some ⟨fb, 0, none⟩)) ∧ W1.cell? ⟨fb, 0, none⟩ = some (.int .i64 K.o) ∧ W1.cell? ⟨fb, 1, none⟩ = some (.int .i64 K.l) ∧ W1.cell? ⟨fb, 2, none⟩ = some (.int .i64 K.m) ∧ W1.cell? ⟨fb, 3, none⟩ = some (.slice A K.ps.length cap) ∧ W1.cell? ⟨fb, 4, none⟩ = some (.int .i64 K.base) ∧ W1.cell? ⟨fb, 5, none⟩ = some (.int .i64 K.last) ∧ W1.cell? ⟨w.heap.size, 2, none⟩ = some (.int .i64 z) ∧ W1.cell? ⟨w.heap.size, 3, none⟩ = some (.string T) ∧ Below W1.heap.size W1 W1 := by
              rw [← hW1] at hP s2 s3
              obtain ⟨c0, pl, ⟨_, k0, k1, k2, k3, k4, k5⟩, fl, ps⟩ := hP
              exact ⟨c0, k0, k1, k2, k3, k4, k5, s2, s3, Below.refl _ _⟩
            rw [← hW1] at hB0
            have hz0 := hB0.size
            have HQ := hid (fun (v : World) (hb : Below W1.heap.size W1 v) => HC.out v ((HH.out W1 hB0).ps.below hb (Nat.le_trans hL hz0)) (Nat.le_trans hL (Nat.le_trans hz0 hb.size)))
            clear kR hP s0 s2 s3 HC
            go_enter Tryz.func41, Tryz.ntmps41
            go_wp2_with fail
            rw [← hW1]
            clear hW1 s1
            refine qB (S := (fun v => v.cell? ⟨pb, 0, none⟩ = some (.pointer (some ⟨fb, 0, none⟩)) ∧ v.cell? ⟨fb, 0, none⟩ = some (.int .i64 K.o) ∧ v.cell? ⟨fb, 1, none⟩ = some (.int .i64 K.l) ∧ v.cell? ⟨fb, 2, none⟩ = some (.int .i64 K.m) ∧ v.cell? ⟨fb, 3, none⟩ = some (.slice A K.ps.length cap) ∧ v.cell? ⟨fb, 4, none⟩ = some (.int .i64 K.base) ∧ v.cell? ⟨fb, 5, none⟩ = some (.int .i64 K.last) ∧ v.cell? ⟨w.heap.size, 2, none⟩ = some (.int .i64 z) ∧ v.cell? ⟨w.heap.size, 3, none⟩ = some (.string T) ∧ Below W1.heap.size W1 v)) (by kernel_rfl) (by kernel_rfl) (s9_drew hS) ?_
            refine qK ?_
            refine qK ?_
            refine qK ?_
            refine qK ?_
            refine qK ?_
            refine qK ?_
            refine qK ?_
            refine qK ?_
            refine qK ?_
            refine qK ?_
            refine qC (fun wq hSq => HQ.out wq hSq.2.2.2.2.2.2.2.2.2) (fun wq wr hbr hSq => s9_bel hbr hSq) ?_
            refine qK ?_
            refine qK ?_
            refine qK ?_
            refine qK ?_
            refine qK ?_
            refine qK ?_
            refine qK ?_
            refine qN ?_
            intro wq hSq
            (try dsimp only at hSq)
            obtain ⟨p0, k0, k1, k2, k3, k4, k5, r2, r3, hbq⟩ := hSq
            have hB1 := hB0.trans (hbq.mono hz0)
            clear hS p0 k0 k1 k2 k3 k4 k5 hbq hB0
            go_wp2_with fail
            go_ret2
            exact ⟨rfl, hB1⟩
        · skip
          have hr := HR.out
          rw [if_neg (fun h => h2 h.2.1)] at hr
          subst hr
          have g1 : (Y != 0) = false := by rw [h1]; rfl
          have g2 : ((Z : Int) != (T.size : Int)) = true := by simp; omega
          clear h1 h2 HR
          have kR := Blk.new w 25 #[.int .i64 n, .bool false, .int .i64 z, .string T]
          obtain ⟨s0, s1, s2, s3⟩ := kR.cells4y
          have hB0 : Below w.heap.size w (w.alloc (.cells #[.int .i64 n, .bool false, .int .i64 z, .string T] 25)) := bel_alloc (Below.refl _ w) _
          have hP := HH.out _ hB0
          obtain ⟨W1, hW1⟩ : ∃ W1, W1 = w.alloc (.cells #[.int .i64 n, .bool false, .int .i64 z, .string T] 25) := ⟨_, rfl⟩
          have hS : W1.cell? ⟨pb, 0, none⟩ = some (.pointer (some ⟨fb, 0, none⟩)) ∧ W1.cell? ⟨fb, 0, none⟩ = some (.int .i64 K.o) ∧ W1.cell? ⟨fb, 1, none⟩ = some (.int .i64 K.l) ∧ W1.cell? ⟨fb, 2, none⟩ = some (.int .i64 K.m) ∧ W1.cell? ⟨fb, 3, none⟩ = some (.slice A K.ps.length cap) ∧ W1.cell? ⟨fb, 4, none⟩ = some (.int .i64 K.base) ∧ W1.cell? ⟨fb, 5, none⟩ = some (.int .i64 K.last) ∧ W1.cell? ⟨w.heap.size, 2, none⟩ = some (.int .i64 z) ∧ W1.cell? ⟨w.heap.size, 3, none⟩ = some (.string T) ∧ Below W1.heap.size W1 W1 := by
            rw [← hW1] at hP s2 s3
            obtain ⟨c0, pl, ⟨_, k0, k1, k2, k3, k4, k5⟩, fl, ps⟩ := hP
            exact ⟨c0, k0, k1, k2, k3, k4, k5, s2, s3, Below.refl _ _⟩
          rw [← hW1] at hB0
          have hz0 := hB0.size
          have HQ := hid (fun (v : World) (hb : Below W1.heap.size W1 v) => HC.out v ((HH.out W1 hB0).ps.below hb (Nat.le_trans hL hz0)) (Nat.le_trans hL (Nat.le_trans hz0 hb.size)))
          clear kR hP s0 s2 s3 HC
          go_enter Tryz.func41, Tryz.ntmps41
          go_wp2_with fail
          rw [← hW1]
          clear hW1 s1
          refine qB (S := (fun v => v.cell? ⟨pb, 0, none⟩ = some (.pointer (some ⟨fb, 0, none⟩)) ∧ v.cell? ⟨fb, 0, none⟩ = some (.int .i64 K.o) ∧ v.cell? ⟨fb, 1, none⟩ = some (.int .i64 K.l) ∧ v.cell? ⟨fb, 2, none⟩ = some (.int .i64 K.m) ∧ v.cell? ⟨fb, 3, none⟩ = some (.slice A K.ps.length cap) ∧ v.cell? ⟨fb, 4, none⟩ = some (.int .i64 K.base) ∧ v.cell? ⟨fb, 5, none⟩ = some (.int .i64 K.last) ∧ v.cell? ⟨w.heap.size, 2, none⟩ = some (.int .i64 z) ∧ v.cell? ⟨w.heap.size, 3, none⟩ = some (.string T) ∧ Below W1.heap.size W1 v)) (by kernel_rfl) (by kernel_rfl) (s9_drew hS) ?_
          refine qK ?_
          refine qK ?_
          refine qK ?_
          refine qK ?_
          refine qK ?_
          refine qK ?_
          refine qK ?_
          refine qK ?_
          refine qK ?_
          refine qK ?_
          refine qC (fun wq hSq => HQ.out wq hSq.2.2.2.2.2.2.2.2.2) (fun wq wr hbr hSq => s9_bel hbr hSq) ?_
          refine qK ?_
          refine qK ?_
          refine qK ?_
          refine qK ?_
          refine qK ?_
          refine qK ?_
          refine qK ?_
          refine qN ?_
          intro wq hSq
          (try dsimp only at hSq)
          obtain ⟨p0, k0, k1, k2, k3, k4, k5, r2, r3, hbq⟩ := hSq
          have hB1 := hB0.trans (hbq.mono hz0)
          clear hS p0 k0 k1 k2 k3 k4 k5 hbq hB0
          go_wp2_with fail
          go_ret2
          exact ⟨rfl, hB1⟩
      · skip
        have hr := HR.out
        rw [if_neg (fun h => h1 h.1)] at hr
        subst hr
        have g1 : (Y != 0) = true := by simpa using h1
        clear h1 HR
        have kR := Blk.new w 25 #[.int .i64 n, .bool false, .int .i64 z, .string T]
        obtain ⟨s0, s1, s2, s3⟩ := kR.cells4y
        have hB0 : Below w.heap.size w (w.alloc (.cells #[.int .i64 n, .bool false, .int .i64 z, .string T] 25)) := bel_alloc (Below.refl _ w) _
        have hP := HH.out _ hB0
        obtain ⟨W1, hW1⟩ : ∃ W1, W1 = w.alloc (.cells #[.int .i64 n, .bool false, .int .i64 z, .string T] 25) := ⟨_, rfl⟩
        have hS : W1.cell? ⟨pb, 0, none⟩ = some (.pointer (some ⟨fb, 0, none⟩)) ∧ W1.cell? ⟨fb, 0, none⟩ = some (.int .i64 K.o) ∧ W1.cell? ⟨fb, 1, none⟩ = some (.int .i64 K.l) ∧ W1.cell? ⟨fb, 2, none⟩ = some (.int .i64 K.m) ∧ W1.cell? ⟨fb, 3, none⟩ = some (.slice A K.ps.length cap) ∧ W1.cell? ⟨fb, 4, none⟩ = some (.int .i64 K.base) ∧ W1.cell? ⟨fb, 5, none⟩ = some (.int .i64 K.last) ∧ W1.cell? ⟨w.heap.size, 2, none⟩ = some (.int .i64 z) ∧ W1.cell? ⟨w.heap.size, 3, none⟩ = some (.string T) ∧ Below W1.heap.size W1 W1 := by
          rw [← hW1] at hP s2 s3
          obtain ⟨c0, pl, ⟨_, k0, k1, k2, k3, k4, k5⟩, fl, ps⟩ := hP
          exact ⟨c0, k0, k1, k2, k3, k4, k5, s2, s3, Below.refl _ _⟩
        rw [← hW1] at hB0
        have hz0 := hB0.size
        have HQ := hid (fun (v : World) (hb : Below W1.heap.size W1 v) => HC.out v ((HH.out W1 hB0).ps.below hb (Nat.le_trans hL hz0)) (Nat.le_trans hL (Nat.le_trans hz0 hb.size)))
        clear kR hP s0 s2 s3 HC
        go_enter Tryz.func41, Tryz.ntmps41
        go_wp2_with fail
        rw [← hW1]
        clear hW1 s1
        refine qB (S := (fun v => v.cell? ⟨pb, 0, none⟩ = some (.pointer (some ⟨fb, 0, none⟩)) ∧ v.cell? ⟨fb, 0, none⟩ = some (.int .i64 K.o) ∧ v.cell? ⟨fb, 1, none⟩ = some (.int .i64 K.l) ∧ v.cell? ⟨fb, 2, none⟩ = some (.int .i64 K.m) ∧ v.cell? ⟨fb, 3, none⟩ = some (.slice A K.ps.length cap) ∧ v.cell? ⟨fb, 4, none⟩ = some (.int .i64 K.base) ∧ v.cell? ⟨fb, 5, none⟩ = some (.int .i64 K.last) ∧ v.cell? ⟨w.heap.size, 2, none⟩ = some (.int .i64 z) ∧ v.cell? ⟨w.heap.size, 3, none⟩ = some (.string T) ∧ Below W1.heap.size W1 v)) (by kernel_rfl) (by kernel_rfl) (s9_drew hS) ?_
        refine qK ?_
        refine qK ?_
        refine qK ?_
        refine qK ?_
        refine qK ?_
        refine qK ?_
        refine qK ?_
        refine qK ?_
        refine qK ?_
        refine qK ?_
        refine qC (fun wq hSq => HQ.out wq hSq.2.2.2.2.2.2.2.2.2) (fun wq wr hbr hSq => s9_bel hbr hSq) ?_
        refine qK ?_
        refine qK ?_
        refine qK ?_
        refine qK ?_
        refine qK ?_
        refine qK ?_
        refine qK ?_
        refine qN ?_
        intro wq hSq
        (try dsimp only at hSq)
        obtain ⟨p0, k0, k1, k2, k3, k4, k5, r2, r3, hbq⟩ := hSq
        have hB1 := hB0.trans (hbq.mono hz0)
        clear hS p0 k0 k1 k2 k3 k4 k5 hbq hB0
        go_wp2_with fail
        go_ret2
        exact ⟨rfl, hB1⟩
    · have HC := hid (fun v (hp : PsAt v L A cap K.ps) (hLv : L ≤ v.heap.size) => c_Decompress_no K A cap L v hp hLv hw T hb hu)
      have hr : bdat K ⟨n, false, z, T⟩ = none := by unfold bdat; rw [if_neg (by simp), if_neg (fun h => hu h.1)]
      rw [hr]
      clear hr hu
      have kR := Blk.new w 25 #[.int .i64 n, .bool false, .int .i64 z, .string T]
      obtain ⟨s0, s1, s2, s3⟩ := kR.cells4y
      have hB0 : Below w.heap.size w (w.alloc (.cells #[.int .i64 n, .bool false, .int .i64 z, .string T] 25)) := bel_alloc (Below.refl _ w) _
      have hP := HH.out _ hB0
      obtain ⟨W1, hW1⟩ : ∃ W1, W1 = w.alloc (.cells #[.int .i64 n, .bool false, .int .i64 z, .string T] 25) := ⟨_, rfl⟩
      have hS : W1.cell? ⟨pb, 0, none⟩ = some (.pointer (some ⟨fb, 0, none⟩)) ∧ W1.cell? ⟨fb, 0, none⟩ = some (.int .i64 K.o) ∧ W1.cell? ⟨fb, 1, none⟩ = some (.int .i64 K.l) ∧ W1.cell? ⟨fb, 2, none⟩ = some (.int .i64 K.m) ∧ W1.cell? ⟨fb, 3, none⟩ = some (.slice A K.ps.length cap) ∧ W1.cell? ⟨fb, 4, none⟩ = some (.int .i64 K.base) ∧ W1.cell? ⟨fb, 5, none⟩ = some (.int .i64 K.last) ∧ W1.cell? ⟨w.heap.size, 2, none⟩ = some (.int .i64 z) ∧ W1.cell? ⟨w.heap.size, 3, none⟩ = some (.string T) ∧ Below W1.heap.size W1 W1 := by
        rw [← hW1] at hP s2 s3
        obtain ⟨c0, pl, ⟨_, k0, k1, k2, k3, k4, k5⟩, fl, ps⟩ := hP
        exact ⟨c0, k0, k1, k2, k3, k4, k5, s2, s3, Below.refl _ _⟩
      rw [← hW1] at hB0
      have hz0 := hB0.size
      have HQ := hid (fun (v : World) (hb : Below W1.heap.size W1 v) => HC.out v ((HH.out W1 hB0).ps.below hb (Nat.le_trans hL hz0)) (Nat.le_trans hL (Nat.le_trans hz0 hb.size)))
      clear kR hP s0 s2 s3 HC
      go_enter Tryz.func41, Tryz.ntmps41
      go_wp2_with fail
      rw [← hW1]
      clear hW1 s1
      refine qB (S := (fun v => v.cell? ⟨pb, 0, none⟩ = some (.pointer (some ⟨fb, 0, none⟩)) ∧ v.cell? ⟨fb, 0, none⟩ = some (.int .i64 K.o) ∧ v.cell? ⟨fb, 1, none⟩ = some (.int .i64 K.l) ∧ v.cell? ⟨fb, 2, none⟩ = some (.int .i64 K.m) ∧ v.cell? ⟨fb, 3, none⟩ = some (.slice A K.ps.length cap) ∧ v.cell? ⟨fb, 4, none⟩ = some (.int .i64 K.base) ∧ v.cell? ⟨fb, 5, none⟩ = some (.int .i64 K.last) ∧ v.cell? ⟨w.heap.size, 2, none⟩ = some (.int .i64 z) ∧ v.cell? ⟨w.heap.size, 3, none⟩ = some (.string T) ∧ Below W1.heap.size W1 v)) (by kernel_rfl) (by kernel_rfl) (s9_drew hS) ?_
      refine qK ?_
      refine qK ?_
      refine qK ?_
      refine qK ?_
      refine qK ?_
      refine qK ?_
      refine qK ?_
      refine qK ?_
      refine qK ?_
      refine qK ?_
      refine qC (fun wq hSq => HQ.out wq hSq.2.2.2.2.2.2.2.2.2) (fun wq wr hbr hSq => s9_bel hbr hSq) ?_
      refine qK ?_
      refine qK ?_
      refine qK ?_
      refine qK ?_
      refine qK ?_
      refine qK ?_
      refine qK ?_
      refine qN ?_
      intro wq hSq
      (try dsimp only at hSq)
      obtain ⟨p0, k0, k1, k2, k3, k4, k5, r2, r3, hbq⟩ := hSq
      have hB1 := hB0.trans (hbq.mono hz0)
      clear hS p0 k0 k1 k2 k3 k4 k5 hbq hB0
      go_wp2_with fail
      go_ret2
      exact ⟨rfl, hB1⟩

section
variable {L wb : Nat} {T : TypeId} {xs : List Value} {pd : Nat → Prop} {fb : Nat} {v : Value} {x : Wr} {w w' : World}

/-- a row of another type is written -/
theorem WS.otherT (h : WS L wb T xs pd fb v x w) {row : Option Nat} (hg : w.grownBy w' row) (e : TypeId) (hr : ∀ g, row = some g → ∃ cs, Blk w g e cs) (he : ¬ Fam e) (h1 : 5 ≠ e) (h2 : T ≠ e) : WS L wb T xs pd fb v x w' := by
  have key : ∀ {g : Nat} {t : TypeId} {cs : Array Value}, Blk w g t cs → t ≠ e → some g ≠ row := fun {g t cs} hb ht e1 => by
    obtain ⟨cs2, h5⟩ := hr g e1.symm
    have := hb.symm.trans h5
    simp at this
    exact ht this.2
  exact ⟨h.bx.grown hg (key h.bx h2), h.row.keep fun g cs hv hh => hh.grown hg (key hh h1), h.fa.away hg hr he, h.ap, fun g hp => Nat.lt_of_lt_of_le (h.pl g hp) hg.size, h.lb⟩
theorem WCalm.far (h : WCalm pd w w') (g : Nat) (hg : w.heap.size ≤ g) (i : Nat) (u : Value) : WCalm pd w (w'.setCell ⟨g, i, none⟩ u) := fun g2 t cs hb h1 h2 h3 h4 => (h g2 t cs hb h1 h2 h3 h4).far i u (by have := hb.lt; omega)
end

section
variable (L pb : Nat) (xs : List Value) (pd : Nat → Prop) (fb : Nat) (sv : Value) (K : Kn) (w : World)

set_option maxHeartbeats 4000000 in
set_option maxRecDepth 100000 in
theorem c_block (hKo : K.Ok) (hKc : K.cleared = K) (hL : L ≤ w.heap.size) (n : Int) (D : ByteArray) (hs : D.size ≤ maxLen) (h : WS L pb 102 xs pd fb sv (Wr.fresh K) w) : Calls Tryz.prog 37 #[.pointer (some ⟨pb, 0, none⟩), .int .i64 n, .string D] w fun e w' => e = .returned (.agg #[.int .i64 (blkOf K n D).n, .bool (blkOf K n D).raw, .int .i64 (blkOf K n D).z, .string (blkOf K n D).body]) ∧ Below L w w' ∧ WCalm pd w w' ∧ ∃ v', WS L pb 102 xs pd fb v' (Wr.fresh K) w' := by
  by_cases hu : FitsOk K D
  · have HC := hid (fun (v : World) (hb : Below w.heap.size w v) => c_compress_yes L pb xs pd fb sv K v hKc (Nat.le_trans hL hb.size) D hu (h.on hb))
    obtain ⟨X, hX⟩ : ∃ X, X = packd K D := ⟨_, rfl⟩
    rw [show K.packed (K.greedy D.data.toList) = X from hX.symm] at HC
    obtain ⟨b, hb⟩ : ∃ b, b = blkOf K n D := ⟨_, rfl⟩
    have HB := hid hb
    rw [← hb]
    clear hb
    by_cases hlt : X.size < D.size
    · have hbe : b = ⟨n, false, D.size, X⟩ := by rw [HB.out]; unfold blkOf; rw [if_pos ⟨hu, by rw [← hX]; exact hlt⟩, ← hX]
      subst hbe
      clear HB hX hu h hKo hKc
      have hlt2 : ¬ (D.size : Int) ≤ (X.size : Int) := by omega
      have kR := Blk.new w 25 #[.int .i64 0, .bool false, .int .i64 0, .string ⟨#[]⟩]
      have hB0 : Below w.heap.size w (w.alloc (.cells #[.int .i64 0, .bool false, .int .i64 0, .string ⟨#[]⟩] 25)) := bel_alloc (Below.refl _ w) _
      have HP := hid hB0.size
      go_enter Tryz.func37, Tryz.ntmps37
      go_wp2_with fail
      refine (HC.out _ hB0).mono ?_
      rintro e w1 ⟨rfl, hb1, hc1, v1, h1⟩
      have kR1 := hc1 _ _ _ kR (by decide) (by decide) (by decide) (fun e => absurd e (by decide))
      have H1 := hid (And.intro ((hB0.mono hL).trans hb1) (And.intro (((WCalm.refl pd w).on hB0).trans hc1) h1))
      obtain ⟨r0, r1, r2, r3⟩ := kR1.cells4y
      have f0 := kR1.frozen 0
      have f1 := kR1.frozen 1
      have f2 := kR1.frozen 2
      have f3 := kR1.frozen 3
      have k1 := kR1.set_ 0 (.int .i64 n)
      have k2 := k1.set_ 1 (.bool false)
      have k3 := k2.set_ 2 (.int .i64 (D.size : Nat))
      have kF := k3.set_ 3 (.string X)
      obtain ⟨j0, j1, j2, j3⟩ := kF.cells4y
      have H2 := hid (show Below L w ((((w1.setCell ⟨w.heap.size, 0, none⟩ (.int .i64 n)).setCell ⟨w.heap.size, 1, none⟩ (.bool false)).setCell ⟨w.heap.size, 2, none⟩ (.int .i64 (D.size : Nat))).setCell ⟨w.heap.size, 3, none⟩ (.string X)) ∧ WCalm pd w ((((w1.setCell ⟨w.heap.size, 0, none⟩ (.int .i64 n)).setCell ⟨w.heap.size, 1, none⟩ (.bool false)).setCell ⟨w.heap.size, 2, none⟩ (.int .i64 (D.size : Nat))).setCell ⟨w.heap.size, 3, none⟩ (.string X)) ∧ ∃ v', WS L pb 102 xs pd fb v' (Wr.fresh K) ((((w1.setCell ⟨w.heap.size, 0, none⟩ (.int .i64 n)).setCell ⟨w.heap.size, 1, none⟩ (.bool false)).setCell ⟨w.heap.size, 2, none⟩ (.int .i64 (D.size : Nat))).setCell ⟨w.heap.size, 3, none⟩ (.string X)) from
        ⟨(((H1.out.1.setCell (p := ⟨w.heap.size, 0, none⟩) hL _).setCell (p := ⟨w.heap.size, 1, none⟩) hL _).setCell (p := ⟨w.heap.size, 2, none⟩) hL _).setCell (p := ⟨w.heap.size, 3, none⟩) hL _,
         ((((H1.out.2.1.far _ (Nat.le_refl _) _ _).far _ (Nat.le_refl _) _ _).far _ (Nat.le_refl _) _ _).far _ (Nat.le_refl _) _ _),
         v1, H1.out.2.2.otherT (grown_set (grown_set (grown_set (grown_set (grown_refl w1 (some w.heap.size)) 0 _) 1 _) 2 _) 3 _) 25 (fun g e => by obtain rfl := Option.some.inj e; exact ⟨_, kR1⟩) (by decide) (by decide) (by decide)⟩)
      clear kR kR1 hb1 hc1 h1 HC k1 k2 k3 kF H1
      go_wp2_with fail
      exact bodyPost_ret (v := .agg #[.int .i64 n, .bool false, .int .i64 (D.size : Nat), .string X]) (by simp [results, Tryz.results37, go_sem, j0, j1, j2, j3]) rfl ⟨rfl, H2.out⟩
    · have hbe : b = ⟨n, true, D.size, D⟩ := by rw [HB.out]; unfold blkOf; rw [if_neg (fun h => hlt (by rw [hX]; exact h.2))]
      subst hbe
      clear HB hX hu h hKo hKc
      have hlt2 : (D.size : Int) ≤ (X.size : Int) := by omega
      have kR := Blk.new w 25 #[.int .i64 0, .bool false, .int .i64 0, .string ⟨#[]⟩]
      have hB0 : Below w.heap.size w (w.alloc (.cells #[.int .i64 0, .bool false, .int .i64 0, .string ⟨#[]⟩] 25)) := bel_alloc (Below.refl _ w) _
      have HP := hid hB0.size
      go_enter Tryz.func37, Tryz.ntmps37
      go_wp2_with fail
      refine (HC.out _ hB0).mono ?_
      rintro e w1 ⟨rfl, hb1, hc1, v1, h1⟩
      have kR1 := hc1 _ _ _ kR (by decide) (by decide) (by decide) (fun e => absurd e (by decide))
      have H1 := hid (And.intro ((hB0.mono hL).trans hb1) (And.intro (((WCalm.refl pd w).on hB0).trans hc1) h1))
      obtain ⟨r0, r1, r2, r3⟩ := kR1.cells4y
      have f0 := kR1.frozen 0
      have f1 := kR1.frozen 1
      have f2 := kR1.frozen 2
      have f3 := kR1.frozen 3
      have k1 := kR1.set_ 0 (.int .i64 n)
      have k2 := k1.set_ 1 (.bool true)
      have k3 := k2.set_ 2 (.int .i64 (D.size : Nat))
      have kF := k3.set_ 3 (.string D)
      obtain ⟨j0, j1, j2, j3⟩ := kF.cells4y
      have H2 := hid (show Below L w ((((w1.setCell ⟨w.heap.size, 0, none⟩ (.int .i64 n)).setCell ⟨w.heap.size, 1, none⟩ (.bool true)).setCell ⟨w.heap.size, 2, none⟩ (.int .i64 (D.size : Nat))).setCell ⟨w.heap.size, 3, none⟩ (.string D)) ∧ WCalm pd w ((((w1.setCell ⟨w.heap.size, 0, none⟩ (.int .i64 n)).setCell ⟨w.heap.size, 1, none⟩ (.bool true)).setCell ⟨w.heap.size, 2, none⟩ (.int .i64 (D.size : Nat))).setCell ⟨w.heap.size, 3, none⟩ (.string D)) ∧ ∃ v', WS L pb 102 xs pd fb v' (Wr.fresh K) ((((w1.setCell ⟨w.heap.size, 0, none⟩ (.int .i64 n)).setCell ⟨w.heap.size, 1, none⟩ (.bool true)).setCell ⟨w.heap.size, 2, none⟩ (.int .i64 (D.size : Nat))).setCell ⟨w.heap.size, 3, none⟩ (.string D)) from
        ⟨(((H1.out.1.setCell (p := ⟨w.heap.size, 0, none⟩) hL _).setCell (p := ⟨w.heap.size, 1, none⟩) hL _).setCell (p := ⟨w.heap.size, 2, none⟩) hL _).setCell (p := ⟨w.heap.size, 3, none⟩) hL _,
         ((((H1.out.2.1.far _ (Nat.le_refl _) _ _).far _ (Nat.le_refl _) _ _).far _ (Nat.le_refl _) _ _).far _ (Nat.le_refl _) _ _),
         v1, H1.out.2.2.otherT (grown_set (grown_set (grown_set (grown_set (grown_refl w1 (some w.heap.size)) 0 _) 1 _) 2 _) 3 _) 25 (fun g e => by obtain rfl := Option.some.inj e; exact ⟨_, kR1⟩) (by decide) (by decide) (by decide)⟩)
      clear kR kR1 hb1 hc1 h1 HC k1 k2 k3 kF H1
      go_wp2_with fail
      exact bodyPost_ret (v := .agg #[.int .i64 n, .bool true, .int .i64 (D.size : Nat), .string D]) (by simp [results, Tryz.results37, go_sem, j0, j1, j2, j3]) rfl ⟨rfl, H2.out⟩
  · have HC := hid (fun (v : World) (hb : Below w.heap.size w v) => c_compress_no L pb xs pd fb sv K v hKo hKc (Nat.le_trans hL hb.size) D hs (by rw [Bool.eq_false_iff]; exact fun e => hu ⟨hKo, e⟩) (h.on hb))
    have hbe : blkOf K n D = ⟨n, true, D.size, D⟩ := by unfold blkOf; rw [if_neg (fun h => hu h.1)]
    rw [hbe]
    clear hbe hu h hKo hKc
    have kR := Blk.new w 25 #[.int .i64 0, .bool false, .int .i64 0, .string ⟨#[]⟩]
    have hB0 : Below w.heap.size w (w.alloc (.cells #[.int .i64 0, .bool false, .int .i64 0, .string ⟨#[]⟩] 25)) := bel_alloc (Below.refl _ w) _
    have HP := hid hB0.size
    go_enter Tryz.func37, Tryz.ntmps37
    go_wp2_with fail
    refine (HC.out _ hB0).mono ?_
    rintro e w1 ⟨rfl, hb1, hc1, v1, h1⟩
    have kR1 := hc1 _ _ _ kR (by decide) (by decide) (by decide) (fun e => absurd e (by decide))
    have H1 := hid (And.intro ((hB0.mono hL).trans hb1) (And.intro (((WCalm.refl pd w).on hB0).trans hc1) h1))
    obtain ⟨r0, r1, r2, r3⟩ := kR1.cells4y
    have f0 := kR1.frozen 0
    have f1 := kR1.frozen 1
    have f2 := kR1.frozen 2
    have f3 := kR1.frozen 3
    have k1 := kR1.set_ 0 (.int .i64 n)
    have k2 := k1.set_ 1 (.bool true)
    have k3 := k2.set_ 2 (.int .i64 (D.size : Nat))
    have kF := k3.set_ 3 (.string D)
    obtain ⟨j0, j1, j2, j3⟩ := kF.cells4y
    have H2 := hid (show Below L w ((((w1.setCell ⟨w.heap.size, 0, none⟩ (.int .i64 n)).setCell ⟨w.heap.size, 1, none⟩ (.bool true)).setCell ⟨w.heap.size, 2, none⟩ (.int .i64 (D.size : Nat))).setCell ⟨w.heap.size, 3, none⟩ (.string D)) ∧ WCalm pd w ((((w1.setCell ⟨w.heap.size, 0, none⟩ (.int .i64 n)).setCell ⟨w.heap.size, 1, none⟩ (.bool true)).setCell ⟨w.heap.size, 2, none⟩ (.int .i64 (D.size : Nat))).setCell ⟨w.heap.size, 3, none⟩ (.string D)) ∧ ∃ v', WS L pb 102 xs pd fb v' (Wr.fresh K) ((((w1.setCell ⟨w.heap.size, 0, none⟩ (.int .i64 n)).setCell ⟨w.heap.size, 1, none⟩ (.bool true)).setCell ⟨w.heap.size, 2, none⟩ (.int .i64 (D.size : Nat))).setCell ⟨w.heap.size, 3, none⟩ (.string D)) from
      ⟨(((H1.out.1.setCell (p := ⟨w.heap.size, 0, none⟩) hL _).setCell (p := ⟨w.heap.size, 1, none⟩) hL _).setCell (p := ⟨w.heap.size, 2, none⟩) hL _).setCell (p := ⟨w.heap.size, 3, none⟩) hL _,
       ((((H1.out.2.1.far _ (Nat.le_refl _) _ _).far _ (Nat.le_refl _) _ _).far _ (Nat.le_refl _) _ _).far _ (Nat.le_refl _) _ _),
       v1, H1.out.2.2.otherT (grown_set (grown_set (grown_set (grown_set (grown_refl w1 (some w.heap.size)) 0 _) 1 _) 2 _) 3 _) 25 (fun g e => by obtain rfl := Option.some.inj e; exact ⟨_, kR1⟩) (by decide) (by decide) (by decide)⟩)
    clear kR kR1 hb1 hc1 h1 HC k1 k2 k3 kF H1
    go_wp2_with fail
    exact bodyPost_ret (v := .agg #[.int .i64 n, .bool true, .int .i64 (D.size : Nat), .string D]) (by simp [results, Tryz.results37, go_sem, j0, j1, j2, j3]) rfl ⟨rfl, H2.out⟩
end
end Go.Proofs.YtmlaaammfnboiaaGreatDoor
