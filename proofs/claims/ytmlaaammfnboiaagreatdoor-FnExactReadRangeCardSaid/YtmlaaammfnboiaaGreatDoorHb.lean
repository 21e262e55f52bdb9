/- Blocks of data: what a block holds by what is known, and what data a block gives; the contracts in both programs. No condition but that the numbers are int's. -/
import Derived.Test.YtmlaaammfnboiaaGreatDoorUa
import Derived.Test.YtmlaaammfnboiaaGreatDoorWdw
import Derived.Test.YtmlaaammfnboiaaGreatDoorUb
import Derived.Test.YtmlaaammfnboiaaGreatDoorQy
namespace Go.Proofs.YtmlaaammfnboiaaGreatDoor
open Go.ChangeShapes Go.WideShapes Go.ChangeAt Go.RowKit Go.Joins
set_option linter.unusedVariables false
set_option linter.unusedSimpArgs false

theorem begun_ok {o l m : Int} (hset : setOk o l m = true) : (begun o l m).Ok := by
 obtain ⟨s1, ⟨s2, s3⟩, s4, s5⟩ := setOk_iff.1 hset
 refine ⟨hset, ?_, fun i p hp => by simp [begun] at hp, Int.le_refl _, by simp [begun], .inr ⟨rfl, rfl⟩⟩
 have e1 : ∀ a : Int, 0 ≤ a → pow2 a = ((2 ^ a.toNat : Nat) : Int) := fun a _ => by simp [pow2]
 have hm : (2 : Nat) ^ (l.toNat + 2) ≤ 2 ^ m.toNat := Nat.pow_le_pow_right (by omega) (by omega)
 have hl : (2 : Nat) ^ 1 ≤ 2 ^ l.toNat := Nat.pow_le_pow_right (by omega) (by omega)
 rw [Nat.pow_add] at hm
 show ((0 : Nat) : Int) ≤ pow2 m - 1 - (pow2 l + 1)
 rw [e1 _ (by omega), e1 _ (by omega)]
 omega
theorem fits_begun (o l m : Int) (D : ByteArray) : FitsOk (begun o l m) D ↔ dataFits o l m D = true := by
 constructor
 ·exact fun h => h.2
 ·intro h
  refine ⟨begun_ok ?_, h⟩
  unfold dataFits at h
  simp only [Bool.and_eq_true] at h
  exact h.1.1

/-- what a stream gives -/
def unpd (K : Kn) (T : ByteArray) : ByteArray := str (K.dat (K.uc T))
open Classical in
/-- the data of a block -/
noncomputable def bdat (K : Kn) (b : Bl) : Option ByteArray := if b.raw = true then some b.body else if UnpOk K b.body ∧ K.ue b.body = 0 ∧ K.uu b.body = b.body.size ∧ ((unpd K b.body).size : Int) = b.z then some (unpd K b.body) else none

section
variable (o l m : Int) (dict : ByteArray) (hk : FitsOk (begun o l m) dict) (K : Kn) (hK : K = (begun o l m).learned dict.data.toList)

include hk hK

/-- what is returned of data that may be lacking -/
def optV (r : Option ByteArray) : Value := match r with | some d => .tuple #[.string d, .bool true] | none => .tuple #[.string ByteArray.empty, .bool false]

set_option maxHeartbeats 4000000 in
set_option maxRecDepth 100000 in
theorem c_l5Data (b : Bl) (w : World) (hb : b.body.size ≤ maxLen) : Calls Tryz.prog 39 #[.agg #[.int .i64 o, .int .i64 l, .int .i64 m], .string dict, .agg #[.int .i64 b.n, .bool b.raw, .int .i64 b.z, .string b.body]] w fun e w' => e = .returned (optV (bdat K b)) ∧ Below w.heap.size w w' := by
 obtain ⟨n, raw, z, T⟩ := b
 simp only at hb ⊢
 cases raw with
 | true =>
  have hr : bdat K ⟨n, true, z, T⟩ = some T := by unfold bdat; simp
  rw [hr]
  clear hr hk hK
  go_enter Tryz.func39, Tryz.ntmps39
  go_wp2_with fail
  go_ret2
  exact ⟨rfl, by exact obB⟩
 | false =>
  by_cases hu : UnpOk K T
  ·have HC := hid (fun v => c_sDecompressWith_yes o l m v dict T hk K hK hu)
   obtain ⟨X, hX⟩ : ∃ X, X = unpd K T := ⟨_, rfl⟩
   obtain ⟨Y, hY⟩ : ∃ Y, Y = K.ue T := ⟨_, rfl⟩
   obtain ⟨Z, hZ⟩ : ∃ Z, Z = K.uu T := ⟨_, rfl⟩
   rw [show str (K.dat (K.uc T)) = X from hX.symm, ← hY, ← hZ] at HC
   have HR := hid (show bdat K ⟨n, false, z, T⟩ = if Y = 0 ∧ Z = T.size ∧ (X.size : Int) = z then some X else none by
    unfold bdat
    rw [if_neg (by simp)]
    simp only
    rw [← hX, ← hY, ← hZ]
    by_cases h : Y = 0 ∧ Z = T.size ∧ (X.size : Int) = z
    ·rw [if_pos ⟨hu, h⟩, if_pos h]
    ·rw [if_neg (fun h2 => h h2.2), if_neg h])
   clear hX hY hZ hu
   obtain ⟨R, hR⟩ : ∃ R, R = bdat K ⟨n, false, z, T⟩ := ⟨_, rfl⟩
   rw [← hR] at HR ⊢
   clear hR
   clear hk hK
   by_cases h1 : Y = 0
   ·by_cases h2 : Z = T.size
    ·by_cases h3 : (X.size : Int) = z
     ·skip
      have hr := HR.out
      rw [if_pos ⟨h1, h2, h3⟩] at hr
      subst hr
      have g1 : (Y != 0) = false := by rw [h1]; rfl
      have g2 : ((Z : Int) != (T.size : Int)) = false := by rw [h2]; simp
      have g3 : ((X.size : Int) != z) = false := by rw [h3]; simp
      clear h1 h2 h3 HR
      have kS := (Blk.new w 28 #[.int .i64 o, .int .i64 l, .int .i64 m]).alloc (.cells #[.int .i64 n, .bool false, .int .i64 z, .string T] 25)
      have kR : Blk ((w.alloc (.cells #[.int .i64 o, .int .i64 l, .int .i64 m] 28)).alloc (.cells #[.int .i64 n, .bool false, .int .i64 z, .string T] 25)) (w.heap.size + 1) 25 #[.int .i64 n, .bool false, .int .i64 z, .string T] := by
       have := Blk.new (w.alloc (.cells #[.int .i64 o, .int .i64 l, .int .i64 m] 28)) 25 #[.int .i64 n, .bool false, .int .i64 z, .string T]
       rwa [World.size_alloc] at this
      have hB0 : Below w.heap.size w ((w.alloc (.cells #[.int .i64 o, .int .i64 l, .int .i64 m] 28)).alloc (.cells #[.int .i64 n, .bool false, .int .i64 z, .string T] 25)) := bel_alloc (bel_alloc (Below.refl _ w) _) _
      obtain ⟨y0, y1, y2⟩ := kS.cells3
      obtain ⟨s0, s1, s2, s3⟩ := kR.cells4y
      go_enter Tryz.func39, Tryz.ntmps39
      go_wp2_with fail
      refine (HC.out _).mono ?_
      rintro e w1 ⟨rfl, hb1⟩
      have kR1 := kR.on hb1
      have hB1 := hB0.trans (hb1.mono hB0.size)
      obtain ⟨r0, r1, r2, r3⟩ := kR1.cells4y
      clear kS kR y0 y1 y2 s0 s1 s2 s3 hb1 hB0 kR1
      go_wp2_with fail
      go_ret2
      exact ⟨rfl, hB1⟩
     ·skip
      have hr := HR.out
      rw [if_neg (fun h => h3 h.2.2)] at hr
      subst hr
      have g1 : (Y != 0) = false := by rw [h1]; rfl
      have g2 : ((Z : Int) != (T.size : Int)) = false := by rw [h2]; simp
      have g3 : ((X.size : Int) != z) = true := by simpa using h3
      clear h1 h2 h3 HR
      have kS := (Blk.new w 28 #[.int .i64 o, .int .i64 l, .int .i64 m]).alloc (.cells #[.int .i64 n, .bool false, .int .i64 z, .string T] 25)
      have kR : Blk ((w.alloc (.cells #[.int .i64 o, .int .i64 l, .int .i64 m] 28)).alloc (.cells #[.int .i64 n, .bool false, .int .i64 z, .string T] 25)) (w.heap.size + 1) 25 #[.int .i64 n, .bool false, .int .i64 z, .string T] := by
       have := Blk.new (w.alloc (.cells #[.int .i64 o, .int .i64 l, .int .i64 m] 28)) 25 #[.int .i64 n, .bool false, .int .i64 z, .string T]
       rwa [World.size_alloc] at this
      have hB0 : Below w.heap.size w ((w.alloc (.cells #[.int .i64 o, .int .i64 l, .int .i64 m] 28)).alloc (.cells #[.int .i64 n, .bool false, .int .i64 z, .string T] 25)) := bel_alloc (bel_alloc (Below.refl _ w) _) _
      obtain ⟨y0, y1, y2⟩ := kS.cells3
      obtain ⟨s0, s1, s2, s3⟩ := kR.cells4y
      go_enter Tryz.func39, Tryz.ntmps39
      go_wp2_with fail
      refine (HC.out _).mono ?_
      rintro e w1 ⟨rfl, hb1⟩
      have kR1 := kR.on hb1
      have hB1 := hB0.trans (hb1.mono hB0.size)
      obtain ⟨r0, r1, r2, r3⟩ := kR1.cells4y
      clear kS kR y0 y1 y2 s0 s1 s2 s3 hb1 hB0 kR1
      go_wp2_with fail
      go_ret2
      exact ⟨rfl, hB1⟩
    ·skip
     have hr := HR.out
     rw [if_neg (fun h => h2 h.2.1)] at hr
     subst hr
     have g1 : (Y != 0) = false := by rw [h1]; rfl
     have g2 : ((Z : Int) != (T.size : Int)) = true := by simp; omega
     clear h1 h2 HR
     have kS := (Blk.new w 28 #[.int .i64 o, .int .i64 l, .int .i64 m]).alloc (.cells #[.int .i64 n, .bool false, .int .i64 z, .string T] 25)
     have kR : Blk ((w.alloc (.cells #[.int .i64 o, .int .i64 l, .int .i64 m] 28)).alloc (.cells #[.int .i64 n, .bool false, .int .i64 z, .string T] 25)) (w.heap.size + 1) 25 #[.int .i64 n, .bool false, .int .i64 z, .string T] := by
      have := Blk.new (w.alloc (.cells #[.int .i64 o, .int .i64 l, .int .i64 m] 28)) 25 #[.int .i64 n, .bool false, .int .i64 z, .string T]
      rwa [World.size_alloc] at this
     have hB0 : Below w.heap.size w ((w.alloc (.cells #[.int .i64 o, .int .i64 l, .int .i64 m] 28)).alloc (.cells #[.int .i64 n, .bool false, .int .i64 z, .string T] 25)) := bel_alloc (bel_alloc (Below.refl _ w) _) _
     obtain ⟨y0, y1, y2⟩ := kS.cells3
     obtain ⟨s0, s1, s2, s3⟩ := kR.cells4y
     go_enter Tryz.func39, Tryz.ntmps39
     go_wp2_with fail
     refine (HC.out _).mono ?_
     rintro e w1 ⟨rfl, hb1⟩
     have kR1 := kR.on hb1
     have hB1 := hB0.trans (hb1.mono hB0.size)
     obtain ⟨r0, r1, r2, r3⟩ := kR1.cells4y
     clear kS kR y0 y1 y2 s0 s1 s2 s3 hb1 hB0 kR1
     go_wp2_with fail
     go_ret2
     exact ⟨rfl, hB1⟩
   ·skip
    have hr := HR.out
    rw [if_neg (fun h => h1 h.1)] at hr
    subst hr
    have g1 : (Y != 0) = true := by simpa using h1
    clear h1 HR
    have kS := (Blk.new w 28 #[.int .i64 o, .int .i64 l, .int .i64 m]).alloc (.cells #[.int .i64 n, .bool false, .int .i64 z, .string T] 25)
    have kR : Blk ((w.alloc (.cells #[.int .i64 o, .int .i64 l, .int .i64 m] 28)).alloc (.cells #[.int .i64 n, .bool false, .int .i64 z, .string T] 25)) (w.heap.size + 1) 25 #[.int .i64 n, .bool false, .int .i64 z, .string T] := by
     have := Blk.new (w.alloc (.cells #[.int .i64 o, .int .i64 l, .int .i64 m] 28)) 25 #[.int .i64 n, .bool false, .int .i64 z, .string T]
     rwa [World.size_alloc] at this
    have hB0 : Below w.heap.size w ((w.alloc (.cells #[.int .i64 o, .int .i64 l, .int .i64 m] 28)).alloc (.cells #[.int .i64 n, .bool false, .int .i64 z, .string T] 25)) := bel_alloc (bel_alloc (Below.refl _ w) _) _
    obtain ⟨y0, y1, y2⟩ := kS.cells3
    obtain ⟨s0, s1, s2, s3⟩ := kR.cells4y
    go_enter Tryz.func39, Tryz.ntmps39
    go_wp2_with fail
    refine (HC.out _).mono ?_
    rintro e w1 ⟨rfl, hb1⟩
    have kR1 := kR.on hb1
    have hB1 := hB0.trans (hb1.mono hB0.size)
    obtain ⟨r0, r1, r2, r3⟩ := kR1.cells4y
    clear kS kR y0 y1 y2 s0 s1 s2 s3 hb1 hB0 kR1
    go_wp2_with fail
    go_ret2
    exact ⟨rfl, hB1⟩
  ·have HC := hid (fun v => c_sDecompressWith_bad o l m v dict T hk K hK hb hu)
   have hr : bdat K ⟨n, false, z, T⟩ = none := by unfold bdat; rw [if_neg (by simp), if_neg (fun h => hu h.1)]
   rw [hr]
   clear hr hu hk hK
   have kS := (Blk.new w 28 #[.int .i64 o, .int .i64 l, .int .i64 m]).alloc (.cells #[.int .i64 n, .bool false, .int .i64 z, .string T] 25)
   have kR : Blk ((w.alloc (.cells #[.int .i64 o, .int .i64 l, .int .i64 m] 28)).alloc (.cells #[.int .i64 n, .bool false, .int .i64 z, .string T] 25)) (w.heap.size + 1) 25 #[.int .i64 n, .bool false, .int .i64 z, .string T] := by
    have := Blk.new (w.alloc (.cells #[.int .i64 o, .int .i64 l, .int .i64 m] 28)) 25 #[.int .i64 n, .bool false, .int .i64 z, .string T]
    rwa [World.size_alloc] at this
   have hB0 : Below w.heap.size w ((w.alloc (.cells #[.int .i64 o, .int .i64 l, .int .i64 m] 28)).alloc (.cells #[.int .i64 n, .bool false, .int .i64 z, .string T] 25)) := bel_alloc (bel_alloc (Below.refl _ w) _) _
   obtain ⟨y0, y1, y2⟩ := kS.cells3
   obtain ⟨s0, s1, s2, s3⟩ := kR.cells4y
   go_enter Tryz.func39, Tryz.ntmps39
   go_wp2_with fail
   refine (HC.out _).mono ?_
   rintro e w1 ⟨rfl, hb1⟩
   have kR1 := kR.on hb1
   have hB1 := hB0.trans (hb1.mono hB0.size)
   obtain ⟨r0, r1, r2, r3⟩ := kR1.cells4y
   clear kS kR y0 y1 y2 s0 s1 s2 s3 hb1 hB0 kR1
   go_wp2_with fail
   go_ret2
   exact ⟨rfl, hB1⟩
end

/-- a primed writer as far as reading goes: its finder's box, and what is known there -/
structure PD (pb fb : Nat) (K : Kn) (A : Option Addr) (cap L : Nat) (w : World) : Prop where
 c0 : w.cell? ⟨pb, 0, none⟩ = some (.pointer (some ⟨fb, 0, none⟩))
 pl : pb < L
 ka : KAt w fb K (.slice A K.ps.length cap)
 fl : fb < L
 ps : PsAt w L A cap K.ps
theorem PD.below {pb fb : Nat} {K : Kn} {A : Option Addr} {cap L B : Nat} {w w' : World} (h : PD pb fb K A cap L w) (hb : Below B w w') (hL : L ≤ B) : PD pb fb K A cap L w' := by
 have h1 := h.pl
 have h2 := h.fl
 exact ⟨(World.cell?_of_block (a := ⟨pb, 0, none⟩) (hb.block pb (by omega))).trans h.c0, h1, h.ka.on hb (by omega), h2, h.ps.below hb hL⟩
theorem PD.of {L wb : Nat} {T : TypeId} {xs : List Value} {pd : Nat → Prop} {fb : Nat} {v : Value} {K : Kn} {w : World} (h : WS L wb T xs pd fb v (Wr.fresh K) w) : ∃ A cap, PD wb fb K A cap w.heap.size w := by
 obtain ⟨A, cap, nb, cap2, N, Lo, bm, n, hn, hF⟩ := h.fa
 have hk : KAt w fb K (.slice A K.ps.length cap) := hF.kat
 exact ⟨A, cap, h.c0, h.bx.lt, hk, hk.1, own_ps_at hF.row⟩

set_option maxHeartbeats 4000000 in
set_option maxRecDepth 100000 in
theorem c_blockData (pb fb : Nat) (K : Kn) (A : Option Addr) (cap L : Nat) (hw : K.Wf) (b : Bl) (w : World) (h : PD pb fb K A cap L w) (hL : L ≤ w.heap.size) (hb : b.body.size ≤ maxLen) : Calls Tryz.prog 41 #[.pointer (some ⟨pb, 0, none⟩), .agg #[.int .i64 b.n, .bool b.raw, .int .i64 b.z, .string b.body]] w fun e w' => e = .returned (optV (bdat K b)) ∧ Below w.heap.size w w' := by
 obtain ⟨n, raw, z, T⟩ := b
 simp only at hb ⊢
 cases raw with
 | true =>
  have hr : bdat K ⟨n, true, z, T⟩ = some T := by unfold bdat; simp
  rw [hr]
  clear hr
  go_enter Tryz.func41, Tryz.ntmps41
  go_wp2_with fail
  go_ret2
  exact ⟨rfl, by exact obB⟩
 | false =>
  have HH := hid (fun (v : World) (hb : Below w.heap.size w v) => h.below hb hL)
  clear h
  by_cases hu : UnpOk K T
  ·have HC := hid (fun v (hp : PsAt v L A cap K.ps) (hLv : L ≤ v.heap.size) => c_Decompress_yes K A cap L v hp hLv hw T hu)
   obtain ⟨X, hX⟩ : ∃ X, X = unpd K T := ⟨_, rfl⟩
   obtain ⟨Y, hY⟩ : ∃ Y, Y = K.ue T := ⟨_, rfl⟩
   obtain ⟨Z, hZ⟩ : ∃ Z, Z = K.uu T := ⟨_, rfl⟩
   rw [show str (K.dat (K.uc T)) = X from hX.symm, ← hY, ← hZ] at HC
   have HR := hid (show bdat K ⟨n, false, z, T⟩ = if Y = 0 ∧ Z = T.size ∧ (X.size : Int) = z then some X else none by
    unfold bdat
    rw [if_neg (by simp)]
    simp only
    rw [← hX, ← hY, ← hZ]
    by_cases h : Y = 0 ∧ Z = T.size ∧ (X.size : Int) = z
    ·rw [if_pos ⟨hu, h⟩, if_pos h]
    ·rw [if_neg (fun h2 => h h2.2), if_neg h])
   clear hX hY hZ hu
   obtain ⟨R, hR⟩ : ∃ R, R = bdat K ⟨n, false, z, T⟩ := ⟨_, rfl⟩
   rw [← hR] at HR ⊢
   clear hR
   by_cases h1 : Y = 0
   ·by_cases h2 : Z = T.size
    ·by_cases h3 : (X.size : Int) = z
     ·skip
      have hr := HR.out
      rw [if_pos ⟨h1, h2, h3⟩] at hr
      subst hr
      have g1 : (Y != 0) = false := by rw [h1]; rfl
      have g2 : ((Z : Int) != (T.size : Int)) = false := by rw [h2]; simp
      have g3 : ((X.size : Int) != z) = false := by rw [h3]; simp
      clear h1 h2 h3 HR
      have kR := Blk.new w 25 #[.int .i64 n, .bool false, .int .i64 z, .string T]
      obtain ⟨s0, s1, s2, s3⟩ := kR.cells4y
      have hB0 : Below w.heap.size w (w.alloc (.cells #[.int .i64 n, .bool false, .int .i64 z, .string T] 25)) := bel_alloc (Below.refl _ w) _
      have hP := HH.out _ hB0
      obtain ⟨W1, hW1⟩ : ∃ W1, W1 = w.alloc (.cells #[.int .i64 n, .bool false, .int .i64 z, .string T] 25) := ⟨_, rfl⟩
      have hS : W1.cell? ⟨pb, 0, none⟩ = some (.pointer (some ⟨fb, 0, none⟩)) ∧ W1.cell? ⟨fb, 0, none⟩ = some (.int .i64 K.o) ∧ W1.cell? ⟨fb, 1, none⟩ = some (.int .i64 K.l) ∧ W1.cell? ⟨fb, 2, none⟩ = some (.int .i64 K.m) ∧ W1.cell? ⟨fb, 3, none⟩ = some (.slice A K.ps.length cap) ∧ W1.cell? ⟨fb, 4, none⟩ = some (.int .i64 K.base) ∧ W1.cell? ⟨fb, 5, none⟩ = some (.int .i64 K.last) ∧ W1.cell? ⟨w.heap.size, 2, none⟩ = some (.int .i64 z) ∧ W1.cell? ⟨w.heap.size, 3, none⟩ = some (.string T) ∧ Below W1.heap.size W1 W1 := by
       rw [← hW1] at hP s2 s3
       obtain ⟨c0, pl, ⟨_, k0, k1, k2, k3, k4, k5⟩, fl, ps⟩ := hP
       exact ⟨c0, k0, k1, k2, k3, k4, k5, s2, s3, Below.refl _ _⟩
      rw [← hW1] at hB0
      have hz0 := hB0.size
      have HQ := hid (fun (v : World) (hb : Below W1.heap.size W1 v) => HC.out v ((HH.out W1 hB0).ps.below hb (Nat.le_trans hL hz0)) (Nat.le_trans hL (Nat.le_trans hz0 hb.size)))
      clear kR hP s0 s2 s3 HC
      go_enter Tryz.func41, Tryz.ntmps41
      go_wp2_with fail
      rw [← hW1]
      clear hW1 s1
      refine qB (S := (fun v => v.cell? ⟨pb, 0, none⟩ = some (.pointer (some ⟨fb, 0, none⟩)) ∧ v.cell? ⟨fb, 0, none⟩ = some (.int .i64 K.o) ∧ v.cell? ⟨fb, 1, none⟩ = some (.int .i64 K.l) ∧ v.cell? ⟨fb, 2, none⟩ = some (.int .i64 K.m) ∧ v.cell? ⟨fb, 3, none⟩ = some (.slice A K.ps.length cap) ∧ v.cell? ⟨fb, 4, none⟩ = some (.int .i64 K.base) ∧ v.cell? ⟨fb, 5, none⟩ = some (.int .i64 K.last) ∧ v.cell? ⟨w.heap.size, 2, none⟩ = some (.int .i64 z) ∧ v.cell? ⟨w.heap.size, 3, none⟩ = some (.string T) ∧ Below W1.heap.size W1 v)) (by kernel_rfl) (by kernel_rfl) (s9_drew hS) ?_
      refine qK ?_
      refine qK ?_
      refine qK ?_
      refine qK ?_
      refine qK ?_
      refine qK ?_
      refine qK ?_
      refine qK ?_
      refine qK ?_
      refine qK ?_
      refine qC (fun wq hSq => HQ.out wq hSq.2.2.2.2.2.2.2.2.2) (fun wq wr hbr hSq => s9_bel hbr hSq) ?_
      refine qK ?_
      refine qK ?_
      refine qK ?_
      refine qK ?_
      refine qK ?_
      refine qK ?_
      refine qK ?_
      refine qN ?_
      intro wq hSq
      (try dsimp only at hSq)
      obtain ⟨p0, k0, k1, k2, k3, k4, k5, r2, r3, hbq⟩ := hSq
      have hB1 := hB0.trans (hbq.mono hz0)
      clear hS p0 k0 k1 k2 k3 k4 k5 hbq hB0
      go_wp2_with fail
      go_ret2
      exact ⟨rfl, hB1⟩
     ·skip
      have hr := HR.out
      rw [if_neg (fun h => h3 h.2.2)] at hr
      subst hr
      have g1 : (Y != 0) = false := by rw [h1]; rfl
      have g2 : ((Z : Int) != (T.size : Int)) = false := by rw [h2]; simp
      have g3 : ((X.size : Int) != z) = true := by simpa using h3
      clear h1 h2 h3 HR
      have kR := Blk.new w 25 #[.int .i64 n, .bool false, .int .i64 z, .string T]
      obtain ⟨s0, s1, s2, s3⟩ := kR.cells4y
      have hB0 : Below w.heap.size w (w.alloc (.cells #[.int .i64 n, .bool false, .int .i64 z, .string T] 25)) := bel_alloc (Below.refl _ w) _
      have hP := HH.out _ hB0
      obtain ⟨W1, hW1⟩ : ∃ W1, W1 = w.alloc (.cells #[.int .i64 n, .bool false, .int .i64 z, .string T] 25) := ⟨_, rfl⟩
      have hS : W1.cell? ⟨pb, 0, none⟩ = some (.pointer (some ⟨fb, 0, none⟩)) ∧ W1.cell? ⟨fb, 0, none⟩ = some (.int .i64 K.o) ∧ W1.cell? ⟨fb, 1, none⟩ = some (.int .i64 K.l) ∧ W1.cell? ⟨fb, 2, none⟩ = some (.int .i64 K.m) ∧ W1.cell? ⟨fb, 3, none⟩ = some (.slice A K.ps.length cap) ∧ W1.cell? ⟨fb, 4, none⟩ = some (.int .i64 K.base) ∧ W1.cell? ⟨fb, 5, none⟩ = some (.int .i64 K.last) ∧ W1.cell? ⟨w.heap.size, 2, none⟩ = some (.int .i64 z) ∧ W1.cell? ⟨w.heap.size, 3, none⟩ = some (.string T) ∧ Below W1.heap.size W1 W1 := by
       rw [← hW1] at hP s2 s3
       obtain ⟨c0, pl, ⟨_, k0, k1, k2, k3, k4, k5⟩, fl, ps⟩ := hP
       exact ⟨c0, k0, k1, k2, k3, k4, k5, s2, s3, Below.refl _ _⟩
      rw [← hW1] at hB0
      have hz0 := hB0.size
      have HQ := hid (fun (v : World) (hb : Below W1.heap.size W1 v) => HC.out v ((HH.out W1 hB0).ps.below hb (Nat.le_trans hL hz0)) (Nat.le_trans hL (Nat.le_trans hz0 hb.size)))
      clear kR hP s0 s2 s3 HC
      go_enter Tryz.func41, Tryz.ntmps41
      go_wp2_with fail
      rw [← hW1]
      clear hW1 s1
      refine qB (S := (fun v => v.cell? ⟨pb, 0, none⟩ = some (.pointer (some ⟨fb, 0, none⟩)) ∧ v.cell? ⟨fb, 0, none⟩ = some (.int .i64 K.o) ∧ v.cell? ⟨fb, 1, none⟩ = some (.int .i64 K.l) ∧ v.cell? ⟨fb, 2, none⟩ = some (.int .i64 K.m) ∧ v.cell? ⟨fb, 3, none⟩ = some (.slice A K.ps.length cap) ∧ v.cell? ⟨fb, 4, none⟩ = some (.int .i64 K.base) ∧ v.cell? ⟨fb, 5, none⟩ = some (.int .i64 K.last) ∧ v.cell? ⟨w.heap.size, 2, none⟩ = some (.int .i64 z) ∧ v.cell? ⟨w.heap.size, 3, none⟩ = some (.string T) ∧ Below W1.heap.size W1 v)) (by kernel_rfl) (by kernel_rfl) (s9_drew hS) ?_
      refine qK ?_
      refine qK ?_
      refine qK ?_
      refine qK ?_
      refine qK ?_
      refine qK ?_
      refine qK ?_
      refine qK ?_
      refine qK ?_
      refine qK ?_
      refine qC (fun wq hSq => HQ.out wq hSq.2.2.2.2.2.2.2.2.2) (fun wq wr hbr hSq => s9_bel hbr hSq) ?_
      refine qK ?_
      refine qK ?_
      refine qK ?_
      refine qK ?_
      refine qK ?_
      refine qK ?_
      refine qK ?_
      refine qN ?_
      intro wq hSq
      (try dsimp only at hSq)
      obtain ⟨p0, k0, k1, k2, k3, k4, k5, r2, r3, hbq⟩ := hSq
      have hB1 := hB0.trans (hbq.mono hz0)
      clear hS p0 k0 k1 k2 k3 k4 k5 hbq hB0
      go_wp2_with fail
      go_ret2
      exact ⟨rfl, hB1⟩
    ·skip
     have hr := HR.out
     rw [if_neg (fun h => h2 h.2.1)] at hr
     subst hr
     have g1 : (Y != 0) = false := by rw [h1]; rfl
     have g2 : ((Z : Int) != (T.size : Int)) = true := by simp; omega
     clear h1 h2 HR
     have kR := Blk.new w 25 #[.int .i64 n, .bool false, .int .i64 z, .string T]
     obtain ⟨s0, s1, s2, s3⟩ := kR.cells4y
     have hB0 : Below w.heap.size w (w.alloc (.cells #[.int .i64 n, .bool false, .int .i64 z, .string T] 25)) := bel_alloc (Below.refl _ w) _
     have hP := HH.out _ hB0
     obtain ⟨W1, hW1⟩ : ∃ W1, W1 = w.alloc (.cells #[.int .i64 n, .bool false, .int .i64 z, .string T] 25) := ⟨_, rfl⟩
     have hS : W1.cell? ⟨pb, 0, none⟩ = some (.pointer (some ⟨fb, 0, none⟩)) ∧ W1.cell? ⟨fb, 0, none⟩ = some (.int .i64 K.o) ∧ W1.cell? ⟨fb, 1, none⟩ = some (.int .i64 K.l) ∧ W1.cell? ⟨fb, 2, none⟩ = some (.int .i64 K.m) ∧ W1.cell? ⟨fb, 3, none⟩ = some (.slice A K.ps.length cap) ∧ W1.cell? ⟨fb, 4, none⟩ = some (.int .i64 K.base) ∧ W1.cell? ⟨fb, 5, none⟩ = some (.int .i64 K.last) ∧ W1.cell? ⟨w.heap.size, 2, none⟩ = some (.int .i64 z) ∧ W1.cell? ⟨w.heap.size, 3, none⟩ = some (.string T) ∧ Below W1.heap.size W1 W1 := by
      rw [← hW1] at hP s2 s3
      obtain ⟨c0, pl, ⟨_, k0, k1, k2, k3, k4, k5⟩, fl, ps⟩ := hP
      exact ⟨c0, k0, k1, k2, k3, k4, k5, s2, s3, Below.refl _ _⟩
     rw [← hW1] at hB0
     have hz0 := hB0.size
     have HQ := hid (fun (v : World) (hb : Below W1.heap.size W1 v) => HC.out v ((HH.out W1 hB0).ps.below hb (Nat.le_trans hL hz0)) (Nat.le_trans hL (Nat.le_trans hz0 hb.size)))
     clear kR hP s0 s2 s3 HC
     go_enter Tryz.func41, Tryz.ntmps41
     go_wp2_with fail
     rw [← hW1]
     clear hW1 s1
     refine qB (S := (fun v => v.cell? ⟨pb, 0, none⟩ = some (.pointer (some ⟨fb, 0, none⟩)) ∧ v.cell? ⟨fb, 0, none⟩ = some (.int .i64 K.o) ∧ v.cell? ⟨fb, 1, none⟩ = some (.int .i64 K.l) ∧ v.cell? ⟨fb, 2, none⟩ = some (.int .i64 K.m) ∧ v.cell? ⟨fb, 3, none⟩ = some (.slice A K.ps.length cap) ∧ v.cell? ⟨fb, 4, none⟩ = some (.int .i64 K.base) ∧ v.cell? ⟨fb, 5, none⟩ = some (.int .i64 K.last) ∧ v.cell? ⟨w.heap.size, 2, none⟩ = some (.int .i64 z) ∧ v.cell? ⟨w.heap.size, 3, none⟩ = some (.string T) ∧ Below W1.heap.size W1 v)) (by kernel_rfl) (by kernel_rfl) (s9_drew hS) ?_
     refine qK ?_
     refine qK ?_
     refine qK ?_
     refine qK ?_
     refine qK ?_
     refine qK ?_
     refine qK ?_
     refine qK ?_
     refine qK ?_
     refine qK ?_
     refine qC (fun wq hSq => HQ.out wq hSq.2.2.2.2.2.2.2.2.2) (fun wq wr hbr hSq => s9_bel hbr hSq) ?_
     refine qK ?_
     refine qK ?_
     refine qK ?_
     refine qK ?_
     refine qK ?_
     refine qK ?_
     refine qK ?_
     refine qN ?_
     intro wq hSq
     (try dsimp only at hSq)
     obtain ⟨p0, k0, k1, k2, k3, k4, k5, r2, r3, hbq⟩ := hSq
     have hB1 := hB0.trans (hbq.mono hz0)
     clear hS p0 k0 k1 k2 k3 k4 k5 hbq hB0
     go_wp2_with fail
     go_ret2
     exact ⟨rfl, hB1⟩
   ·skip
    have hr := HR.out
    rw [if_neg (fun h => h1 h.1)] at hr
    subst hr
    have g1 : (Y != 0) = true := by simpa using h1
    clear h1 HR
    have kR := Blk.new w 25 #[.int .i64 n, .bool false, .int .i64 z, .string T]
    obtain ⟨s0, s1, s2, s3⟩ := kR.cells4y
    have hB0 : Below w.heap.size w (w.alloc (.cells #[.int .i64 n, .bool false, .int .i64 z, .string T] 25)) := bel_alloc (Below.refl _ w) _
    have hP := HH.out _ hB0
    obtain ⟨W1, hW1⟩ : ∃ W1, W1 = w.alloc (.cells #[.int .i64 n, .bool false, .int .i64 z, .string T] 25) := ⟨_, rfl⟩
    have hS : W1.cell? ⟨pb, 0, none⟩ = some (.pointer (some ⟨fb, 0, none⟩)) ∧ W1.cell? ⟨fb, 0, none⟩ = some (.int .i64 K.o) ∧ W1.cell? ⟨fb, 1, none⟩ = some (.int .i64 K.l) ∧ W1.cell? ⟨fb, 2, none⟩ = some (.int .i64 K.m) ∧ W1.cell? ⟨fb, 3, none⟩ = some (.slice A K.ps.length cap) ∧ W1.cell? ⟨fb, 4, none⟩ = some (.int .i64 K.base) ∧ W1.cell? ⟨fb, 5, none⟩ = some (.int .i64 K.last) ∧ W1.cell? ⟨w.heap.size, 2, none⟩ = some (.int .i64 z) ∧ W1.cell? ⟨w.heap.size, 3, none⟩ = some (.string T) ∧ Below W1.heap.size W1 W1 := by
     rw [← hW1] at hP s2 s3
     obtain ⟨c0, pl, ⟨_, k0, k1, k2, k3, k4, k5⟩, fl, ps⟩ := hP
     exact ⟨c0, k0, k1, k2, k3, k4, k5, s2, s3, Below.refl _ _⟩
    rw [← hW1] at hB0
    have hz0 := hB0.size
    have HQ := hid (fun (v : World) (hb : Below W1.heap.size W1 v) => HC.out v ((HH.out W1 hB0).ps.below hb (Nat.le_trans hL hz0)) (Nat.le_trans hL (Nat.le_trans hz0 hb.size)))
    clear kR hP s0 s2 s3 HC
    go_enter Tryz.func41, Tryz.ntmps41
    go_wp2_with fail
    rw [← hW1]
    clear hW1 s1
    refine qB (S := (fun v => v.cell? ⟨pb, 0, none⟩ = some (.pointer (some ⟨fb, 0, none⟩)) ∧ v.cell? ⟨fb, 0, none⟩ = some (.int .i64 K.o) ∧ v.cell? ⟨fb, 1, none⟩ = some (.int .i64 K.l) ∧ v.cell? ⟨fb, 2, none⟩ = some (.int .i64 K.m) ∧ v.cell? ⟨fb, 3, none⟩ = some (.slice A K.ps.length cap) ∧ v.cell? ⟨fb, 4, none⟩ = some (.int .i64 K.base) ∧ v.cell? ⟨fb, 5, none⟩ = some (.int .i64 K.last) ∧ v.cell? ⟨w.heap.size, 2, none⟩ = some (.int .i64 z) ∧ v.cell? ⟨w.heap.size, 3, none⟩ = some (.string T) ∧ Below W1.heap.size W1 v)) (by kernel_rfl) (by kernel_rfl) (s9_drew hS) ?_
    refine qK ?_
    refine qK ?_
    refine qK ?_
    refine qK ?_
    refine qK ?_
    refine qK ?_
    refine qK ?_
    refine qK ?_
    refine qK ?_
    refine qK ?_
    refine qC (fun wq hSq => HQ.out wq hSq.2.2.2.2.2.2.2.2.2) (fun wq wr hbr hSq => s9_bel hbr hSq) ?_
    refine qK ?_
    refine qK ?_
    refine qK ?_
    refine qK ?_
    refine qK ?_
    refine qK ?_
    refine qK ?_
    refine qN ?_
    intro wq hSq
    (try dsimp only at hSq)
    obtain ⟨p0, k0, k1, k2, k3, k4, k5, r2, r3, hbq⟩ := hSq
    have hB1 := hB0.trans (hbq.mono hz0)
    clear hS p0 k0 k1 k2 k3 k4 k5 hbq hB0
    go_wp2_with fail
    go_ret2
    exact ⟨rfl, hB1⟩
  ·have HC := hid (fun v (hp : PsAt v L A cap K.ps) (hLv : L ≤ v.heap.size) => c_Decompress_no K A cap L v hp hLv hw T hb hu)
   have hr : bdat K ⟨n, false, z, T⟩ = none := by unfold bdat; rw [if_neg (by simp), if_neg (fun h => hu h.1)]
   rw [hr]
   clear hr hu
   have kR := Blk.new w 25 #[.int .i64 n, .bool false, .int .i64 z, .string T]
   obtain ⟨s0, s1, s2, s3⟩ := kR.cells4y
   have hB0 : Below w.heap.size w (w.alloc (.cells #[.int .i64 n, .bool false, .int .i64 z, .string T] 25)) := bel_alloc (Below.refl _ w) _
   have hP := HH.out _ hB0
   obtain ⟨W1, hW1⟩ : ∃ W1, W1 = w.alloc (.cells #[.int .i64 n, .bool false, .int .i64 z, .string T] 25) := ⟨_, rfl⟩
   have hS : W1.cell? ⟨pb, 0, none⟩ = some (.pointer (some ⟨fb, 0, none⟩)) ∧ W1.cell? ⟨fb, 0, none⟩ = some (.int .i64 K.o) ∧ W1.cell? ⟨fb, 1, none⟩ = some (.int .i64 K.l) ∧ W1.cell? ⟨fb, 2, none⟩ = some (.int .i64 K.m) ∧ W1.cell? ⟨fb, 3, none⟩ = some (.slice A K.ps.length cap) ∧ W1.cell? ⟨fb, 4, none⟩ = some (.int .i64 K.base) ∧ W1.cell? ⟨fb, 5, none⟩ = some (.int .i64 K.last) ∧ W1.cell? ⟨w.heap.size, 2, none⟩ = some (.int .i64 z) ∧ W1.cell? ⟨w.heap.size, 3, none⟩ = some (.string T) ∧ Below W1.heap.size W1 W1 := by
    rw [← hW1] at hP s2 s3
    obtain ⟨c0, pl, ⟨_, k0, k1, k2, k3, k4, k5⟩, fl, ps⟩ := hP
    exact ⟨c0, k0, k1, k2, k3, k4, k5, s2, s3, Below.refl _ _⟩
   rw [← hW1] at hB0
   have hz0 := hB0.size
   have HQ := hid (fun (v : World) (hb : Below W1.heap.size W1 v) => HC.out v ((HH.out W1 hB0).ps.below hb (Nat.le_trans hL hz0)) (Nat.le_trans hL (Nat.le_trans hz0 hb.size)))
   clear kR hP s0 s2 s3 HC
   go_enter Tryz.func41, Tryz.ntmps41
   go_wp2_with fail
   rw [← hW1]
   clear hW1 s1
   refine qB (S := (fun v => v.cell? ⟨pb, 0, none⟩ = some (.pointer (some ⟨fb, 0, none⟩)) ∧ v.cell? ⟨fb, 0, none⟩ = some (.int .i64 K.o) ∧ v.cell? ⟨fb, 1, none⟩ = some (.int .i64 K.l) ∧ v.cell? ⟨fb, 2, none⟩ = some (.int .i64 K.m) ∧ v.cell? ⟨fb, 3, none⟩ = some (.slice A K.ps.length cap) ∧ v.cell? ⟨fb, 4, none⟩ = some (.int .i64 K.base) ∧ v.cell? ⟨fb, 5, none⟩ = some (.int .i64 K.last) ∧ v.cell? ⟨w.heap.size, 2, none⟩ = some (.int .i64 z) ∧ v.cell? ⟨w.heap.size, 3, none⟩ = some (.string T) ∧ Below W1.heap.size W1 v)) (by kernel_rfl) (by kernel_rfl) (s9_drew hS) ?_
   refine qK ?_
   refine qK ?_
   refine qK ?_
   refine qK ?_
   refine qK ?_
   refine qK ?_
   refine qK ?_
   refine qK ?_
   refine qK ?_
   refine qK ?_
   refine qC (fun wq hSq => HQ.out wq hSq.2.2.2.2.2.2.2.2.2) (fun wq wr hbr hSq => s9_bel hbr hSq) ?_
   refine qK ?_
   refine qK ?_
   refine qK ?_
   refine qK ?_
   refine qK ?_
   refine qK ?_
   refine qK ?_
   refine qN ?_
   intro wq hSq
   (try dsimp only at hSq)
   obtain ⟨p0, k0, k1, k2, k3, k4, k5, r2, r3, hbq⟩ := hSq
   have hB1 := hB0.trans (hbq.mono hz0)
   clear hS p0 k0 k1 k2 k3 k4 k5 hbq hB0
   go_wp2_with fail
   go_ret2
   exact ⟨rfl, hB1⟩

section
variable {L wb : Nat} {T : TypeId} {xs : List Value} {pd : Nat → Prop} {fb : Nat} {v : Value} {x : Wr} {w w' : World}

theorem WCalm.far (h : WCalm pd w w') (g : Nat) (hg : w.heap.size ≤ g) (i : Nat) (u : Value) : WCalm pd w (w'.setCell ⟨g, i, none⟩ u) := fun g2 t cs hb h1 h2 h3 h4 => (h g2 t cs hb h1 h2 h3 h4).far i u (by have := hb.lt; omega)
end

section
variable (L pb : Nat) (xs : List Value) (pd : Nat → Prop) (fb : Nat) (sv : Value) (K : Kn) (w : World)

end
end Go.Proofs.YtmlaaammfnboiaaGreatDoor
