/- The contract of PackCodes in the program. No condition but that the numbers are int's. The contract of the specification's UnpackCodes. No condition but that the numbers are int's. The contracts of PackCodes in the specification. No condition but that the numbers are int's. Contracts of Decompress and RepackStream in both programs. No condition but that the numbers are int's. -/
import Derived.Test.YtmlaaammfnboiaaGreatDoorBk
import Derived.Test.YtmlaaammfnboiaaGreatDoorBj
import Derived.Test.YtmlaaammfnboiaaGreatDoorRq
import Derived.Test.YtmlaaammfnboiaaGreatDoorBi
import Derived.Test.YtmlaaammfnboiaaGreatDoorBd
import Derived.Test.YtmlaaammfnboiaaGreatDoorBs
namespace Go.Proofs.YtmlaaammfnboiaaGreatDoor
section
open Go.ChangeShapes Go.WideShapes Go.ChangeAt Go.RowKit Go.Joins
set_option linter.unusedVariables false
set_option linter.unusedSectionVars false

section
variable (k : Kn) (A : Option Addr) (cap L : Nat) (w : World) (h : PsAt w L A cap k.ps) (hL : L ≤ w.heap.size) (hw : k.Wf) (A2 : Option Addr) (cap2 L2 : Nat) (codes : List Int) (hc : NumsAt w L2 A2 cap2 codes) (hL2 : L2 ≤ w.heap.size)

include h hL hw hc hL2

end
end

section
open Go.ChangeShapes Go.WideShapes Go.ChangeAt Go.RowKit Go.Joins
set_option linter.unusedVariables false
set_option linter.unusedSectionVars false

theorem s6_mk {v v0 : World} {a0 a1 a2 a3 a4 a5 : Addr} {x0 x1 x2 x3 x4 x5 : Value} (h0 : v.cell? a0 = some x0) (h1 : v.cell? a1 = some x1) (h2 : v.cell? a2 = some x2) (h3 : v.cell? a3 = some x3) (h4 : v.cell? a4 = some x4) (h5 : v.cell? a5 = some x5) (hb : Below v0.heap.size v0 v) : v.cell? a0 = some x0 ∧ v.cell? a1 = some x1 ∧ v.cell? a2 = some x2 ∧ v.cell? a3 = some x3 ∧ v.cell? a4 = some x4 ∧ v.cell? a5 = some x5 ∧ Below v0.heap.size v0 v := ⟨h0, h1, h2, h3, h4, h5, hb⟩
section
variable {B : List Bool} {f a n sz : Nat} {K : Kn} {C : Int} (hC : C = K.codeAt B a) (hfit : a + K.width.toNat ≤ B.length)

include hC hfit

theorem Kn.rd_whole (h1 : C = K.c + 1) : Kn.rd B (f + 1) K a n sz = ([C], 0, a + K.width.toNat) := by subst hC; rw [Kn.rd, if_pos hfit, if_pos h1]

theorem Kn.rd_wrong (h1 : C ≠ K.c + 1) (h2 : ¬ (C = K.c ∨ K.Fol C)) : Kn.rd B (f + 1) K a n sz = ([], 2, a + K.width.toNat) := by subst hC; rw [Kn.rd, if_pos hfit, if_neg h1, if_neg h2]

theorem Kn.rd_long (h1 : C ≠ K.c + 1) (h2 : C = K.c ∨ K.Fol C) (h3 : 2000 < sz + (K.part C).length) : Kn.rd B (f + 1) K a n sz = ([], 3, a + K.width.toNat) := by subst hC; rw [Kn.rd, if_pos hfit, if_neg h1, if_pos h2, if_pos h3]

theorem Kn.rd_max (h1 : C ≠ K.c + 1) (h2 : C = K.c ∨ K.Fol C) (h3 : ¬ 2000 < sz + (K.part C).length) (h4 : n + 1 = 3100) : Kn.rd B (f + 1) K a n sz = ([C], 3, a + K.width.toNat) := by subst hC; rw [Kn.rd, if_pos hfit, if_neg h1, if_pos h2, if_neg h3, if_pos h4]

theorem Kn.rd_go (h1 : C ≠ K.c + 1) (h2 : C = K.c ∨ K.Fol C) (h3 : ¬ 2000 < sz + (K.part C).length) (h4 : n + 1 ≠ 3100) : Kn.rd B (f + 1) K a n sz = (C :: (Kn.rd B f (K.step C) (a + K.width.toNat) (n + 1) (sz + (K.part C).length)).1, (Kn.rd B f (K.step C) (a + K.width.toNat) (n + 1) (sz + (K.part C).length)).2) := by subst hC; rw [Kn.rd, if_pos hfit, if_neg h1, if_pos h2, if_neg h3, if_neg h4]

end
def UDone (k : Kn) (s : ByteArray) (w : World) (e : Ending) (w' : World) : Prop :=
 ∃ A' cap', e = .returned (.tuple #[.slice A' (k.uc s).length cap', .int .i64 (k.ue s), .int .i64 (k.uu s : Nat)]) ∧ w'.ownsRow w.heap.size 3 1 (.slice A' (k.uc s).length cap') (k.uc s).length ((k.uc s).map iv) ∧ Below w.heap.size w w'

theorem UDone.of {k : Kn} {s : ByteArray} {w w' : World} {cs : List Int} {e U : Int} {u n cap : Nat} {A : Option Addr} (hx : k.rdAll s = (cs, e, u)) (hn : n = cs.length) (ho : w'.ownsRow w.heap.size 3 1 (.slice A n cap) n (cs.map iv)) (hb : Below w.heap.size w w') (hU : U = (((u + 7) / 8 : Nat) : Int)) : UDone k s w (.returned (.tuple #[.slice A n cap, .int .i64 e, .int .i64 U])) w' := by
 subst hn hU
 have h1 : k.uc s = cs := by rw [Kn.uc, hx]
 have h2 : k.ue s = e := by rw [Kn.ue, hx]
 have h3 : k.uu s = (u + 7) / 8 := by rw [Kn.uu, hx]
 exact ⟨A, cap, by rw [h1, h2, h3], by rw [h1]; exact ho, hb⟩
def URel (k : Kn) (s : ByteArray) (w : World) (v7 v8 v9 : Value) (wr : World) : Prop :=
 ∃ (K : Kn) (cs : List Int) (a sz f : Nat) (A : Option Addr) (cap : Nat), v8 = .int .i64 a ∧ v9 = .int .i64 sz ∧ K.Ok ∧ K.o = k.o ∧ sz ≤ 2000 ∧ cs.length < 3100 ∧ a ≤ 8 * s.size ∧ 8 * s.size < a + f ∧
  k.rdAll s = (cs ++ (Kn.rd (k.bitsOf s) f K a cs.length sz).1, (Kn.rd (k.bitsOf s) f K a cs.length sz).2) ∧
  Blk wr w.heap.size 88 #[.int .i64 K.o, .int .i64 K.l, .int .i64 K.m, .slice A K.ps.length cap, .int .i64 K.base, .int .i64 K.last] ∧ Pin wr w.heap.size A cap K.ps ∧ wr.ownsRow w.heap.size 3 1 v7 cs.length (cs.map iv) ∧ Below w.heap.size w wr

theorem URel.next {k : Kn} {s : ByteArray} {w w13 : World} {K K2 : Kn} {cs : List Int} {C : Int} {a wn sz2 f n B' : Nat} {A13 A7 : Option Addr} {c13 c7 : Nat} {a0 a1 a2 a3 a4 a5 : Value} {X8 X9 : Int} (hn : n = cs.length + 1) (hK : K.Ok) (hKo : K.o = k.o) (hK2 : K2 = K.step C) (hok : C = K.c ∨ K.Fol C) (h8 : X8 = ((a + wn : Nat) : Int)) (h9 : X9 = (sz2 : Int)) (hz2 : sz2 ≤ 2000) (hl : n < 3100) (hal : a + wn ≤ 8 * s.size) (hwn : 2 ≤ wn) (hf : 8 * s.size < a + (f + 1))
  (hrd : k.rdAll s = (cs ++ (C :: (Kn.rd (k.bitsOf s) f (K.step C) (a + wn) (cs.length + 1) sz2).1), (Kn.rd (k.bitsOf s) f (K.step C) (a + wn) (cs.length + 1) sz2).2))
  (kb : Blk w13 w.heap.size 88 #[a0, a1, a2, a3, a4, a5])
  (ho : w13.ownsRow B' 175 2 (.slice A13 K2.ps.length c13) K2.ps.length (prs K2.ps)) (hB' : w.heap.size ≤ B') (o7 : w13.ownsRow w.heap.size 3 1 (.slice A7 n c7) n ((cs ++ [C]).map iv)) (hB : Below w.heap.size w w13) :
  URel k s w (.slice A7 n c7) (.int .i64 X8) (.int .i64 X9) ((((((w13.setCell ⟨w.heap.size, 0, none⟩ (.int .i64 K.o)).setCell ⟨w.heap.size, 1, none⟩ (.int .i64 K.l)).setCell ⟨w.heap.size, 2, none⟩ (.int .i64 K.m)).setCell ⟨w.heap.size, 3, none⟩ (.slice A13 K2.ps.length c13)).setCell ⟨w.heap.size, 4, none⟩ (.int .i64 K.base)).setCell ⟨w.heap.size, 5, none⟩ (.int .i64 K2.last)) := by
 subst hn h8 h9
 have e1 : K2.o = K.o := by rw [hK2, Kn.step_o]
 have e2 : K2.l = K.l := by rw [hK2, Kn.step_l]
 have e3 : K2.m = K.m := by rw [hK2, Kn.step_m]
 have e4 : K2.base = K.base := by rw [hK2, Kn.step_base]
 have el : (cs ++ [C]).length = cs.length + 1 := by simp
 refine ⟨K2, cs ++ [C], a + wn, sz2, f, A13, c13, rfl, rfl, hK2 ▸ hK.step hok, e1.trans hKo, hz2, by rw [el]; exact hl, hal, by omega, ?_, ?_, ?_, ?_, bel_put6 hB (Nat.le_refl _) _ _ _ _ _ _⟩
 ·rw [hrd, el, hK2]; simp
 ·rw [e1, e2, e3, e4]; exact kb.put6 _ _ _ _ _ _
 ·exact .inr (own_mono (own_put6 ho kb tykn_tp _ _ _ _ _ _) hB')
 ·rw [el]; exact own_put6 o7 kb tykn_ti _ _ _ _ _ _
section
variable (k : Kn) (A : Option Addr) (cap L : Nat) (w : World) (h : PsAt w L A cap k.ps) (hL : L ≤ w.heap.size) (hw : k.Wf) (s : ByteArray)

include h hL hw

theorem c_sUnpackCodes_no (hs : s.size ≤ maxLen) (hk : ¬ UnpOk k s) : Calls Tryz.prog 78 #[.agg #[.int .i64 k.o, .int .i64 k.l, .int .i64 k.m, .slice A k.ps.length cap, .int .i64 k.base, .int .i64 k.last], .string s] w fun e w' => ∃ A' cap', e = .returned (.tuple #[.slice A' 0 cap', .int .i64 4, .int .i64 0]) ∧ w'.ownsRow w.heap.size 3 1 (.slice A' 0 cap') 0 (([] : List Int).map iv) ∧ Below w.heap.size w w' := by
 unfold maxLen at hs
 have kN := Blk.new w 88 #[.int .i64 k.o, .int .i64 k.l, .int .i64 k.m, .slice A k.ps.length cap, .int .i64 k.base, .int .i64 k.last]
 have kN0 := kN.alloc (.cells #[] 3)
 obtain ⟨p0, p1, p2, p3, p4, p5⟩ := kN0.cells6
 have HO : Hid (((w.alloc (.cells #[.int .i64 k.o, .int .i64 k.l, .int .i64 k.m, .slice A k.ps.length cap, .int .i64 k.base, .int .i64 k.last] 88)).alloc (.cells #[] 3)).ownsRow w.heap.size 3 1 (.slice (some ⟨w.heap.size + 1, 0, none⟩) 0 0) 0 (([] : List Int).map iv)) := by
  have h1 := World.ownsRow_made (e := 3) (size := 1) (base := w.heap.size) (w.alloc (.cells #[.int .i64 k.o, .int .i64 k.l, .int .i64 k.m, .slice A k.ps.length cap, .int .i64 k.base, .int .i64 k.last] 88)) #[] 0 (by simp) (by simp [maxLen]) rfl
  rw [World.size_alloc] at h1
  exact hid h1
 by_cases hk1 : k.Ok
 ·have hs2 : ¬ s.size ≤ 4000 := fun h1 => hk ⟨hk1, h1⟩
  have HV := hid (fun (v : World) (hb : Below w.heap.size w v) => c_sKnownValid_yes k A cap L v (h.below hb hL) (Nat.le_trans hL hb.size) hk1 hw)
  clear h hw hk hk1
  go_enter Tryz.func78, Tryz.ntmps78
  go_wp2_with fail
  refine (HV.out _ (by exact obB)).mono ?_
  rintro e w1 ⟨rfl, hb1⟩
  have HO1 := hid (own_on HO.out hb1)
  go_wp2
  go_ret3
  exact ⟨_, _, rfl, HO1.out, by exact obB⟩
 ·have HV := hid (fun (v : World) (hb : Below w.heap.size w v) => c_sKnownValid_no k A cap L v (h.below hb hL) (Nat.le_trans hL hb.size) hk1 hw)
  clear h hw hk hk1
  go_enter Tryz.func78, Tryz.ntmps78
  go_wp2_with fail
  refine (HV.out _ (by exact obB)).mono ?_
  rintro e w1 ⟨rfl, hb1⟩
  have HO1 := hid (own_on HO.out hb1)
  go_wp2
  go_ret3
  exact ⟨_, _, rfl, HO1.out, by exact obB⟩

set_option maxHeartbeats 4000000 in
set_option maxRecDepth 100000 in
theorem c_sUnpackCodes_yes (hk : UnpOk k s) : Calls Tryz.prog 78 #[.agg #[.int .i64 k.o, .int .i64 k.l, .int .i64 k.m, .slice A k.ps.length cap, .int .i64 k.base, .int .i64 k.last], .string s] w (UDone k s w) := by
 obtain ⟨hk1, hs⟩ := hk
 have hord : k.o = 0 ∨ k.o = 1 := (setOk_iff.1 hk1.set).1
 have kN := Blk.new w 88 #[.int .i64 k.o, .int .i64 k.l, .int .i64 k.m, .slice A k.ps.length cap, .int .i64 k.base, .int .i64 k.last]
 have kN0 := kN.alloc (.cells #[] 3)
 obtain ⟨p0, p1, p2, p3, p4, p5⟩ := kN0.cells6
 have HO : Hid (((w.alloc (.cells #[.int .i64 k.o, .int .i64 k.l, .int .i64 k.m, .slice A k.ps.length cap, .int .i64 k.base, .int .i64 k.last] 88)).alloc (.cells #[] 3)).ownsRow w.heap.size 3 1 (.slice (some ⟨w.heap.size + 1, 0, none⟩) 0 0) 0 (([] : List Int).map iv)) := by
  have h1 := World.ownsRow_made (e := 3) (size := 1) (base := w.heap.size) (w.alloc (.cells #[.int .i64 k.o, .int .i64 k.l, .int .i64 k.m, .slice A k.ps.length cap, .int .i64 k.base, .int .i64 k.last] 88)) #[] 0 (by simp) (by simp [maxLen]) rfl
  rw [World.size_alloc] at h1
  exact hid h1
 have HV := hid (fun (v : World) (hb : Below w.heap.size w v) => c_sKnownValid_yes k A cap L v (h.below hb hL) (Nat.le_trans hL hb.size) hk1 hw)
 have HU := hid (fun (v : World) => c_l1Unpack k.o s v hord hs)
 have HH := hid h
 have HK := hid hk1
 obtain ⟨U, hU⟩ : ∃ U, U = str (unpackL k.o s) := ⟨_, rfl⟩
 rw [← hU] at HU
 have hUs : U.size = 8 * s.size := by rw [hU]; exact unpackL_size _ _
 have HUb := hid (show U.data.toList.all isBit = true by rw [hU]; exact unpackL_bit _ _)
 have HUB := hid (show bitsL U = k.bitsOf s by rw [hU]; rfl)
 have HBl := hid (Kn.bitsOf_len k s)
 clear h hw hU hk1
 go_enter Tryz.func78, Tryz.ntmps78
 go_wp2_with fail
 refine (HV.out _ (by exact obB)).mono ?_
 rintro e w1 ⟨rfl, hb1⟩
 have hB1 : Below w.heap.size w w1 := by exact obB
 have kN1 := kN0.on hb1
 have HO1 := hid (own_on HO.out hb1)
 clear hb1 p0 p1 p2 p3 p4 p5 HO kN kN0
 obtain ⟨p0, p1, p2, p3, p4, p5⟩ := kN1.cells6
 go_wp2_with fail
 refine (HU.out _).mono ?_
 rintro e w2 ⟨rfl, hb2⟩
 have hB2 : Below w.heap.size w w2 := by exact obB
 have HI : Hid (URel k s w (.slice (some ⟨w.heap.size + 1, 0, none⟩) 0 0) (.int .i64 0) (.int .i64 0) w2) := hid ⟨k, [], 0, 0, 8 * s.size + 1, A, cap, rfl, rfl, HK.out, rfl, by omega, by simp, by omega, by omega, by simp [Kn.rdAll], kN1.on hb2, .inl ((HH.out.below hB2 hL).mono hL), own_on HO1.out hb2, hB2⟩
 clear hb2 p0 p1 p2 p3 p4 p5 HO1 kN1 hB1
 go_wp2_with fail
 go_loopw [7, 8, 9] (fun v7 v8 v9 wr => URel k s w v7 v8 v9 wr) (fun _ v8 _ _ => 8 * s.size + 1 - (intOf v8).toNat)
 case atStart => exact HI.out
 case round =>
  obtain ⟨K, cs, a, sz, f, A4, c4, rfl, rfl, hK, hKo, hsz, hcl, hal, hfl, hrd, kb, hp, ho7, hbl⟩ := hrel
  clear HI
  obtain ⟨A7, c7, rfl⟩ := own_sl ho7
  have H7 := hid ho7
  have HP := hid hp
  have HRd := hid hrd
  have hszb : w.heap.size ≤ wr.heap.size := hbl.size
  have hwb := hK.width_bd
  obtain ⟨_, ⟨hl1, hl2⟩, hm1, hm2⟩ := setOk_iff.1 hK.set
  obtain ⟨wn, hwn⟩ : ∃ wn : Nat, K.width = wn := ⟨K.width.toNat, by omega⟩
  have hwn1 : 2 ≤ wn ∧ wn ≤ 10 := by omega
  have HWn := hid (show K.width.toNat = wn by omega)
  have HWd := hid (fun (v : World) => c_l2Width K A4 c4 v hK)
  simp only [hwn] at HWd
  have HE := hid (fun (v : World) => c_l1End K.o K.l K.m v (by omega) (by omega))
  have HCl := hid (fun (v : World) => c_l1Clear K.o K.l K.m v (by omega) (by omega))
  have HKK := hid hK
  have HKo := hid hKo
  clear hrd hp ho7 hK hwb hwn hm1 hm2 hKo
  obtain ⟨p0, p1, p2, p3, p4, p5⟩ := kb.cells6
  go_wp2_with fail
  refine (HWd.out _).mono ?_
  rintro e w1 ⟨rfl, hb1⟩
  have kb1 := kb.on hb1
  have HP1 := hid (HP.out.on hb1 hszb)
  have H71 := hid (own_on H7.out hb1)
  have hB1 : Below w.heap.size w w1 := by exact obB
  clear hb1 kb HP H7 hbl p0 p1 p2 p3 p4 p5
  by_cases hstop : 8 * s.size < a + wn
  ·have hst : (U.size : Int) < (a : Int) + (wn : Int) := by omega
   have HX := hid (show k.rdAll s = (cs, 1, 8 * s.size) by
    have := HRd.out
    have e1 : Kn.rd (k.bitsOf s) f K a cs.length sz = ([], 1, 8 * s.size) := by
     cases f with
     | zero => rw [Kn.rd, HBl.out]
     | succ f => rw [Kn.rd, if_neg (by rw [HBl.out, HWn.out]; omega), HBl.out]
    rw [e1] at this
    simpa using this)
   go_wp2
   go_ret3
   exact UDone.of HX.out rfl H71.out hB1 (by omega)
  ·have hfit : a + wn ≤ 8 * s.size := by omega
   have hle : (a : Int) + (wn : Int) ≤ (U.size : Int) := by omega
   have esum : IntKind.i64.wrap ((a : Int) + (wn : Int)) = ((a + wn : Nat) : Int) := (IntWalk.i64_in _ (by omega)).trans (by omega)
   have hge0 : (0 : Int) ≤ (a : Int) + (wn : Int) := by omega
   have hge1 : (a : Int) ≤ (a : Int) + (wn : Int) := by omega
   have htn : ((a : Int) + (wn : Int)).toNat = a + wn := by omega
   have hko : orderOk K.o = true := orderOk_iff.2 (by rw [HKo.out]; exact hord)
   obtain ⟨C, hC⟩ : ∃ C, C = K.codeAt (k.bitsOf s) a := ⟨_, rfl⟩
   have HC := hid hC
   have HNm := hid (fun (v : World) => c_l1Number K.o (U.extract a (a + wn)) v (by rw [ByteArray.size_extract]; omega) (extract_all HUb.out _ _))
   have hnum : ((M.num (M.dir (!(K.o == 0)) (bitsL (U.extract a (a + wn)))) : Nat) : Int) = C := by
    rw [not_zero hko, extract_bits _ _ _ (by omega), HUB.out, hC, Kn.codeAt, HWn.out]
    simp
   simp only [hnum] at HNm
   have HFit := hid (show a + K.width.toNat ≤ (k.bitsOf s).length by rw [HBl.out, HWn.out]; exact hfit)
   obtain ⟨f', hf'⟩ : ∃ f', f = f' + 1 := ⟨f - 1, by omega⟩
   subst hf'
   clear hC hnum hko
   obtain ⟨p0, p1, p2, p3, p4, p5⟩ := kb1.cells6
   have hS := s6_mk p0 p1 p2 p3 p4 p5 (Below.refl w1.heap.size w1)
   go_wp2_with fail
   refine wp_region_noPanic ?_
   refine wp_region_held_drew (S := (fun v => v.cell? ⟨w.heap.size, 0, none⟩ = some (.int .i64 K.o) ∧ v.cell? ⟨w.heap.size, 1, none⟩ = some (.int .i64 K.l) ∧ v.cell? ⟨w.heap.size, 2, none⟩ = some (.int .i64 K.m) ∧ v.cell? ⟨w.heap.size, 3, none⟩ = some (.slice A4 K.ps.length c4) ∧ v.cell? ⟨w.heap.size, 4, none⟩ = some (.int .i64 K.base) ∧ v.cell? ⟨w.heap.size, 5, none⟩ = some (.int .i64 K.last) ∧ Below w1.heap.size w1 v)) (by kernel_rfl) (s6_drew hS) (fun hHeld => ?_)
   refine tk 0 ?_
   refine tk 1 ?_
   refine tk 2 ?_
   refine tk 3 ?_
   refine tk 4 ?_
   refine tk 5 ?_
   refine tk 6 ?_
   refine wpAnyH_ready (rs := [7]) (by kernel_rfl) (by simp) ?_
   refine AllReadyH.cons (o := ?or1_7) ?ir1_7 (fun K hK => ?sr1_7) AllReadyH.nil
   case ir1_7 => (simp only [List.getElem?_toArray, List.getElem?_cons_succ, List.getElem?_cons_zero]; rfl)
   (first | (go_simp; (first | (go_at_call 114; refine (HWd.out _).mono ?_; rintro e w2 ⟨rfl, hb2⟩) | (go_at_call 115; refine (HNm.out _).mono ?_; rintro e w3 ⟨rfl, rfl⟩) | skip)))
   refine hK.out _ _ ?kr1_7 (fun hHeld => ?_)
   case kr1_7 => (try dsimp only); (first | with_reducible assumption | exact s6_bel (by assumption) (by assumption) | assumption | exact s6_alloc (by assumption) _)
   clear hK K
   try simp only [Act.put, List.setIfInBounds_toArray, List.set_cons_zero, List.set_cons_succ]
   refine tk 8 ?_
   refine tk 9 ?_
   refine wpAnyH_ready (rs := [10]) (by kernel_rfl) (by simp) ?_
   refine AllReadyH.cons (o := ?or1_10) ?ir1_10 (fun K hK => ?sr1_10) AllReadyH.nil
   case ir1_10 => (simp only [List.getElem?_toArray, List.getElem?_cons_succ, List.getElem?_cons_zero]; rfl)
   (first | (go_simp; (first | (go_at_call 114; refine (HWd.out _).mono ?_; rintro e w2 ⟨rfl, hb2⟩) | (go_at_call 115; refine (HNm.out _).mono ?_; rintro e w3 ⟨rfl, rfl⟩) | skip)))
   refine hK.out _ _ ?kr1_10 (fun hHeld => ?_)
   case kr1_10 => (try dsimp only); (first | with_reducible assumption | exact s6_bel (by assumption) (by assumption) | assumption | exact s6_alloc (by assumption) _)
   clear hK K
   try simp only [Act.put, List.setIfInBounds_toArray, List.set_cons_zero, List.set_cons_succ]
   refine tk 11 ?_
   refine wpAnyH_done (by kernel_rfl) ?_ _
   refine NoPanic.normal ?_
   have hb3 := hHeld.2.2.2.2.2.2
   have kb3 := kb1.on hb3
   have hz1 := hB1.size
   have HP3 := hid (HP1.out.on hb3 hz1)
   have H73 := hid (own_on H71.out hb3)
   have hB3 := bel_trans hB1 hb3
   clear hHeld hS hb3 kb1 HP1 H71 p0 p1 p2 p3 p4 p5 hb2
   obtain ⟨p0, p1, p2, p3, p4, p5⟩ := kb3.cells6
   have hz3 := hB3.size
   go_wp2_with fail
   refine (HWd.out _).mono ?_
   rintro e w4 ⟨rfl, hb4⟩
   have kb4 := kb3.on hb4
   have HP4 := hid (HP3.out.on hb4 hz3)
   have H74 := hid (own_on H73.out hb4)
   have hB4 := bel_trans hB3 hb4
   clear hb4 kb3 HP3 H73 p0 p1 p2 p3 p4 p5 hB3 hz3
   obtain ⟨p0, p1, p2, p3, p4, p5⟩ := kb4.cells6
   have hz4 := hB4.size
   go_wp2_with fail
   refine (HE.out _).mono ?_
   rintro e w5 ⟨rfl, hb5⟩
   have kb5 := kb4.on hb5
   have HP5 := hid (HP4.out.on hb5 hz4)
   have H75 := hid (own_on H74.out hb5)
   have hB5 := bel_trans hB4 hb5
   clear hb5 kb4 HP4 H74 p0 p1 p2 p3 p4 p5 hB4 hz4
   obtain ⟨p0, p1, p2, p3, p4, p5⟩ := kb5.cells6
   have hz5 := hB5.size
   by_cases he : C = pow2 K.l + 1
   ·have e1 : (C == pow2 K.l + 1) = true := eq_yes he
    have HX := hid (show k.rdAll s = (cs ++ [C], 0, a + wn) by
     have := HRd.out
     rw [Kn.rd_whole HC.out HFit.out he, HWn.out] at this
     exact this)
    clear he
    go_wp2_with (at_builtin; go_loud (refine app_int rfl (.tmp 54) (.tmp 56) 126 rfl w.heap.size 3 Tryz.underlying126 Tryz.info_int _ cs.length cs rfl H75.out C _ rfl 1 rfl (by omega) (by omega) ?_; intro v7 w7 hown7 hb7 hg7; obtain ⟨A8, c8, rfl⟩ := own_sl hown7; have H87 := hid hown7; have hB7 := hB5.trans hb7))
    go_ret3
    exact UDone.of HX.out (by simp) H87.out hB7 (by omega)
   ·have e1 : (C == pow2 K.l + 1) = false := by rw [beq_eq_false_iff_ne]; exact he
    go_wp2_with fail
    refine (HCl.out _).mono ?_
    rintro e w6 ⟨rfl, hb6⟩
    have kb6 := kb5.on hb6
    have HP6 := hid (HP5.out.on hb6 hz5)
    have H76 := hid (own_on H75.out hb6)
    have hB6 := bel_trans hB5 hb6
    clear hb6 kb5 HP5 H75 p0 p1 p2 p3 p4 p5 hB5 hz5
    obtain ⟨p0, p1, p2, p3, p4, p5⟩ := kb6.cells6
    have hz6 := hB6.size
    by_cases hcc : C = pow2 K.l
    ·have e2 : (C != pow2 K.l) = false := by simp [hcc]
     have HOk := hid (show C = K.c ∨ K.Fol C from .inl hcc)
     have HPt := hid (show (K.part C).length = 0 by rw [Kn.part_none _ _ (.inl hcc)]; rfl)
     have hlong : ¬ 2000 < sz + 0 := by omega
     clear hcc
     have hl2 : ¬ (2000 : Int) < (sz : Int) + ((0 : Nat) : Int) := by omega
     have hl3 : ¬ (2000 : Int) < (sz : Int) := by omega
     have HSt := hid (fun (v : World) (hp : PsAt v v.heap.size A4 c4 K.ps) => c_l2Step K A4 c4 v.heap.size v hp (Nat.le_refl _) HKK.out C HOk.out)
     obtain ⟨K2, hK2⟩ : ∃ K2, K2 = K.step C := ⟨_, rfl⟩
     rw [← hK2] at HSt
     have HK2 := hid hK2
     clear hK2
     go_wp2_with (at_builtin; go_loud (refine app_int rfl (.tmp 86) (.tmp 88) 126 rfl w.heap.size 3 Tryz.underlying126 Tryz.info_int _ cs.length cs rfl H76.out C _ rfl 1 rfl (by omega) (by omega) ?_; intro v9 w9 hown9 hb9 hg9; have kb9 := kb6.grown hg9 (apart_ne (own_apart_blk H76.out kb6 tykn_ti) rfl); have HP9 := hid (HP6.out.grown H76.out (by decide) hg9 (by omega)); obtain ⟨A9, c9, rfl⟩ := own_sl hown9; have H79 := hid hown9; have hB9 := hB6.trans hb9; have hz9 := hB9.size; obtain ⟨q0, q1, q2, q3, q4, q5⟩ := kb9.cells6; clear kb6 HP6 H76 hb9 hg9 hown9 p0 p1 p2 p3 p4 p5))
     refine (HSt.out _ (HP9.out.at_ hz9)).mono ?_
     rintro e w13 ⟨A13, c13, rfl, hown13, hb13⟩
     have kb13 := kb9.on hb13
     have H713 := hid (own_on H79.out hb13)
     have hB13 := bel_trans hB9 hb13
     have HO13 := hid hown13
     obtain ⟨g0, g1, g2, g3, g4, g5⟩ := kb13.free6
     obtain ⟨s0, s1, s2, s3, s4, s5⟩ := kb13.cells6
     clear hb13 kb9 HP9 H79 hown13 q0 q1 q2 q3 q4 q5
     by_cases hm : cs.length + 1 = 3100
     ·have em : ((((cs.length : Nat)) : Int) + 1 == 3100) = true := eq_yes (by omega)
      have em2 : ((((cs.length + 1 : Nat)) : Int) == 3100) = true := eq_yes (by omega)
      have HX := hid (show k.rdAll s = (cs ++ [C], 3, a + wn) by
       have := HRd.out
       rw [Kn.rd_max HC.out HFit.out he HOk.out (by rw [HPt.out]; omega) hm, HWn.out] at this
       exact this)
      have HF := hid (own_put6 H713.out kb13 tykn_ti (.int .i64 K.o) (.int .i64 K.l) (.int .i64 K.m) (.slice A13 K2.ps.length c13) (.int .i64 K.base) (.int .i64 K2.last))
      have hBF := bel_put6 hB13 (Nat.le_refl w.heap.size) (.int .i64 K.o) (.int .i64 K.l) (.int .i64 K.m) (.slice A13 K2.ps.length c13) (.int .i64 K.base) (.int .i64 K2.last)
      have HM := hid hm
      clear hm
      go_wp2
      go_ret3
      exact UDone.of HX.out (by simp) HF.out hBF (by omega)
     ·have em : ((((cs.length : Nat)) : Int) + 1 == 3100) = false := eq_no (by omega)
      have em2 : ((((cs.length + 1 : Nat)) : Int) == 3100) = false := eq_no (by omega)
      have HX := hid (show k.rdAll s = (cs ++ (C :: (Kn.rd (k.bitsOf s) f' (K.step C) (a + wn) (cs.length + 1) (sz + 0)).1), (Kn.rd (k.bitsOf s) f' (K.step C) (a + wn) (cs.length + 1) (sz + 0)).2) by
       have := HRd.out
       rw [Kn.rd_go HC.out HFit.out he HOk.out (by rw [HPt.out]; omega) hm, HWn.out, HPt.out] at this
       exact this)
      have HF : ∀ X8 X9 : Int, X8 = ((a + wn : Nat) : Int) → X9 = ((sz + 0 : Nat) : Int) → _ := fun X8 X9 h8 h9 => URel.next (w := w) rfl HKK.out HKo.out HK2.out HOk.out h8 h9 (by omega) (by omega) hfit hwn1.1 hfl HX.out kb13 HO13.out (by omega) H713.out hB13
      have HF := hid HF
      go_wp2
      go_roundw
      case rel => exact HF.out _ _ (by first | rfl | omega) (by first | rfl | omega)
      case measure => simp [intOf]; omega
    ·have e2 : (C != pow2 K.l) = true := bne_iff_ne.2 hcc
     have HF := hid (fun (v : World) => c_l2Follows K A4 c4 v HKK.out C)
     by_cases hf : K.Fol C
     ·simp only [decide_eq_true hf] at HF
      have HAn := hid (fun (v : World) (hp : PsAt v v.heap.size A4 c4 K.ps) => c_l2Any K A4 c4 v.heap.size v HKK.out hp (Nat.le_refl _) C hf)
      obtain ⟨D, hD⟩ : ∃ D, D = str (K.any C) := ⟨_, rfl⟩
      have hDl : D.size ≤ 1022 := by rw [hD, str_size]; exact HKK.out.any_len hf
      have HPt := hid (show (K.part C).length = D.size by rw [hD, str_size, Kn.part_code _ _ hcc he])
      simp only [← hD] at HAn
      have HOk := hid (show C = K.c ∨ K.Fol C from .inr hf)
      clear hD hf
      go_wp2_with fail
      refine (HF.out _).mono ?_
      rintro e w7 ⟨rfl, hb7⟩
      have kb7 := kb6.on hb7
      have HP7 := hid (HP6.out.on hb7 hz6)
      have H77 := hid (own_on H76.out hb7)
      have hB7 := bel_trans hB6 hb7
      clear hb7 kb6 HP6 H76 p0 p1 p2 p3 p4 p5 hB6 hz6
      obtain ⟨p0, p1, p2, p3, p4, p5⟩ := kb7.cells6
      have hz7 := hB7.size
      go_wp2_with fail
      refine (HAn.out _ (HP7.out.at_ hz7)).mono ?_
      rintro e w8 ⟨rfl, hb8⟩
      have kb8 := kb7.on hb8
      have HP8 := hid (HP7.out.on hb8 hz7)
      have H78 := hid (own_on H77.out hb8)
      have hB8 := bel_trans hB7 hb8
      clear hb8 kb7 HP7 H77 p0 p1 p2 p3 p4 p5 hB7 hz7
      obtain ⟨p0, p1, p2, p3, p4, p5⟩ := kb8.cells6
      have hz8 := hB8.size
      by_cases hlong : 2000 < sz + D.size
      ·have hl2 : (2000 : Int) < (sz : Int) + (D.size : Int) := by omega
       have HX := hid (show k.rdAll s = (cs, 3, a + wn) by
        have := HRd.out
        rw [Kn.rd_long HC.out HFit.out he HOk.out (by rw [HPt.out]; exact hlong), HWn.out] at this
        simpa using this)
       go_wp2
       go_ret3
       exact UDone.of HX.out rfl H78.out hB8 (by omega)
      ·skip
       have hl2 : ¬ (2000 : Int) < (sz : Int) + ((D.size : Nat) : Int) := by omega
       have hl3 : ¬ (2000 : Int) < (sz : Int) := by omega
       have HSt := hid (fun (v : World) (hp : PsAt v v.heap.size A4 c4 K.ps) => c_l2Step K A4 c4 v.heap.size v hp (Nat.le_refl _) HKK.out C HOk.out)
       obtain ⟨K2, hK2⟩ : ∃ K2, K2 = K.step C := ⟨_, rfl⟩
       rw [← hK2] at HSt
       have HK2 := hid hK2
       clear hK2
       go_wp2_with (at_builtin; go_loud (refine app_int rfl (.tmp 86) (.tmp 88) 126 rfl w.heap.size 3 Tryz.underlying126 Tryz.info_int _ cs.length cs rfl H78.out C _ rfl 1 rfl (by omega) (by omega) ?_; intro v9 w9 hown9 hb9 hg9; have kb9 := kb8.grown hg9 (apart_ne (own_apart_blk H78.out kb8 tykn_ti) rfl); have HP9 := hid (HP8.out.grown H78.out (by decide) hg9 (by omega)); obtain ⟨A9, c9, rfl⟩ := own_sl hown9; have H79 := hid hown9; have hB9 := hB8.trans hb9; have hz9 := hB9.size; obtain ⟨q0, q1, q2, q3, q4, q5⟩ := kb9.cells6; clear kb8 HP8 H78 hb9 hg9 hown9 p0 p1 p2 p3 p4 p5))
       refine (HSt.out _ (HP9.out.at_ hz9)).mono ?_
       rintro e w13 ⟨A13, c13, rfl, hown13, hb13⟩
       have kb13 := kb9.on hb13
       have H713 := hid (own_on H79.out hb13)
       have hB13 := bel_trans hB9 hb13
       have HO13 := hid hown13
       obtain ⟨g0, g1, g2, g3, g4, g5⟩ := kb13.free6
       obtain ⟨s0, s1, s2, s3, s4, s5⟩ := kb13.cells6
       clear hb13 kb9 HP9 H79 hown13 q0 q1 q2 q3 q4 q5
       by_cases hm : cs.length + 1 = 3100
       ·have em : ((((cs.length : Nat)) : Int) + 1 == 3100) = true := eq_yes (by omega)
        have em2 : ((((cs.length + 1 : Nat)) : Int) == 3100) = true := eq_yes (by omega)
        have HX := hid (show k.rdAll s = (cs ++ [C], 3, a + wn) by
         have := HRd.out
         rw [Kn.rd_max HC.out HFit.out he HOk.out (by rw [HPt.out]; omega) hm, HWn.out] at this
         exact this)
        have HF := hid (own_put6 H713.out kb13 tykn_ti (.int .i64 K.o) (.int .i64 K.l) (.int .i64 K.m) (.slice A13 K2.ps.length c13) (.int .i64 K.base) (.int .i64 K2.last))
        have hBF := bel_put6 hB13 (Nat.le_refl w.heap.size) (.int .i64 K.o) (.int .i64 K.l) (.int .i64 K.m) (.slice A13 K2.ps.length c13) (.int .i64 K.base) (.int .i64 K2.last)
        have HM := hid hm
        clear hm
        go_wp2
        go_ret3
        exact UDone.of HX.out (by simp) HF.out hBF (by omega)
       ·have em : ((((cs.length : Nat)) : Int) + 1 == 3100) = false := eq_no (by omega)
        have em2 : ((((cs.length + 1 : Nat)) : Int) == 3100) = false := eq_no (by omega)
        have HX := hid (show k.rdAll s = (cs ++ (C :: (Kn.rd (k.bitsOf s) f' (K.step C) (a + wn) (cs.length + 1) (sz + D.size)).1), (Kn.rd (k.bitsOf s) f' (K.step C) (a + wn) (cs.length + 1) (sz + D.size)).2) by
         have := HRd.out
         rw [Kn.rd_go HC.out HFit.out he HOk.out (by rw [HPt.out]; omega) hm, HWn.out, HPt.out] at this
         exact this)
        have HF : ∀ X8 X9 : Int, X8 = ((a + wn : Nat) : Int) → X9 = ((sz + D.size : Nat) : Int) → _ := fun X8 X9 h8 h9 => URel.next (w := w) rfl HKK.out HKo.out HK2.out HOk.out h8 h9 (by omega) (by omega) hfit hwn1.1 hfl HX.out kb13 HO13.out (by omega) H713.out hB13
        have HF := hid HF
        go_wp2
        go_roundw
        case rel => exact HF.out _ _ (by first | rfl | omega) (by first | rfl | omega)
        case measure => simp [intOf]; omega
     ·simp only [decide_eq_false hf] at HF
      have HX := hid (show k.rdAll s = (cs, 2, a + wn) by
       have := HRd.out
       rw [Kn.rd_wrong HC.out HFit.out he (by rintro (h1 | h1); exact hcc h1; exact hf h1), HWn.out] at this
       simpa using this)
      clear hf
      go_wp2_with fail
      refine (HF.out _).mono ?_
      rintro e w7 ⟨rfl, hb7⟩
      have H77 := hid (own_on H76.out hb7)
      have hB7 := bel_trans hB6 hb7
      go_wp2
      go_ret3
      exact UDone.of HX.out rfl H77.out hB7 (by omega)

end
end

section
open Go.ChangeShapes Go.WideShapes Go.ChangeAt Go.RowKit Go.Joins
set_option linter.unusedVariables false
set_option linter.unusedSectionVars false

section
variable (k : Kn) (A : Option Addr) (cap L : Nat) (w : World) (h : PsAt w L A cap k.ps) (hL : L ≤ w.heap.size) (A2 : Option Addr) (cap2 L2 : Nat) (codes : List Int) (hc : NumsAt w L2 A2 cap2 codes) (hL2 : L2 ≤ w.heap.size)

include h hL hc hL2

end
end

section
open Go.ChangeShapes Go.WideShapes Go.ChangeAt Go.RowKit Go.Joins
set_option linter.unusedVariables false
set_option linter.unusedSectionVars false

theorem Kn.Ok.uc_ok {k : Kn} (h : k.Ok) (s : ByteArray) : CodesOk k (k.uc s) := ⟨h, Kn.uc_len h s, Kn.uc_good h s⟩

section
variable (k : Kn) (A : Option Addr) (cap L : Nat) (w : World) (h : PsAt w L A cap k.ps) (hL : L ≤ w.heap.size) (hw : k.Wf) (s : ByteArray)

include h hL hw

theorem c_sDecompress_no (hs : s.size ≤ maxLen) (hk : ¬ UnpOk k s) : Calls Tryz.prog 99 #[.agg #[.int .i64 k.o, .int .i64 k.l, .int .i64 k.m, .slice A k.ps.length cap, .int .i64 k.base, .int .i64 k.last], .string s] w fun e w' => e = .returned (.tuple #[.string ByteArray.empty, .int .i64 4, .int .i64 0]) ∧ Below w.heap.size w w' := by
 have HU := hid (fun (v : World) (hb : Below w.heap.size w v) => c_sUnpackCodes_no k A cap L v (h.below hb hL) (Nat.le_trans hL hb.size) hw s hs hk)
 obtain ⟨p0, p1, p2, p3, p4, p5⟩ := (Blk.new w 88 #[.int .i64 k.o, .int .i64 k.l, .int .i64 k.m, .slice A k.ps.length cap, .int .i64 k.base, .int .i64 k.last]).cells6
 clear h hw hk
 go_enter Tryz.func99, Tryz.ntmps99
 go_wp2_with fail
 refine (HU.out _ (by exact obB)).mono ?_
 rintro e w1 ⟨A3, c3, rfl, _, hb1⟩
 go_wp2
 go_ret3
 exact ⟨rfl, by exact obB⟩

theorem c_sDecompress_yes (hk : UnpOk k s) : Calls Tryz.prog 99 #[.agg #[.int .i64 k.o, .int .i64 k.l, .int .i64 k.m, .slice A k.ps.length cap, .int .i64 k.base, .int .i64 k.last], .string s] w fun e w' => e = .returned (.tuple #[.string (str (k.dat (k.uc s))), .int .i64 (k.ue s), .int .i64 (k.uu s : Nat)]) ∧ Below w.heap.size w w' := by
 have HU := hid (fun (v : World) (hb : Below w.heap.size w v) => c_sUnpackCodes_yes k A cap L v (h.below hb hL) (Nat.le_trans hL hb.size) hw s hk)
 unfold UDone at HU
 have HW := hid (fun (v : World) (hb : Below w.heap.size w v) (A2 : Option Addr) (c2 : Nat) (hq : NumsAt v v.heap.size A2 c2 (k.uc s)) => c_l2Walk_yes k A cap L v (h.below hb hL) (Nat.le_trans hL hb.size) A2 c2 v.heap.size (k.uc s) hq (Nat.le_refl _) (hk.1.uc_ok s))
 unfold WYes at HW
 have heb := k.ue_bd s
 have hcl := Kn.uc_len hk.1 s
 have hub := Kn.uu_bd hk.1 s
 have hsz := hk.2
 have hwl : (k.widths (k.uc s)).length = (k.uc s).length := Kn.widths_length k _
 obtain ⟨Ws, hWs⟩ : ∃ Ws, Ws = k.widths (k.uc s) := ⟨_, rfl⟩
 obtain ⟨Ds, hDs⟩ : ∃ Ds, Ds = str (k.dat (k.uc s)) := ⟨_, rfl⟩
 simp only [← hWs, ← hDs] at HW
 rw [← hDs]
 obtain ⟨C, hC⟩ : ∃ C, C = k.uc s := ⟨_, rfl⟩
 obtain ⟨E, hE⟩ : ∃ E, E = k.ue s := ⟨_, rfl⟩
 obtain ⟨N, hN⟩ : ∃ N, N = k.uu s := ⟨_, rfl⟩
 simp only [← hC, ← hE, ← hN] at HU HW heb hcl hub
 rw [← hE, ← hN]
 have kN := Blk.new w 88 #[.int .i64 k.o, .int .i64 k.l, .int .i64 k.m, .slice A k.ps.length cap, .int .i64 k.base, .int .i64 k.last]
 obtain ⟨p0, p1, p2, p3, p4, p5⟩ := kN.cells6
 have e4 : (E == 4) = false := eq_no (by omega)
 clear h hw hk hWs hDs hwl hC hE hN
 go_enter Tryz.func99, Tryz.ntmps99
 go_wp2_with fail
 refine (HU.out _ (by exact obB)).mono ?_
 rintro e w1 ⟨A3, c3, rfl, ho, hb1⟩
 have hB1 : Below w.heap.size w w1 := by exact obB
 have HO := hid (own_ints_at ho)
 have kN1 := kN.on hb1
 clear p0 p1 p2 p3 p4 p5 hb1 ho kN
 obtain ⟨p0, p1, p2, p3, p4, p5⟩ := kN1.cells6
 go_wp2_with fail
 refine (HW.out _ hB1 _ _ HO.out).mono ?_
 rintro e w2 ⟨k', A', cap', A4, c4, rfl, _, hb2⟩
 clear p0 p1 p2 p3 p4 p5
 go_wp2
 go_ret3
 exact ⟨rfl, by exact obB⟩

end
end
end Go.Proofs.YtmlaaammfnboiaaGreatDoor
