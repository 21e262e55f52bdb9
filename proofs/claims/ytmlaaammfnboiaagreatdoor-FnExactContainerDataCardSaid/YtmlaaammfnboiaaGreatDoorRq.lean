/- Contracts of readTrail, UnpackCodes and Decompress in the program. No condition but that the numbers are int's. -/
import Derived.Test.YtmlaaammfnboiaaGreatDoorRe
import Derived.Test.YtmlaaammfnboiaaGreatDoorBd
namespace Go.Proofs.YtmlaaammfnboiaaGreatDoor
open Go.ChangeShapes Go.WideShapes Go.ChangeAt Go.RowKit Go.Joins
set_option linter.unusedVariables false
set_option linter.unusedSectionVars false

/-- a stream's codes, how it ends, and how many bytes are used -/
def Kn.bitsOf (k : Kn) (s : ByteArray) : List Bool := bitsL (str (unpackL k.o s))
def Kn.rdAll (k : Kn) (s : ByteArray) : List Int × Int × Nat := Kn.rd (k.bitsOf s) (8 * s.size + 1) k 0 0 0
def Kn.uc (k : Kn) (s : ByteArray) : List Int := (k.rdAll s).1
def Kn.ue (k : Kn) (s : ByteArray) : Int := (k.rdAll s).2.1
def Kn.uu (k : Kn) (s : ByteArray) : Nat := ((k.rdAll s).2.2 + 7) / 8
def UnpOk (k : Kn) (s : ByteArray) : Prop := k.Ok ∧ s.size ≤ 4000

theorem unpackL_size (o : Int) (s : ByteArray) : (str (unpackL o s)).size = 8 * s.size := by rw [str_size]; simp [unpackL, M.asc, M.unpack_length]

theorem Kn.bitsOf_len (k : Kn) (s : ByteArray) : (k.bitsOf s).length = 8 * s.size := by rw [Kn.bitsOf, bitsL_len, unpackL_size]

theorem unpackL_bit (o : Int) (s : ByteArray) : (str (unpackL o s)).data.toList.all isBit = true := by rw [str_list]; exact M.isBits_asc _
def ReadYes (k : Kn) (s : ByteArray) (w : World) (e : Ending) (w' : World) : Prop :=
 ∃ g T, e = .returned (.tuple #[.pointer (some ⟨g, 0, none⟩), .int .i64 (k.ue s), .int .i64 (k.uu s : Nat)]) ∧ TrailAt w' w.heap.size g T ∧ T.cs = k.uc s ∧ T.ds = k.dat (k.uc s) ∧ Below w.heap.size w w'
def ReadNo (w : World) (e : Ending) (w' : World) : Prop :=
 ∃ g, e = .returned (.tuple #[.pointer (some ⟨g, 0, none⟩), .int .i64 4, .int .i64 0]) ∧ Blk w' g 152 #[.int .i64 0, .int .i64 0, .int .i64 0, .slice none 0 0, .int .i64 0, .int .i64 0, .int .i64 0, .int .i64 0, .slice none 0 0, .slice none 0 0, .slice none 0 0] ∧ Below w.heap.size w w'

theorem Kn.ue_bd (k : Kn) (s : ByteArray) : 0 ≤ k.ue s ∧ k.ue s ≤ 3 := by
 have : ∀ (B : List Bool) (f : Nat) (k : Kn) (a n sz : Nat), 0 ≤ (Kn.rd B f k a n sz).2.1 ∧ (Kn.rd B f k a n sz).2.1 ≤ 3 := by
  intro B f
  induction f with
  | zero => intro k a n sz; simp [Kn.rd]
  | succ f ih =>
   intro k a n sz
   rw [Kn.rd]
   generalize k.codeAt B a = code
   split
   ·split
    ·simp
    ·split
     ·split
      ·simp
      ·split
       ·simp
       ·exact ih _ _ _ _
     ·simp
   ·simp
 exact this _ _ _ _ _ _

theorem Kn.uu_bd {k : Kn} (h : k.Ok) (s : ByteArray) : k.uu s ≤ s.size := by
 have h1 := h.rd_used (k.bitsOf s) (8 * s.size + 1) 0 0 0 (Nat.zero_le _)
 rw [Kn.bitsOf_len] at h1
 unfold Kn.uu Kn.rdAll; omega

theorem Kn.uc_len {k : Kn} (h : k.Ok) (s : ByteArray) : (k.uc s).length ≤ 3100 := by
 have := (h.rd_good (k.bitsOf s) (8 * s.size + 1) 0 0 0 (by omega) (by omega)).2
 unfold Kn.uc Kn.rdAll; omega

theorem Kn.uc_good {k : Kn} (h : k.Ok) (s : ByteArray) : k.good 0 (k.uc s) = true :=
 (h.rd_good (k.bitsOf s) (8 * s.size + 1) 0 0 0 (by omega) (by omega)).1
section
variable (k : Kn) (A : Option Addr) (cap L : Nat) (w : World) (h : PsAt w L A cap k.ps) (hL : L ≤ w.heap.size) (hw : k.Wf) (s : ByteArray)

include h hL hw

theorem c_readTrail_no (hs : s.size ≤ maxLen) (hk : ¬ UnpOk k s) : Calls Tryz.prog 100 #[.agg #[.int .i64 k.o, .int .i64 k.l, .int .i64 k.m, .slice A k.ps.length cap, .int .i64 k.base, .int .i64 k.last], .string s] w (ReadNo w) := by
 obtain ⟨p0, p1, p2, p3, p4, p5⟩ := (Blk.new w 88 #[.int .i64 k.o, .int .i64 k.l, .int .i64 k.m, .slice A k.ps.length cap, .int .i64 k.base, .int .i64 k.last]).cells6
 have kN := Blk.new w 88 #[.int .i64 k.o, .int .i64 k.l, .int .i64 k.m, .slice A k.ps.length cap, .int .i64 k.base, .int .i64 k.last]
 cases hst : stOk k.o s with
 | false =>
  have HU := hid (fun (v : World) => c_UnpackBits_no k.o s v hs hst)
  clear h hw hk hst
  go_enter Tryz.func100, Tryz.ntmps100
  go_wp2_with fail
  refine (HU.out _).mono ?_
  rintro e w1 ⟨rfl, hb1⟩
  have hB1 : Below w.heap.size w w1 := by exact obB
  have HG := hid (Blk.new w1 152 #[.int .i64 0, .int .i64 0, .int .i64 0, .slice none 0 0, .int .i64 0, .int .i64 0, .int .i64 0, .int .i64 0, .slice none 0 0, .slice none 0 0, .slice none 0 0])
  go_wp2
  go_ret3
  exact ⟨_, rfl, HG.out, by exact obB⟩
 | true =>
  have hk1 : ¬ k.Ok := fun h1 => hk ⟨h1, (stOk_iff.1 hst).2⟩
  have HU := hid (fun (v : World) => c_UnpackBits_yes k.o s v hs hst)
  have HV := hid (fun (v : World) (hb : Below w.heap.size w v) => c_KnownValid_no k A cap L v (h.below hb hL) (Nat.le_trans hL hb.size) hk1 hw)
  clear h hw hk hst hk1
  go_enter Tryz.func100, Tryz.ntmps100
  go_wp2_with fail
  refine (HU.out _).mono ?_
  rintro e w0 ⟨rfl, hb0⟩
  have hB0 : Below w.heap.size w w0 := by exact obB
  have kN0 := kN.on hb0
  clear hb0 p0 p1 p2 p3 p4 p5
  obtain ⟨p0, p1, p2, p3, p4, p5⟩ := kN0.cells6
  go_wp2_with fail
  refine (HV.out _ hB0).mono ?_
  rintro e w1 ⟨rfl, hb1⟩
  have hB1 : Below w.heap.size w w1 := by exact obB
  have HG := hid (Blk.new w1 152 #[.int .i64 0, .int .i64 0, .int .i64 0, .slice none 0 0, .int .i64 0, .int .i64 0, .int .i64 0, .int .i64 0, .slice none 0 0, .slice none 0 0, .slice none 0 0])
  go_wp2
  go_ret3
  exact ⟨_, rfl, HG.out, by exact obB⟩

set_option maxHeartbeats 1000000 in
theorem c_readTrail_yes (hk : UnpOk k s) : Calls Tryz.prog 100 #[.agg #[.int .i64 k.o, .int .i64 k.l, .int .i64 k.m, .slice A k.ps.length cap, .int .i64 k.base, .int .i64 k.last], .string s] w (ReadYes k s w) := by
 obtain ⟨hk1, hk2⟩ := hk
 have kN := Blk.new w 88 #[.int .i64 k.o, .int .i64 k.l, .int .i64 k.m, .slice A k.ps.length cap, .int .i64 k.base, .int .i64 k.last]
 obtain ⟨p0, p1, p2, p3, p4, p5⟩ := kN.cells6
 have ho : orderOk k.o = true := by
  have := hk1.set
  simp only [setOk, Bool.and_eq_true] at this
  exact this.1.1
 have hkl := hk1.len
 have HU := hid (fun (v : World) => c_UnpackBits_yes k.o s v (by unfold maxLen; omega) (stOk_iff.2 ⟨ho, hk2⟩))
 have HV := hid (fun (v : World) (hb : Below w.heap.size w v) => c_KnownValid_yes k A cap L v (h.below hb hL) (Nat.le_trans hL hb.size) hk1 hw)
 have HC := hid (fun (v : World) (hb : Below w.heap.size w v) => c_ownCopy k A cap L v (h.below hb hL) (Nat.le_trans hL hb.size) (by omega))
 have HR := hid (fun (v : World) (g : Nat) (hv : TrailAt v w.heap.size g (Tr.start k)) => c_read g w.heap.size (Tr.start k) (8 * s.size + 1) (str (unpackL k.o s)) v ⟨Tr.start_ok hk1, Nat.zero_le _, Nat.zero_le _, by simp [Tr.start]⟩ hv (by rw [unpackL_size]; omega) (unpackL_bit k.o s) (by rw [unpackL_size]; omega))
 unfold ReadOut at HR
 have HX := hid (Tr.rd_kn (k.bitsOf s) (8 * s.size + 1) (Tr.start k) 0)
 have HBl := hid (k.bitsOf_len s)
 have HUu := hid (Kn.uu_bd hk1 s)
 obtain ⟨U, hU⟩ : ∃ U, U = str (unpackL k.o s) := ⟨_, rfl⟩
 have HBits := hid (show bitsL U = k.bitsOf s by rw [hU]; rfl)
 rw [← hU] at HU HR
 clear h hw hk1 ho hU
 go_enter Tryz.func100, Tryz.ntmps100
 go_wp2_with fail
 refine (HU.out _).mono ?_
 rintro e w0 ⟨rfl, hb0⟩
 have hB0 : Below w.heap.size w w0 := by exact obB
 have kN0 := kN.on hb0
 clear hb0 p0 p1 p2 p3 p4 p5 kN
 obtain ⟨p0, p1, p2, p3, p4, p5⟩ := kN0.cells6
 go_wp2_with fail
 refine (HV.out _ hB0).mono ?_
 rintro e w1 ⟨rfl, hb1⟩
 have hB1 : Below w.heap.size w w1 := by exact obB
 have kN1 := kN0.on hb1
 clear hb1 p0 p1 p2 p3 p4 p5 kN0 hB0
 obtain ⟨p0, p1, p2, p3, p4, p5⟩ := kN1.cells6
 go_wp2_with fail
 refine (HC.out _ hB1).mono ?_
 rintro e w2 ⟨A3, c3, rfl, hown2, hb2⟩
 have hB2 : Below w.heap.size w w2 := by exact obB
 have hown2b := own_mono hown2 hB1.size
 clear p0 p1 p2 p3 p4 p5 hb2 hown2 kN1 hB1
 go_wp2_with fail
 have HT0 : Hid (TrailAt (w2.alloc (.cells #[.int .i64 k.o, .int .i64 k.l, .int .i64 k.m, .slice A3 k.ps.length c3, .int .i64 k.base, .int .i64 k.last, .int .i64 0, .int .i64 0, .slice none 0 0, .slice none 0 0, .slice none 0 0] 152)) w.heap.size w2.heap.size (Tr.start k)) := hid ⟨A3, c3, .slice none 0 0, .slice none 0 0, .slice none 0 0, Blk.new _ _ _, hown2b.alloc _, own_ints_nil _ _ _, own_ints_nil _ _ _, own_nil _ _ _, .inl (by simp [Value.ownBlock]), hB2.size⟩
 refine (HR.out _ _ HT0.out).mono ?_
 rintro e w3 ⟨T, a, f, hrd, hal, rfl, hTA, hTO, hb3⟩
 have hB3 : Below w.heap.size w w3 := (bel_alloc hB2 _).trans hb3
 have HTA := hid hTA
 obtain ⟨x1, x2, x3, x4, x5⟩ := HX.out
 rw [HBits.out] at hrd hal
 rw [hrd] at x1 x2 x3 x4 x5
 have e1 : T.cs = k.uc s := x1
 have e2 : f = k.ue s := x2
 have e3 : T.ds = k.dat (k.uc s) := x3
 rw [HBl.out] at hal
 have HC2 := hid e1
 have HD2 := hid e3
 by_cases hf : f = 1
 ·have hbt : (f == 1) = true := eq_yes hf
  have e4 : s.size = k.uu s := by
   have := x5 hf
   rw [HBl.out] at this
   show s.size = ((Kn.rd (k.bitsOf s) (8 * s.size + 1) k 0 0 0).2.2 + 7) / 8
   have h2 : (Kn.rd (k.bitsOf s) (8 * s.size + 1) k 0 0 0).2.2 = 8 * s.size := this
   omega
  have HE := hid e2
  have HE4 := hid e4
  clear x1 x2 x3 x4 x5 hrd hTA hTO hb3 e1 e2 e3 e4 hf
  go_wp2
  go_ret3
  exact ⟨_, T, by rw [← HE4.out, ← HE.out]; rfl, HTA.out, HC2.out, HD2.out, hB3⟩
 ·have hbt : (f == 1) = false := eq_no (by omega)
  have e4 : (a + 7) / 8 = k.uu s := by
   have := x4 hf
   show (a + 7) / 8 = ((Kn.rd (k.bitsOf s) (8 * s.size + 1) k 0 0 0).2.2 + 7) / 8
   have h2 : a = (Kn.rd (k.bitsOf s) (8 * s.size + 1) k 0 0 0).2.2 := this
   omega
  have HE := hid e2
  have HE4 := hid e4
  clear x1 x2 x3 x4 x5 hrd hTA hTO hb3 e1 e2 e3 e4 hf
  go_wp2_with (go_at_call 141; refine (c_bytesFor _ _ (by omega) (by omega)).mono ?_; rintro e w' ⟨rfl, rfl⟩)
  go_ret3
  exact ⟨_, T, by rw [← HE4.out, ← HE.out]; rfl, HTA.out, HC2.out, HD2.out, by exact obB⟩

theorem c_Decompress_no (hs : s.size ≤ maxLen) (hk : ¬ UnpOk k s) : Calls Tryz.prog 68 #[.agg #[.int .i64 k.o, .int .i64 k.l, .int .i64 k.m, .slice A k.ps.length cap, .int .i64 k.base, .int .i64 k.last], .string s] w fun e w' => e = .returned (.tuple #[.string ByteArray.empty, .int .i64 4, .int .i64 0]) ∧ Below w.heap.size w w' := by
 have HT2 := hid (fun (v : World) (hb : Below w.heap.size w v) => c_readTrail_no k A cap L v (h.below hb hL) (Nat.le_trans hL hb.size) hw s hs hk)
 clear h hw hk
 go_enter Tryz.func68, Tryz.ntmps68
 go_wp2_with fail
 refine (HT2.out _ (by exact obB)).mono ?_
 rintro e w1 ⟨g, rfl, hg, hb1⟩
 have q10 := hg.cell 10
 simp only [List.getElem?_toArray, List.getElem?_cons_succ, List.getElem?_cons_zero] at q10
 have hcv := run_own_str (P := Tryz.prog) Tryz.underlying98 Tryz.underlying5 Tryz.underlying9 (own_nil w1 0 5)
 go_wp2
 go_ret3
 exact ⟨rfl, by exact obB⟩

theorem c_Decompress_yes (hk : UnpOk k s) : Calls Tryz.prog 68 #[.agg #[.int .i64 k.o, .int .i64 k.l, .int .i64 k.m, .slice A k.ps.length cap, .int .i64 k.base, .int .i64 k.last], .string s] w fun e w' => e = .returned (.tuple #[.string (str (k.dat (k.uc s))), .int .i64 (k.ue s), .int .i64 (k.uu s : Nat)]) ∧ Below w.heap.size w w' := by
 have HT2 := hid (fun (v : World) (hb : Below w.heap.size w v) => c_readTrail_yes k A cap L v (h.below hb hL) (Nat.le_trans hL hb.size) hw s hk)
 clear h hw hk
 go_enter Tryz.func68, Tryz.ntmps68
 go_wp2_with fail
 refine (HT2.out _ (by exact obB)).mono ?_
 rintro e w1 ⟨g, T, rfl, ⟨A1, c1, vc, vw, vd, hT⟩, hTc, hTd, hb1⟩
 have ho := hT.ds
 rw [hTd] at ho
 have q10 := hT.blk.cell 10
 have hcv := run_own_str (P := Tryz.prog) Tryz.underlying98 Tryz.underlying5 Tryz.underlying9 ho
 obtain ⟨A3, c3, rfl⟩ := own_sl ho
 simp only [List.getElem?_toArray, List.getElem?_cons_succ, List.getElem?_cons_zero] at q10
 clear ho hT hTc hTd
 go_wp2
 go_ret3
 exact ⟨rfl, by exact obB⟩

end
end Go.Proofs.YtmlaaammfnboiaaGreatDoor
