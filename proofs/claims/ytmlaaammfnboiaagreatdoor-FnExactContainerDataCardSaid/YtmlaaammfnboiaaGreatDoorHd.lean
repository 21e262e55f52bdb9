/- ContainerData and ReadRange in both programs, and their laws' walks. The layout of the header and the errors are as the program's text lays them. -/
import Derived.Test.YtmlaaammfnboiaaGreatDoorHc
import Derived.Test.YtmlaaammfnboiaaGreatDoorUe
import Derived.Test.YtmlaaammfnboiaaGreatDoorUf
namespace Go.Proofs.YtmlaaammfnboiaaGreatDoor
open Go.ChangeShapes Go.WideShapes Go.ChangeAt Go.RowKit Go.Joins
set_option linter.unusedVariables false
set_option linter.unusedSimpArgs false

/-- the data of one block more -/
noncomputable def stepD (K : Kn) (acc : Option ByteArray) (b : Bl) : Option ByteArray := match acc with | none => none | some t => match bdat K b with | none => none | some d => some (t ++ d)
theorem stepD_none (K : Kn) (l : List Bl) : l.foldl (stepD K) none = none := by
 induction l with
 | nil => rfl
 | cons b l ih => exact ih
theorem bdat_size {K : Kn} {b : Bl} (hb : b.ok) {d : ByteArray} (h : bdat K b = some d) : d.size ≤ 64 := by
 unfold bdat at h
 split at h
 ·rename_i hr
  obtain rfl := Option.some.inj h
  have := hb.2.2.1 hr
  have := hb.2.1
  omega
 ·split at h
  ·rename_i hq
   obtain rfl := Option.some.inj h
   have := hq.2.2.2
   have := hb.2.1
   omega
  ·cases h
theorem pls_lenH (cs : List Bl) : (pls cs).length = cs.length := by simp [pls]
theorem own_blsH {w : World} {B : Nat} {e : TypeId} {A : Option Addr} {n cap : Nat} {l : List Bl} (h : w.ownsRow B e 4 (.slice A n cap) n (bvs l)) : BlsAt w w.heap.size A cap l ∧ n = l.length := by
 obtain ⟨A', cap', e1, h2, h3⟩ := own_bls h
 obtain ⟨rfl, -, rfl⟩ : A = A' ∧ n = l.length ∧ cap = cap' := by simpa using e1
 exact ⟨h2, h3⟩
theorem Rdg.okAllH {L : List UInt8} {bs : List Bl} (h : Rdg L bs) : ∀ b ∈ bs, b.ok := fun b hb => by
 obtain ⟨i, hi, rfl⟩ := List.getElem_of_mem hb
 exact (h.1 i bs[i] (List.getElem?_eq_getElem hi)).1
/-- ContainerData's answer -/
noncomputable def cdRes (o l m : Int) (dict : ByteArray) (bs : List Bl) (c : Nat) : Option ByteArray := if c = 0 ∧ dataFits o l m dict = true then bs.foldl (stepD (kOf o l m dict)) (some ByteArray.empty) else none

section
variable (o l m : Int) (dict : ByteArray) (hk : dataFits o l m dict = true) (K : Kn) (hK : K = kOf o l m dict)

include hk hK

set_option maxHeartbeats 4000000 in
set_option maxRecDepth 100000 in
theorem c_l5All (A : Option Addr) (cap : Nat) (bs : List Bl) (L : Nat) (w : World) (h : BlsAt w L A cap bs) (hL : L ≤ w.heap.size) (hn : bs.length ≤ 40) (hok : ∀ b ∈ bs, b.ok) : Calls Tryz.prog 46 #[.agg #[.int .i64 o, .int .i64 l, .int .i64 m], .string dict, .slice A bs.length cap] w fun e w' => e = .returned (optV (bs.foldl (stepD K) (some ByteArray.empty))) ∧ Below w.heap.size w w' := by
 have HD := hid (fun (b : Bl) (v : World) (hb : b.body.size ≤ maxLen) => c_l5Data o l m dict (kOf_ok hk).1 K hK b v hb)
 obtain ⟨N, hN⟩ : ∃ N, N = bs.length := ⟨_, rfl⟩
 have HN := hid hN
 have HOK := hid hok
 have HH := hid h
 rw [← hN] at hn ⊢
 obtain ⟨Q, hQ⟩ : ∃ Q, Q = bs.foldl (stepD K) (some ByteArray.empty) := ⟨_, rfl⟩
 rw [← hQ]
 have HQ := hid hQ
 have HS := hid (Blk.new w 28 #[.int .i64 o, .int .i64 l, .int .i64 m])
 have hB0 : Below w.heap.size w (w.alloc (.cells #[.int .i64 o, .int .i64 l, .int .i64 m] 28)) := bel_alloc (Below.refl _ w) _
 obtain ⟨W0, hW0⟩ : ∃ W0, W0 = w.alloc (.cells #[.int .i64 o, .int .i64 l, .int .i64 m] 28) := ⟨_, rfl⟩
 rw [← hW0] at HS hB0
 have hz0 := hB0.size
 clear hk hK hN hok h hQ
 go_enter Tryz.func46, Tryz.ntmps46
 go_wp2_with fail
 rw [← hW0]
 clear hW0
 go_loopw [8, 9] (fun t i wr => ∃ (k : Nat) (T : ByteArray), k ≤ N ∧ i = .int .i64 k ∧ t = .string T ∧ Hid (Q = (bs.drop k).foldl (stepD K) (some T)) ∧ T.size ≤ 64 * k ∧ Below W0.heap.size W0 wr) (fun _ i _ => N - (intOf i).toNat)
 case atStart => exact ⟨0, ByteArray.empty, Nat.zero_le _, rfl, rfl, hid HQ.out, by simp, Below.refl _ _⟩
 case round =>
  obtain ⟨k, T, hk, rfl, rfl, HF, hT, hbl⟩ := hrel
  rename_i wr _
  by_cases hlt : k < N
  ·have hlt2 : k < bs.length := by have := HN.out; omega
   obtain ⟨b, off, rfl, hb0, hc0, hc1, hc2, hc3⟩ := bl_at (HH.out.below (hB0.trans (hbl.mono hz0)) hL) k hlt2
   have hpo := HOK.out _ (List.getElem_mem hlt2)
   have HE := hid (show Q = (bs.drop (k + 1)).foldl (stepD K) (stepD K (some T) bs[k]) by rw [HF.out, List.drop_eq_getElem_cons hlt2]; rfl)
   obtain ⟨p, hp⟩ : ∃ p, p = bs[k] := ⟨_, rfl⟩
   rw [← hp] at hc0 hc1 hc2 hc3 hpo HE
   clear hp hlt2
   have hpl := (p.len hpo).2
   have HDp := hid (fun v => HD.out p v (by unfold maxLen; omega))
   have kS := HS.out.on hbl
   cases hd : bdat K p with
   | none =>
    have HR := hid (show Q = none by rw [HE.out, show stepD K (some T) p = none from by simp only [stepD, hd], stepD_none])
    rw [hd] at HDp
    obtain ⟨p0, p1, p2, p3⟩ := p
    simp only [optV] at hc0 hc1 hc2 hc3 HDp
    have hS : wr.cell? ⟨w.heap.size, 0, none⟩ = some (.int .i64 o) ∧ wr.cell? ⟨w.heap.size, 1, none⟩ = some (.int .i64 l) ∧ wr.cell? ⟨w.heap.size, 2, none⟩ = some (.int .i64 m) ∧ wr.cell? ⟨b, off + k * 4, none⟩ = some (.int .i64 p0) ∧ wr.cell? ⟨b, off + k * 4 + 1, none⟩ = some (.bool p1) ∧ wr.cell? ⟨b, off + k * 4 + 2, none⟩ = some (.int .i64 p2) ∧ wr.cell? ⟨b, off + k * 4 + 3, none⟩ = some (.string p3) ∧ Below wr.heap.size wr wr := ⟨kS.cells3.1, kS.cells3.2.1, kS.cells3.2.2, hc0, hc1, hc2, hc3, Below.refl _ _⟩
    have hkN : (k : Int) < (N : Int) := by omega
    clear hc0 hc1 hc2 hc3 kS hd hpo hpl HE HF
    go_wp2_with fail
    refine qB (S := (fun v => v.cell? ⟨w.heap.size, 0, none⟩ = some (.int .i64 o) ∧ v.cell? ⟨w.heap.size, 1, none⟩ = some (.int .i64 l) ∧ v.cell? ⟨w.heap.size, 2, none⟩ = some (.int .i64 m) ∧ v.cell? ⟨b, off + k * 4, none⟩ = some (.int .i64 p0) ∧ v.cell? ⟨b, off + k * 4 + 1, none⟩ = some (.bool p1) ∧ v.cell? ⟨b, off + k * 4 + 2, none⟩ = some (.int .i64 p2) ∧ v.cell? ⟨b, off + k * 4 + 3, none⟩ = some (.string p3) ∧ Below wr.heap.size wr v)) (by kernel_rfl) (by kernel_rfl) (s7_drew hS) ?_
    refine qK ?_
    refine qK ?_
    refine qK ?_
    refine qK ?_
    refine qK ?_
    refine qK ?_
    refine qC (fun wq hSq => HDp.out wq) (fun wq wr hbr hSq => s7_bel hbr hSq) ?_
    refine qK ?_
    refine qK ?_
    refine qK ?_
    refine qK ?_
    refine qK ?_
    refine qN ?_
    intro wq hSq
    (try dsimp only at hSq)
    have hbq := hB0.trans ((hbl.trans (hSq.2.2.2.2.2.2.2.mono hbl.size)).mono hz0)
    clear hSq hS
    go_wp2_with fail
    go_ret2
    exact ⟨by rw [HR.out]; rfl, hbq⟩
   | some d =>
    have hdz := bdat_size hpo hd
    have HR := hid (show Q = (bs.drop (k + 1)).foldl (stepD K) (some (T ++ d)) by rw [HE.out, show stepD K (some T) p = some (T ++ d) from by simp only [stepD, hd]])
    rw [hd] at HDp
    obtain ⟨p0, p1, p2, p3⟩ := p
    simp only [optV] at hc0 hc1 hc2 hc3 HDp
    have hS : wr.cell? ⟨w.heap.size, 0, none⟩ = some (.int .i64 o) ∧ wr.cell? ⟨w.heap.size, 1, none⟩ = some (.int .i64 l) ∧ wr.cell? ⟨w.heap.size, 2, none⟩ = some (.int .i64 m) ∧ wr.cell? ⟨b, off + k * 4, none⟩ = some (.int .i64 p0) ∧ wr.cell? ⟨b, off + k * 4 + 1, none⟩ = some (.bool p1) ∧ wr.cell? ⟨b, off + k * 4 + 2, none⟩ = some (.int .i64 p2) ∧ wr.cell? ⟨b, off + k * 4 + 3, none⟩ = some (.string p3) ∧ Below wr.heap.size wr wr := ⟨kS.cells3.1, kS.cells3.2.1, kS.cells3.2.2, hc0, hc1, hc2, hc3, Below.refl _ _⟩
    have hkN : (k : Int) < (N : Int) := by omega
    have hTd : (T ++ d).size ≤ 64 * (k + 1) := by rw [ByteArray.size_append]; omega
    clear hc0 hc1 hc2 hc3 kS hd hpo hpl HE HF
    go_wp2_with fail
    refine qB (S := (fun v => v.cell? ⟨w.heap.size, 0, none⟩ = some (.int .i64 o) ∧ v.cell? ⟨w.heap.size, 1, none⟩ = some (.int .i64 l) ∧ v.cell? ⟨w.heap.size, 2, none⟩ = some (.int .i64 m) ∧ v.cell? ⟨b, off + k * 4, none⟩ = some (.int .i64 p0) ∧ v.cell? ⟨b, off + k * 4 + 1, none⟩ = some (.bool p1) ∧ v.cell? ⟨b, off + k * 4 + 2, none⟩ = some (.int .i64 p2) ∧ v.cell? ⟨b, off + k * 4 + 3, none⟩ = some (.string p3) ∧ Below wr.heap.size wr v)) (by kernel_rfl) (by kernel_rfl) (s7_drew hS) ?_
    refine qK ?_
    refine qK ?_
    refine qK ?_
    refine qK ?_
    refine qK ?_
    refine qK ?_
    refine qC (fun wq hSq => HDp.out wq) (fun wq wr hbr hSq => s7_bel hbr hSq) ?_
    refine qK ?_
    refine qK ?_
    refine qK ?_
    refine qK ?_
    refine qK ?_
    refine qN ?_
    intro wq hSq
    (try dsimp only at hSq)
    have hbq := hbl.trans (hSq.2.2.2.2.2.2.2.mono hbl.size)
    clear hSq hS
    go_wp2_with fail
    go_roundw
    case rel => exact ⟨k + 1, T ++ d, by omega, by go_num, rfl, HR, hTd, hbq⟩
    case measure => simp [intOf]; omega
  ·have HR := hid (show Q = some T by rw [HF.out, List.drop_of_length_le (by have := HN.out; omega)]; rfl)
   go_wp2_with fail
   go_ret2
   exact ⟨by rw [HR.out]; rfl, hB0.trans (hbl.mono hz0)⟩
end

set_option maxHeartbeats 4000000 in
set_option maxRecDepth 100000 in
theorem c_sContainerData (o l m : Int) (dict S : ByteArray) (L : List UInt8) (bs : List Bl) (c : Nat) (w : World) (hs : dict.size ≤ maxLen) (hS : S.size ≤ 1000000000000) (hL : L = S.data.toList) (hst : Stop L bs c) : Calls Tryz.prog 21 #[.agg #[.int .i64 o, .int .i64 l, .int .i64 m], .string dict, .string S] w fun e w' => e = .returned (optV (cdRes o l m dict bs c)) ∧ Below w.heap.size w w' := by
 have HB := hid (fun v => c_l5Blocks S L bs c v hS hL hst)
 have HF := hid (fun v => c_l5Ready o l m dict v hs)
 have hn := hst.brd.len_le
 have hok := hst.brd.okAllH
 have hB0 : Below w.heap.size w (w.alloc (.cells #[.int .i64 o, .int .i64 l, .int .i64 m] 28)) := bel_alloc (Below.refl _ w) _
 have kS := Blk.new w 28 #[.int .i64 o, .int .i64 l, .int .i64 m]
 obtain ⟨y0, y1, y2⟩ := kS.cells3
 by_cases hc : c = 0
 ·rw [decide_eq_true hc, if_pos hc] at HB
  cases h1 : dataFits o l m dict with
  | false =>
   have hr : cdRes o l m dict bs c = none := by unfold cdRes; rw [if_neg (fun h9 => by rw [h1] at h9; cases h9.2)]
   rw [hr]
   rw [h1] at HF
   clear hr h1 hst
   go_enter Tryz.func21, Tryz.ntmps21
   go_wp2_with fail
   refine (HB.out _).mono ?_
   rintro e w1 ⟨v, rfl, hown, hb1⟩
   have hB1 := hB0.trans (hb1.mono hB0.size)
   have kS1 := kS.on hb1
   clear y0 y1 y2
   obtain ⟨y0, y1, y2⟩ := kS1.cells3
   clear hown kS kS1 hb1 hB0
   go_wp2_with fail
   refine (HF.out _).mono ?_
   rintro e w2 ⟨rfl, hb2⟩
   have hB2 := hB1.trans (hb2.mono hB1.size)
   go_wp2_with fail
   go_ret2
   exact ⟨rfl, hB2⟩
  | true =>
   have hr : cdRes o l m dict bs c = bs.foldl (stepD (kOf o l m dict)) (some ByteArray.empty) := by unfold cdRes; rw [if_pos ⟨hc, h1⟩]
   rw [hr]
   have HA := hid (fun (A : Option Addr) (cap L : Nat) (v : World) (h : BlsAt v L A cap bs) (hL : L ≤ v.heap.size) => c_l5All o l m dict h1 _ rfl A cap bs L v h hL hn hok)
   obtain ⟨X, q, hXq⟩ := optV_ex (bs.foldl (stepD (kOf o l m dict)) (some ByteArray.empty))
   rw [hXq] at HA ⊢
   rw [h1] at HF
   clear hr h1 hst hXq hok
   go_enter Tryz.func21, Tryz.ntmps21
   go_wp2_with fail
   refine (HB.out _).mono ?_
   rintro e w1 ⟨v, rfl, hown, hb1⟩
   obtain ⟨A, cap, rfl, hat, -⟩ := own_bls hown
   have HT := hid hat
   have hB1 := hB0.trans (hb1.mono hB0.size)
   have kS1 := kS.on hb1
   clear y0 y1 y2
   obtain ⟨y0, y1, y2⟩ := kS1.cells3
   clear hown hat kS hb1 hB0
   go_wp2_with fail
   refine (HF.out _).mono ?_
   rintro e w2 ⟨rfl, hb2⟩
   have hB2 := hB1.trans (hb2.mono hB1.size)
   have HT2 := hid (And.intro (HT.out.below hb2 (Nat.le_refl _)) hb2.size)
   have kS2 := kS1.on hb2
   clear y0 y1 y2 kS1 hB1 hb2
   obtain ⟨y0, y1, y2⟩ := kS2.cells3
   go_wp2_with fail
   refine (HA.out _ _ _ _ HT2.out.1 HT2.out.2).mono ?_
   rintro e w3 ⟨rfl, hb3⟩
   have hB3 := hB2.trans (hb3.mono hB2.size)
   go_wp2_with fail
   go_ret2
   exact ⟨rfl, hB3⟩
 ·rw [decide_eq_false hc, if_neg hc] at HB
  have hr : cdRes o l m dict bs c = none := by unfold cdRes; rw [if_neg (fun h9 => hc h9.1)]
  rw [hr]
  clear hr hst hc
  go_enter Tryz.func21, Tryz.ntmps21
  go_wp2_with fail
  refine (HB.out _).mono ?_
  rintro e w1 ⟨v, rfl, hown, hb1⟩
  have hB1 := hB0.trans (hb1.mono hB0.size)
  clear hown
  go_wp2_with fail
  go_ret2
  exact ⟨rfl, hB1⟩

set_option maxHeartbeats 4000000 in
set_option maxRecDepth 100000 in
theorem c_containerData_no (S : ByteArray) (L : List UInt8) (bs : List Bl) (c : Nat) (pb : Nat) (w : World) {a0 a1 a2 : Addr} (hS : S.size ≤ 1000000000000) (hL : L = S.data.toList) (hst : Stop L bs c) (hc : ¬ c = 0) (hG : Glob w a0 a1 a2) : Calls Tryz.prog 47 #[.pointer (some ⟨pb, 0, none⟩), .string S] w fun e w' => e = .returned (.tuple #[.string ByteArray.empty, .bool false]) ∧ Below w.heap.size w w' := by
 have HA := hid (c_rc_no hS hL hst hc hG)
 clear hst hG hc
 go_enter Tryz.func47, Tryz.ntmps47
 go_wp2_with fail
 refine (HA.out).mono ?_
 rintro e w1 ⟨x, rfl, hb1⟩
 have hRB := Blk.new w1 82 #[.slice none 0 0, .slice none 0 0, .int .i64 0, .int .i64 0]
 obtain ⟨r0, r1, r2, r3⟩ := hRB.cells4y
 have f0 := hRB.frozen 0
 have f1 := hRB.frozen 1
 have f2 := hRB.frozen 2
 have f3 := hRB.frozen 3
 clear hRB
 go_wp2_with fail
 go_ret2
 exact ⟨rfl, by exact obB⟩

set_option maxHeartbeats 4000000 in
set_option maxRecDepth 100000 in
theorem c_containerData_yes (S : ByteArray) (L : List UInt8) (bs : List Bl) (pb fb : Nat) (K : Kn) (A : Option Addr) (cap L0 : Nat) (hw : K.Wf) (w : World) {a0 a1 a2 : Addr} (hP : PD pb fb K A cap L0 w) (hL0 : L0 ≤ w.heap.size) (hS : S.size ≤ 1000000000000) (hL : L = S.data.toList) (hst : Stop L bs 0) (hG : Glob w a0 a1 a2) : Calls Tryz.prog 47 #[.pointer (some ⟨pb, 0, none⟩), .string S] w fun e w' => e = .returned (optV (bs.foldl (stepD K) (some ByteArray.empty))) ∧ Below w.heap.size w w' := by
 have HA := hid (c_rc_yes hS hL hst hG)
 have HD := hid (fun (b : Bl) (v : World) (hb : b.body.size ≤ maxLen) (hbl : Below w.heap.size w v) => c_blockData pb fb K A cap L0 hw b v (hP.below hbl hL0) (Nat.le_trans hL0 hbl.size) hb)
 have HOK := hid hst.brd.okAllH
 have hn := hst.brd.len_le
 obtain ⟨N, hN⟩ : ∃ N, N = bs.length := ⟨_, rfl⟩
 have HN := hid hN
 rw [pls_lenH, ← hN] at HA
 rw [← hN] at hn
 obtain ⟨Q, hQ⟩ : ∃ Q, Q = bs.foldl (stepD K) (some ByteArray.empty) := ⟨_, rfl⟩
 rw [← hQ]
 have HQ := hid hQ
 clear hst hG hN hQ hP
 go_enter Tryz.func47, Tryz.ntmps47
 go_wp2_with fail
 refine (HA.out).mono ?_
 rintro e w1 ⟨A1, q1, A2, q2, rfl, h1, h2, hb1⟩
 have HBL := hid (own_blsH h1)
 have z1 := hb1.size
 have hRB := Blk.new w1 82 #[.slice none 0 0, .slice none 0 0, .int .i64 0, .int .i64 0]
 obtain ⟨r0, r1, r2, r3⟩ := hRB.cells4y
 have f0 := hRB.frozen 0
 have f1 := hRB.frozen 1
 have f2 := hRB.frozen 2
 have f3 := hRB.frozen 3
 have HB2 : Below w1.heap.size w1 (w1.alloc (.cells #[.slice A1 N q1, .slice A2 N q2, .int .i64 ((txt bs).length : Nat), .int .i64 (zs bs : Nat)] 82)) := bel_alloc (Below.refl _ w1) _
 have hC := Blk.new w1 82 #[.slice A1 N q1, .slice A2 N q2, .int .i64 ((txt bs).length : Nat), .int .i64 (zs bs : Nat)]
 have hC0 := hC.cell 0
 obtain ⟨W2, hW2⟩ : ∃ W2, W2 = w1.alloc (.cells #[.slice A1 N q1, .slice A2 N q2, .int .i64 ((txt bs).length : Nat), .int .i64 (zs bs : Nat)] 82) := ⟨_, rfl⟩
 rw [← hW2] at HB2 hC0
 clear hRB h1 h2 hC
 go_wp2_with fail
 rw [← hW2]
 clear hW2 r0 r1 r2 r3 f0 f1 f2 f3
 have hz2 := HB2.size
 go_loopw [8, 23] (fun v i wr => ∃ (k : Nat) (T : ByteArray), k ≤ N ∧ i = .int .i64 k ∧ wr.ownsRow W2.heap.size 5 1 v T.size (T.data.toList.map vb) ∧ Hid (Q = (bs.drop k).foldl (stepD K) (some T)) ∧ T.size ≤ 64 * k ∧ Below W2.heap.size W2 wr) (fun _ i _ => N - (intOf i).toNat)
 case atStart => exact ⟨0, ByteArray.empty, Nat.zero_le _, rfl, own_nil _ _ _, hid HQ.out, by simp, Below.refl _ _⟩
 case round =>
  obtain ⟨k, T, hk, rfl, hown, HF, hT, hbl⟩ := hrel
  rename_i wr _
  by_cases hlt : k < N
  ·have hlt2 : k < bs.length := by have := HN.out; omega
   have hB1r := HB2.trans (hbl.mono hz2)
   obtain ⟨b, off, rfl, hb0, hc0, hc1, hc2, hc3⟩ := bl_at (HBL.out.1.below hB1r (Nat.le_refl _)) k hlt2
   have hpo := HOK.out _ (List.getElem_mem hlt2)
   have HE := hid (show Q = (bs.drop (k + 1)).foldl (stepD K) (stepD K (some T) bs[k]) by rw [HF.out, List.drop_eq_getElem_cons hlt2]; rfl)
   obtain ⟨p, hp⟩ : ∃ p, p = bs[k] := ⟨_, rfl⟩
   rw [← hp] at hc0 hc1 hc2 hc3 hpo HE
   clear hp hlt2
   have hpl := (p.len hpo).2
   have HDp := hid (fun v hb => HD.out p v (by unfold maxLen; omega) hb)
   have hkN : (k : Int) < (N : Int) := by omega
   have hbr : b < wr.heap.size := by have := hB1r.size; omega
   have hRB := Blk.new wr 25 #[.int .i64 0, .bool false, .int .i64 0, .string ByteArray.empty]
   obtain ⟨s0, s1, s2, s3⟩ := hRB.cells4y
   have f0 := hRB.frozen 0
   have f1 := hRB.frozen 1
   have f2 := hRB.frozen 2
   have f3 := hRB.frozen 3
   have hzr := hbl.size
   have hO := hid hown
   have HBr := hid (hb1.trans (hB1r.mono z1))
   have HBl := hid hbl
   clear hRB hown hbl hB1r
   cases hd : bdat K p with
   | none =>
    have HR := hid (show Q = none by rw [HE.out, show stepD K (some T) p = none from by simp only [stepD, hd], stepD_none])
    rw [hd] at HDp
    obtain ⟨p0, p1, p2, p3⟩ := p
    simp only [optV] at hc0 hc1 hc2 hc3 HDp
    have kP := Blk.new wr 25 #[.int .i64 p0, .bool p1, .int .i64 p2, .string p3]
    obtain ⟨t0, t1, t2, t3⟩ := kP.cells4y
    have hbn : Below wr.heap.size wr (wr.alloc (.cells #[.int .i64 p0, .bool p1, .int .i64 p2, .string p3] 25)) := bel_alloc (Below.refl _ wr) _
    have hB9 := HBr.out.trans (hbn.mono HBr.out.size)
    clear hd hpo hpl HE HF kP
    go_wp2_with fail
    refine (HDp.out _ hB9).mono ?_
    rintro e w9 ⟨rfl, hb9⟩
    go_wp2_with fail
    go_ret2
    exact ⟨by rw [HR.out]; rfl, hB9.trans (hb9.mono hB9.size)⟩
   | some d =>
    have hdz := bdat_size hpo hd
    have HR := hid (show Q = (bs.drop (k + 1)).foldl (stepD K) (some (T ++ d)) by rw [HE.out, show stepD K (some T) p = some (T ++ d) from by simp only [stepD, hd]])
    rw [hd] at HDp
    obtain ⟨p0, p1, p2, p3⟩ := p
    simp only [optV] at hc0 hc1 hc2 hc3 HDp
    have kP := Blk.new wr 25 #[.int .i64 p0, .bool p1, .int .i64 p2, .string p3]
    obtain ⟨t0, t1, t2, t3⟩ := kP.cells4y
    have hbn : Below wr.heap.size wr (wr.alloc (.cells #[.int .i64 p0, .bool p1, .int .i64 p2, .string p3] 25)) := bel_alloc (Below.refl _ wr) _
    have hB9 := HBr.out.trans (hbn.mono HBr.out.size)
    have hTd : (T ++ d).size ≤ 64 * (k + 1) := by rw [ByteArray.size_append]; omega
    have hTs : (T ++ d).size = T.size + d.size := ByteArray.size_append
    have HTl := hid (show (T ++ d).data.toList = T.data.toList ++ d.data.toList by rw [ByteArray.data_append, Array.toList_append])
    clear hd hpo hpl HE HF kP
    go_wp2_with fail
    refine (HDp.out _ hB9).mono ?_
    rintro e w9 ⟨rfl, hb9⟩
    have hO9 := own_on (own_on hO.out hbn) hb9
    have hb29 := HBl.out.trans ((hbn.trans (hb9.mono hbn.size)).mono hzr)
    have hz9 := hb29.size
    clear s0 s1 s2 s3 f0 f1 f2 f3 t0 t1 t2 t3 hc0 hc1 hc2 hc3 hb9 hbn
    go_wp2_with (at_builtin; refine app_str8 rfl _ _ 98 9 rfl W2.heap.size 5 Tryz.underlying98 Tryz.underlying9 Tryz.info_u8y _ T.size T.data.toList rfl hO9 d rfl (by omega) hz9 ?_; intro v4 w4 hown4 hb4 hg4)
    rw [← HTl.out, ← hTs] at hown4
    go_roundw
    case rel => exact ⟨k + 1, T ++ d, by omega, by go_num, hown4, HR, hTd, hb29.trans hb4⟩
    case measure => simp [intOf]; omega
  ·have HR := hid (show Q = some T by rw [HF.out, List.drop_of_length_le (by have := HN.out; omega)]; rfl)
   have hrs := run_str (P := Tryz.prog) Tryz.underlying98 Tryz.underlying5 Tryz.underlying9 hown
   have hBf := hb1.trans ((HB2.trans (hbl.mono hz2)).mono z1)
   clear hT
   go_wp2_with fail
   go_ret2
   exact ⟨by rw [HR.out]; rfl, hBf⟩

set_option maxHeartbeats 4000000 in
set_option maxRecDepth 100000 in
theorem c_ContainerData (o l m : Int) (dict S : ByteArray) (L : List UInt8) (bs : List Bl) (c : Nat) (w : World) {a0 a1 a2 : Addr} (hs : dict.size ≤ maxLen) (hS : S.size ≤ 1000000000000) (hL : L = S.data.toList) (hst : Stop L bs c) (hG : Glob w a0 a1 a2) : Calls Tryz.prog 22 #[.agg #[.int .i64 o, .int .i64 l, .int .i64 m], .string dict, .string S] w fun e w' => e = .returned (optV (cdRes o l m dict bs c)) ∧ Below w.heap.size w w' := by
 have hB0 : Below w.heap.size w (w.alloc (.cells #[.int .i64 o, .int .i64 l, .int .i64 m] 28)) := bel_alloc (Below.refl _ w) _
 have kS := Blk.new w 28 #[.int .i64 o, .int .i64 l, .int .i64 m]
 obtain ⟨y0, y1, y2⟩ := kS.cells3
 have HG := hid (fun (v : World) (hb : Below w.heap.size w v) => hG.on hb)
 cases h1 : dataFits o l m dict with
 | false =>
  have HP := hid (fun v => c_prime_no o l m v dict hs (fun h9 => by rw [(fits_begun o l m dict).1 h9] at h1; cases h1))
  have hr : cdRes o l m dict bs c = none := by unfold cdRes; rw [if_neg (fun h9 => by rw [h1] at h9; cases h9.2)]
  rw [hr]
  clear hr h1 hst hG
  go_enter Tryz.func22, Tryz.ntmps22
  go_wp2_with fail
  refine (HP.out _).mono ?_
  rintro e w1 ⟨rfl, hb1⟩
  have hB1 := hB0.trans (hb1.mono hB0.size)
  go_wp2_with fail
  go_ret2
  exact ⟨rfl, hB1⟩
 | true =>
 have HP := hid (fun v => c_prime_yes o l m v dict (kOf_ok h1).1 (kOf o l m dict) rfl)
 have hwf := (kOf_ok h1).2.2.2
 by_cases hc : c = 0
 ·subst hc
  have hr : cdRes o l m dict bs 0 = bs.foldl (stepD (kOf o l m dict)) (some ByteArray.empty) := by unfold cdRes; rw [if_pos ⟨rfl, h1⟩]
  rw [hr]
  have HD := hid (fun (pb fb : Nat) (A : Option Addr) (cap L0 : Nat) (v : World) (hP : PD pb fb (kOf o l m dict) A cap L0 v) (hL0 : L0 ≤ v.heap.size) (hb : Below w.heap.size w v) => c_containerData_yes S L bs pb fb (kOf o l m dict) A cap L0 hwf v hP hL0 hS hL hst (hG.on hb))
  obtain ⟨X, q, hXq⟩ := optV_ex (bs.foldl (stepD (kOf o l m dict)) (some ByteArray.empty))
  rw [hXq] at HD ⊢
  obtain ⟨K, hK⟩ : ∃ K, K = kOf o l m dict := ⟨_, rfl⟩
  rw [← hK] at HD HP
  clear hr h1 hst hXq hwf hK hG
  go_enter Tryz.func22, Tryz.ntmps22
  go_wp2_with fail
  refine (HP.out _).mono ?_
  rintro e w1 ⟨pb, fb, db, te, rfl, hws, hown, hb1⟩
  have hB1 := hB0.trans (hb1.mono hB0.size)
  obtain ⟨A1, q1, hpd⟩ := PD.of hws
  have HPD := hid hpd
  clear hws hown hpd
  go_wp2_with fail
  refine (HD.out _ _ _ _ _ _ HPD.out (Nat.le_refl _) hB1).mono ?_
  rintro e w3 ⟨rfl, hb3⟩
  have hB3 := hB1.trans (hb3.mono hB1.size)
  go_wp2_with fail
  go_ret2
  exact ⟨rfl, hB3⟩
 ·have hr : cdRes o l m dict bs c = none := by unfold cdRes; rw [if_neg (fun h9 => hc h9.1)]
  rw [hr]
  have HD := hid (fun (pb : Nat) (v : World) (hb : Below w.heap.size w v) => c_containerData_no S L bs c pb v hS hL hst hc (hG.on hb))
  clear hr h1 hst hwf hG hc
  go_enter Tryz.func22, Tryz.ntmps22
  go_wp2_with fail
  refine (HP.out _).mono ?_
  rintro e w1 ⟨pb, fb, db, te, rfl, hws, hown, hb1⟩
  have hB1 := hB0.trans (hb1.mono hB0.size)
  clear hws hown
  go_wp2_with fail
  refine (HD.out _ _ hB1).mono ?_
  rintro e w3 ⟨rfl, hb3⟩
  have hB3 := hB1.trans (hb3.mono hB1.size)
  go_wp2_with fail
  go_ret2
  exact ⟨rfl, hB3⟩

set_option maxHeartbeats 4000000 in
set_option maxRecDepth 100000 in
theorem walk_FnExactContainerData (o l m : Int) (dict S : ByteArray) (w : World) (h_o : -9223372036854775808 ≤ o ∧ o ≤ 9223372036854775807) (h_l : -9223372036854775808 ≤ l ∧ l ≤ 9223372036854775807) (h_m : -9223372036854775808 ≤ m ∧ m ≤ 9223372036854775807) (hs : dict.size ≤ maxLen) (hS : S.size ≤ maxLen) {a0 a1 a2 : Addr} (hG : Glob w a0 a1 a2) :
  Calls Tryz.prog 6 #[.agg #[.int .i64 o, .int .i64 l, .int .i64 m], .string dict, .string S] w fun e w' => e = .returned (.bool true) ∧ Below w.heap.size w w' := by
 by_cases b1 : 1048576 < dict.size
 ·unfold maxLen at *
  go_enter Tryz.func6, Tryz.ntmps6
  go_wp2_with fail
  go_ret
  exact ⟨rfl, by exact obB⟩
 by_cases b2 : 1048576 < S.size
 ·unfold maxLen at *
  go_enter Tryz.func6, Tryz.ntmps6
  go_wp2_with fail
  go_ret
  exact ⟨rfl, by exact obB⟩
 obtain ⟨bs, c, hst⟩ := stop_ex S.data.toList
 have HS0 := (fun v => c_sContainerData o l m dict S _ bs c v hs (by omega) rfl hst)
 have HI0 := (fun v (hG : Glob v a0 a1 a2) => c_ContainerData o l m dict S _ bs c v hs (by omega) rfl hst hG)
 obtain ⟨X, q, hV⟩ := optV_ex (cdRes o l m dict bs c)
 rw [hV] at HS0 HI0
 have HS := hid HS0
 have HI := hid HI0
 have HT := hid (fun (v : World) => c_toSetting o l m v)
 have HGl := hid (fun (v : World) (hb : Below w.heap.size w v) => hG.on hb)
 clear HS0 HI0 hV hst hG
 have hle1 : dict.size ≤ 1048576 := by omega
 have hle2 : S.size ≤ 1048576 := by omega
 have hB0 : Below w.heap.size w (w.alloc (.cells #[.int .i64 o, .int .i64 l, .int .i64 m] 23)) := bel_alloc (Below.refl _ w) _
 have kS := Blk.new w 23 #[.int .i64 o, .int .i64 l, .int .i64 m]
 obtain ⟨y0, y1, y2⟩ := kS.cells3
 clear b1 b2 hs hS
 go_enter Tryz.func6, Tryz.ntmps6
 go_wp2_with fail
 refine (HT.out _).mono ?_
 rintro e w1 ⟨rfl, hb1⟩
 have hB1 := hB0.trans (hb1.mono hB0.size)
 have kS1 := kS.on hb1
 clear y0 y1 y2 hb1 hB0 kS
 go_wp2_with fail
 refine (HS.out _).mono ?_
 rintro e w2 ⟨rfl, hb2⟩
 have hB2 := hB1.trans (hb2.mono hB1.size)
 have kS2 := kS1.on hb2
 obtain ⟨y0, y1, y2⟩ := kS2.cells3
 clear hb2 hB1 kS1
 go_wp2_with fail
 refine (HT.out _).mono ?_
 rintro e w3 ⟨rfl, hb3⟩
 have hB3 := hB2.trans (hb3.mono hB2.size)
 clear y0 y1 y2 hb3 hB2 kS2
 go_wp2_with fail
 refine (HI.out _ (HGl.out _ hB3)).mono ?_
 rintro e w4 ⟨rfl, hb4⟩
 have hB4 := hB3.trans (hb4.mono hB3.size)
 go_wp2_with fail
 go_ret
 exact ⟨rfl, hB4⟩
end Go.Proofs.YtmlaaammfnboiaaGreatDoor
