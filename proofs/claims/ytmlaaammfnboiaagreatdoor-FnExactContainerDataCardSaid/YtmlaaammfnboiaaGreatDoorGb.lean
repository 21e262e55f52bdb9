/- The contracts of the model's l2Find and l2Longest. No condition but that what is known is valid. The contracts of CodeOfWord and LongestWord in both programs; the walks of their exact laws. No condition but that the numbers are int's. -/
import Derived.Test.YtmlaaammfnboiaaGreatDoorGm
import Derived.Test.YtmlaaammfnboiaaGreatDoorBf
import Derived.Test.YtmlaaammfnboiaaGreatDoorBe
import Derived.Test.YtmlaaammfnboiaaGreatDoorGn
import Derived.Test.YtmlaaammfnboiaaGreatDoorBb
import Derived.Test.YtmlaaammfnboiaaGreatDoorGa
import Derived.Test.YtmlaaammfnboiaaGreatDoorBj
namespace Go.Proofs.YtmlaaammfnboiaaGreatDoor
section
open Go.ChangeShapes Go.WideShapes Go.ChangeAt Go.RowKit Go.Joins
set_option linter.unusedVariables false

theorem bytes_no {a b : ByteArray} (h : ¬ a = b) : (a.toList == b.toList) = false := by
 rw [beq_eq_false_iff_ne]
 intro e
 apply h
 rw [ByteArray.toList_eq, ByteArray.toList_eq] at e
 apply ByteArray.ext
 exact Array.ext' e
theorem str_inj {l : List UInt8} {D : ByteArray} (h : str l = D) : l = D.data.toList := by rw [← h, str_list]
theorem one_byte {D : ByteArray} (h : D.size = 1) (h0 : 0 < D.size) : D.data.toList = [D[0]] := by
 have e := take_snoc D 0 h0
 rw [List.take_of_length_le (by rw [len_toList]; omega)] at e
 simpa using e
theorem noLit_long {c : Int} {D : ByteArray} (h : ¬ D.size = 1) : NoLit c D.data.toList := by
 intro b e
 have := congrArg List.length e
 rw [len_toList] at this
 simp at this
 omega
theorem Kn.setb {k : Kn} (h : k.Ok) : 0 ≤ k.l ∧ k.l ≤ 30 := by
 obtain ⟨_, ⟨h1, h2⟩, h3, h4⟩ := setOk_iff.1 h.set; omega

theorem dat0 (D : ByteArray) (h : 0 < D.size) : D.data.toList[0]? = some D[0] := by
 rw [List.getElem?_eq_getElem (by simpa using h)]; rfl
theorem str_cut (D : ByteArray) (n : Nat) : D.extract 0 n = str (D.data.toList.take n) := str_take _ n D (str_self D).symm
theorem str_inj2 {a b : List UInt8} (h : str a = str b) : a = b := by rw [← str_list a, h, str_list]

set_option maxHeartbeats 4000000 in
set_option maxRecDepth 100000 in
theorem c_l2Find (k : Kn) (A : Option Addr) (cap L : Nat) (D : ByteArray) (w : World) (hk : k.Ok) (hps : PsAt w L A cap k.ps) (hL : L ≤ w.heap.size) (hs : D.size ≤ 1048576) :
  Calls Tryz.prog 148 #[.agg #[.int .i64 k.o, .int .i64 k.l, .int .i64 k.m, .slice A k.ps.length cap, .int .i64 k.base, .int .i64 k.last], .string D] w fun e w' => e = .returned (.int .i64 (k.find D.data.toList)) ∧ Below w.heap.size w w' := by
 have hcb := hk.cbd
 have hgb := hk.great_bd
 have hlb := Kn.setb hk
 have HCl := hid (fun (v : World) => c_l1Clear k.o k.l k.m v hlb.1 hlb.2)
 have HEn := hid (fun (v : World) => c_l1End k.o k.l k.m v hlb.1 hlb.2)
 have HGr := hid (fun (v : World) => c_l2Greatest k A cap v hk)
 have HAny := hid (fun (v : World) (hb : Below w.heap.size w v) (code : Int) (hc : k.Fol code) => c_l2Any k A cap L v hk (hps.below hb hL) (Nat.le_trans hL hb.size) code hc)
 have ec : k.c = pow2 k.l := rfl
 obtain ⟨C, hC⟩ : ∃ C, C = pow2 k.l := ⟨_, rfl⟩
 obtain ⟨Gt, hGt⟩ : ∃ Gt, Gt = k.great := ⟨_, rfl⟩
 simp only [← hC] at HCl HEn ec
 simp only [← hGt] at HGr
 have eg := hGt.symm
 rw [ec] at hcb
 rw [ec, eg] at hgb
 have HOk := hid hk
 replace ec := hid ec
 replace eg := hid eg
 clear hC hGt hk hps hlb
 have kN := Blk.new w 88 #[.int .i64 k.o, .int .i64 k.l, .int .i64 k.m, .slice A k.ps.length cap, .int .i64 k.base, .int .i64 k.last]
 obtain ⟨q0, q1, q2, q3, q4, q5⟩ := kN.cells6
 have hbw : Below w.heap.size w (w.alloc (.cells #[.int .i64 k.o, .int .i64 k.l, .int .i64 k.m, .slice A k.ps.length cap, .int .i64 k.base, .int .i64 k.last] 88)) := by exact obB
 have hS := And.intro q0 (And.intro q1 (And.intro q2 hbw))
 have HKN := hid kN
 clear kN
 by_cases h1 : D.size = 1
 ·skip
  have h0 : 0 < D.size := by omega
  have HD := hid (one_byte h1 h0)
  have hx := idx_str (P := Tryz.prog) Tryz.underlying9 D 0 h0 .i64 0 rfl
  obtain ⟨b, hb⟩ : ∃ b : Nat, b = (D[0]).toNat := ⟨_, rfl⟩
  have hb8 : b ≤ 255 := by have := (D[0]).toNat_lt; omega
  rw [← hb] at hx
  have hsz : (D.size : Int) = 1 := by omega
  have hwb : IntKind.i64.wrap (b : Int) = (b : Int) := IntWalk.i64_in _ (by omega)
  by_cases hlt : (b : Int) < C
  ·skip
   have HF := hid (show k.find D.data.toList = b by
    rw [HD.out, hb]
    exact HOk.out.find_lit1 (by rw [← hb, ec.out]; exact hlt))
   clear hb HD
   go_enter Tryz.func148, Tryz.ntmps148
   go_wp2_with fail
   refine wp_region_noPanic ?_
   refine wp_region_held_drew (S := (fun v => v.cell? ⟨w.heap.size, 0, none⟩ = some (.int .i64 k.o) ∧ v.cell? ⟨w.heap.size, 1, none⟩ = some (.int .i64 k.l) ∧ v.cell? ⟨w.heap.size, 2, none⟩ = some (.int .i64 k.m) ∧ Below w.heap.size w v)) (by kernel_rfl) (s3_drew hS) (fun hHeld => ?_)
   refine tk 0 ?_
   refine tk 1 ?_
   refine tk 2 ?_
   refine tk 3 ?_
   refine tk 4 ?_
   refine tk 5 ?_
   refine tk 6 ?_
   refine tk 7 ?_
   refine tk 8 ?_
   refine wpAnyH_ready (rs := [9]) (by kernel_rfl) (by simp) ?_
   refine AllReadyH.cons (o := ?or1_9) ?ir1_9 (fun K hK => ?sr1_9) AllReadyH.nil
   case ir1_9 => (simp only [List.getElem?_toArray, List.getElem?_cons_succ, List.getElem?_cons_zero]; rfl)
   (first | (go_simp; (first | (go_at_call 117; refine (HCl.out _).mono ?_; rintro e wQ ⟨rfl, hbQ⟩) | skip)))
   refine hK.out _ _ ?kr1_9 (fun hHeld => ?_)
   case kr1_9 => (try dsimp only); (first | with_reducible assumption | exact s3_bel (by assumption) (by assumption) | assumption | exact s3_alloc (by assumption) _)
   clear hK K
   try simp only [Act.put, List.setIfInBounds_toArray, List.set_cons_zero, List.set_cons_succ]
   refine tk 10 ?_
   refine tk 11 ?_
   refine wpAnyH_done (by kernel_rfl) ?_ _
   refine NoPanic.normal ?_
   go_wp2
   go_ret
   exact ⟨ret_int HF.out.symm, by exact obB⟩
  ·skip
   have HNL := hid (show NoLit k.c D.data.toList by
    intro x e
    rw [HD.out] at e
    have e2 : D[0] = x := by simpa using e
    rw [← e2, ← hb, ec.out]; omega)
   clear hb HD
   go_enter Tryz.func148, Tryz.ntmps148
   go_wp2_with fail
   refine wp_region_noPanic ?_
   refine wp_region_held_drew (S := (fun v => v.cell? ⟨w.heap.size, 0, none⟩ = some (.int .i64 k.o) ∧ v.cell? ⟨w.heap.size, 1, none⟩ = some (.int .i64 k.l) ∧ v.cell? ⟨w.heap.size, 2, none⟩ = some (.int .i64 k.m) ∧ Below w.heap.size w v)) (by kernel_rfl) (s3_drew hS) (fun hHeld => ?_)
   refine tk 0 ?_
   refine tk 1 ?_
   refine tk 2 ?_
   refine tk 3 ?_
   refine tk 4 ?_
   refine tk 5 ?_
   refine tk 6 ?_
   refine tk 7 ?_
   refine tk 8 ?_
   refine wpAnyH_ready (rs := [9]) (by kernel_rfl) (by simp) ?_
   refine AllReadyH.cons (o := ?or2_9) ?ir2_9 (fun K hK => ?sr2_9) AllReadyH.nil
   case ir2_9 => (simp only [List.getElem?_toArray, List.getElem?_cons_succ, List.getElem?_cons_zero]; rfl)
   (first | (go_simp; (first | (go_at_call 117; refine (HCl.out _).mono ?_; rintro e wQ ⟨rfl, hbQ⟩) | skip)))
   refine hK.out _ _ ?kr2_9 (fun hHeld => ?_)
   case kr2_9 => (try dsimp only); (first | with_reducible assumption | exact s3_bel (by assumption) (by assumption) | assumption | exact s3_alloc (by assumption) _)
   clear hK K
   try simp only [Act.put, List.setIfInBounds_toArray, List.set_cons_zero, List.set_cons_succ]
   refine tk 10 ?_
   refine tk 11 ?_
   refine wpAnyH_done (by kernel_rfl) ?_ _
   refine NoPanic.normal ?_
   have HKQ := hid (HKN.out.drew.on hbQ)
   clear hS q0 q1 q2 q3 q4 q5
   go_wp2_with fail
   refine (HEn.out _).mono ?_
   rintro e w1 ⟨rfl, hb1⟩
   have B1 : Below w.heap.size w w1 := by exact obB
   have HK1 := hid (HKQ.out.on hb1)
   clear hb1
   go_wp2_with fail
   go_loopw [5] (fun i wr => ∃ cd : Int, i = .int .i64 cd ∧ C + 2 ≤ cd ∧ cd ≤ Gt + 1 ∧ Hid (NoneTo k D.data.toList cd) ∧ Below w1.heap.size w1 wr) (fun i _ => (Gt + 1 - intOf i).toNat)
   case atStart => exact ⟨C + 2, vint (by omega), by omega, by omega, hid (by have := NoneTo.start k D.data.toList; rw [ec.out] at this; exact this), Below.refl _ _⟩
   case round =>
    obtain ⟨cd, rfl, hc1, hc2, HN, hbel⟩ := hrel
    have HKr := hid (HK1.out.on hbel)
    obtain ⟨p0, p1, p2, p3, p4, p5⟩ := HKr.out.cells6
    by_cases hle : cd ≤ Gt
    ·skip
     go_wp2_with fail
     refine (HGr.out _).mono ?_
     rintro e w2 ⟨rfl, hb2⟩
     have HK2 := hid (HKr.out.on hb2)
     have B2 : Below w1.heap.size w1 w2 := by exact obB
     clear hb2 p0 p1 p2 p3 p4 p5
     obtain ⟨p0, p1, p2, p3, p4, p5⟩ := HK2.out.cells6
     obtain ⟨T, hT⟩ : ∃ T, T = str (k.any cd) := ⟨_, rfl⟩
     have HA := hid (fun (v : World) (hb : Below w.heap.size w v) => HAny.out v hb cd (HOk.out.fol_in (by rw [ec.out]; exact hc1) (by rw [eg.out]; exact hle)))
     rw [← hT] at HA
     have HT := hid hT
     clear hT
     by_cases he : T = D
     ·skip
      have HR := hid (show k.find D.data.toList = cd from HN.out.found HOk.out HNL.out (by rw [ec.out]; exact hc1) (by rw [eg.out]; exact hle) (str_inj (HT.out.symm.trans he)))
      subst he
      go_wp2_with fail
      refine (HA.out _ (by exact obB)).mono ?_
      rintro e w3 ⟨rfl, hb3⟩
      go_wp2
      go_ret
      exact ⟨ret_int HR.out.symm, by exact obB⟩
     ·skip
      have he1 : (T.toList == D.toList) = false := bytes_no he
      have HN2 := hid (HN.out.next (fun e => he (by rw [HT.out, e, str_self])))
      clear he
      go_wp2_with fail
      refine (HA.out _ (by exact obB)).mono ?_
      rintro e w3 ⟨rfl, hb3⟩
      go_wp2
      go_roundw
      case rel => exact ⟨cd + 1, by go_num, by omega, by omega, HN2, by exact obB⟩
      case measure => simp [intOf]; omega
    ·skip
     have hcd : cd = Gt + 1 := by omega
     have HR := hid (show k.find D.data.toList = -1 from NoneTo.none HOk.out HNL.out (by have := HN.out; rw [hcd, ← eg.out] at this; exact this))
     clear hcd
     go_wp2_with fail
     refine (HGr.out _).mono ?_
     rintro e w2 ⟨rfl, hb2⟩
     go_wp2
     go_ret
     exact ⟨ret_int HR.out.symm, by exact obB⟩
 ·skip
  have HNL := hid (noLit_long (c := k.c) h1)
  have hsz : ((D.size : Int) == 1) = false := eq_no (by omega)
  clear h1
  go_enter Tryz.func148, Tryz.ntmps148
  go_wp2_with fail
  refine wp_region_noPanic ?_
  refine wp_region_held_drew (S := (fun v => v.cell? ⟨w.heap.size, 0, none⟩ = some (.int .i64 k.o) ∧ v.cell? ⟨w.heap.size, 1, none⟩ = some (.int .i64 k.l) ∧ v.cell? ⟨w.heap.size, 2, none⟩ = some (.int .i64 k.m) ∧ Below w.heap.size w v)) (by kernel_rfl) (s3_drew hS) (fun hHeld => ?_)
  refine tk 0 ?_
  refine tk 1 ?_
  refine tk 2 ?_
  refine tk 3 ?_
  refine tu 4 ?_
  refine tu 5 ?_
  refine tu 6 ?_
  refine tu 7 ?_
  refine tu 8 ?_
  refine tu 9 ?_
  refine tu 10 ?_
  refine tk 11 ?_
  refine wpAnyH_done (by kernel_rfl) ?_ _
  refine NoPanic.normal ?_
  have HKQ := hid HKN.out.drew
  clear hS q0 q1 q2 q3 q4 q5
  go_wp2_with fail
  refine (HEn.out _).mono ?_
  rintro e w1 ⟨rfl, hb1⟩
  have B1 : Below w.heap.size w w1 := by exact obB
  have HK1 := hid (HKQ.out.on hb1)
  clear hb1
  go_wp2_with fail
  go_loopw [5] (fun i wr => ∃ cd : Int, i = .int .i64 cd ∧ C + 2 ≤ cd ∧ cd ≤ Gt + 1 ∧ Hid (NoneTo k D.data.toList cd) ∧ Below w1.heap.size w1 wr) (fun i _ => (Gt + 1 - intOf i).toNat)
  case atStart => exact ⟨C + 2, vint (by omega), by omega, by omega, hid (by have := NoneTo.start k D.data.toList; rw [ec.out] at this; exact this), Below.refl _ _⟩
  case round =>
   obtain ⟨cd, rfl, hc1, hc2, HN, hbel⟩ := hrel
   have HKr := hid (HK1.out.on hbel)
   obtain ⟨p0, p1, p2, p3, p4, p5⟩ := HKr.out.cells6
   by_cases hle : cd ≤ Gt
   ·skip
    go_wp2_with fail
    refine (HGr.out _).mono ?_
    rintro e w2 ⟨rfl, hb2⟩
    have HK2 := hid (HKr.out.on hb2)
    have B2 : Below w1.heap.size w1 w2 := by exact obB
    clear hb2 p0 p1 p2 p3 p4 p5
    obtain ⟨p0, p1, p2, p3, p4, p5⟩ := HK2.out.cells6
    obtain ⟨T, hT⟩ : ∃ T, T = str (k.any cd) := ⟨_, rfl⟩
    have HA := hid (fun (v : World) (hb : Below w.heap.size w v) => HAny.out v hb cd (HOk.out.fol_in (by rw [ec.out]; exact hc1) (by rw [eg.out]; exact hle)))
    rw [← hT] at HA
    have HT := hid hT
    clear hT
    by_cases he : T = D
    ·skip
     have HR := hid (show k.find D.data.toList = cd from HN.out.found HOk.out HNL.out (by rw [ec.out]; exact hc1) (by rw [eg.out]; exact hle) (str_inj (HT.out.symm.trans he)))
     subst he
     go_wp2_with fail
     refine (HA.out _ (by exact obB)).mono ?_
     rintro e w3 ⟨rfl, hb3⟩
     go_wp2
     go_ret
     exact ⟨ret_int HR.out.symm, by exact obB⟩
    ·skip
     have he1 : (T.toList == D.toList) = false := bytes_no he
     have HN2 := hid (HN.out.next (fun e => he (by rw [HT.out, e, str_self])))
     clear he
     go_wp2_with fail
     refine (HA.out _ (by exact obB)).mono ?_
     rintro e w3 ⟨rfl, hb3⟩
     go_wp2
     go_roundw
     case rel => exact ⟨cd + 1, by go_num, by omega, by omega, HN2, by exact obB⟩
     case measure => simp [intOf]; omega
   ·skip
    have hcd : cd = Gt + 1 := by omega
    have HR := hid (show k.find D.data.toList = -1 from NoneTo.none HOk.out HNL.out (by have := HN.out; rw [hcd, ← eg.out] at this; exact this))
    clear hcd
    go_wp2_with fail
    refine (HGr.out _).mono ?_
    rintro e w2 ⟨rfl, hb2⟩
    go_wp2
    go_ret
    exact ⟨ret_int HR.out.symm, by exact obB⟩

set_option maxHeartbeats 4000000 in
set_option maxRecDepth 100000 in
theorem c_l2Longest (k : Kn) (A : Option Addr) (cap L : Nat) (D : ByteArray) (w : World) (hk : k.Ok) (hps : PsAt w L A cap k.ps) (hL : L ≤ w.heap.size) (h0 : 0 < D.size) (hs : D.size ≤ 1048576) (hl : ((D[0]).toNat : Int) < k.c) :
  Calls Tryz.prog 146 #[.agg #[.int .i64 k.o, .int .i64 k.l, .int .i64 k.m, .slice A k.ps.length cap, .int .i64 k.base, .int .i64 k.last], .string D] w fun e w' => e = .returned (.string (str (D.data.toList.take (k.lng D.data.toList)))) ∧ Below w.heap.size w w' := by
 have hcb := hk.cbd
 have hgb := hk.great_bd
 have hlb := Kn.setb hk
 have HEn := hid (fun (v : World) => c_l1End k.o k.l k.m v hlb.1 hlb.2)
 have HGr := hid (fun (v : World) => c_l2Greatest k A cap v hk)
 have HAny := hid (fun (v : World) (hb : Below w.heap.size w v) (code : Int) (hc : k.Fol code) => c_l2Any k A cap L v hk (hps.below hb hL) (Nat.le_trans hL hb.size) code hc)
 have ec : k.c = pow2 k.l := rfl
 obtain ⟨C, hC⟩ : ∃ C, C = pow2 k.l := ⟨_, rfl⟩
 obtain ⟨Gt, hGt⟩ : ∃ Gt, Gt = k.great := ⟨_, rfl⟩
 simp only [← hC] at HEn ec
 simp only [← hGt] at HGr
 have eg := hGt.symm
 rw [ec] at hcb
 rw [ec, eg] at hgb
 have HOk := hid hk
 have HST := hid (show BestTo k D.data.toList (k.c + 2) 1 from BestTo.start hk (b := D[0]) (by rw [List.head?_eq_getElem?, dat0 D h0]) hl)
 replace ec := hid ec
 replace eg := hid eg
 clear hC hGt hk hps hlb hl
 have HKN := hid (Blk.new w 88 #[.int .i64 k.o, .int .i64 k.l, .int .i64 k.m, .slice A k.ps.length cap, .int .i64 k.base, .int .i64 k.last])
 obtain ⟨p0, p1, p2, p3, p4, p5⟩ := HKN.out.cells6
 go_enter Tryz.func146, Tryz.ntmps146
 go_wp2_with fail
 refine (HEn.out _).mono ?_
 rintro e w1 ⟨rfl, hb1⟩
 have B1 : Below w.heap.size w w1 := by exact obB
 have HK1 := hid (HKN.out.on hb1)
 clear hb1 p0 p1 p2 p3 p4 p5
 go_wp2_with fail
 go_loopw [5, 6] (fun v i wr => ∃ (cd : Int) (s : Nat) (S : ByteArray), v = .string S ∧ S.size = s ∧ i = .int .i64 cd ∧ C + 2 ≤ cd ∧ cd ≤ Gt + 1 ∧ Hid (S = str (D.data.toList.take s)) ∧ Hid (BestTo k D.data.toList cd s) ∧ Below w1.heap.size w1 wr) (fun _ i _ => (Gt + 1 - intOf i).toNat)
 case atStart => exact ⟨C + 2, 1, D.extract 0 1, rfl, by simp; omega, vint (by omega), by omega, by omega, hid (str_cut D 1), hid (by have := HST.out; rw [ec.out] at this; exact this), Below.refl _ _⟩
 case round =>
  obtain ⟨cd, s, S, rfl, hS, rfl, hc1, hc2, HSS, HN, hbel⟩ := hrel
  have HKr := hid (HK1.out.on hbel)
  have hsl : s ≤ D.size := by have := HN.out.le; rw [len_toList] at this; exact this
  obtain ⟨p0, p1, p2, p3, p4, p5⟩ := HKr.out.cells6
  by_cases hle : cd ≤ Gt
  ·skip
   go_wp2_with fail
   refine (HGr.out _).mono ?_
   rintro e w2 ⟨rfl, hb2⟩
   have HK2 := hid (HKr.out.on hb2)
   have B2 : Below w1.heap.size w1 w2 := by exact obB
   clear hb2 p0 p1 p2 p3 p4 p5
   obtain ⟨p0, p1, p2, p3, p4, p5⟩ := HK2.out.cells6
   obtain ⟨T, hT⟩ : ∃ T, T = str (k.any cd) := ⟨_, rfl⟩
   have hTl : T.size ≤ 1022 := by rw [hT, str_size]; exact HOk.out.any_len (HOk.out.fol_in (by rw [ec.out]; exact hc1) (by rw [eg.out]; exact hle))
   obtain ⟨n, hn⟩ : ∃ n, n = T.size := ⟨_, rfl⟩
   have HTn := hid (show (k.any cd).length = n by rw [hn, hT, str_size])
   have HA := hid (fun (v : World) (hb : Below w.heap.size w v) => HAny.out v hb cd (HOk.out.fol_in (by rw [ec.out]; exact hc1) (by rw [eg.out]; exact hle)))
   rw [← hT] at HA
   have HT := hid hT
   clear hT
   by_cases h1 : s < n
   ·skip
    by_cases h2 : n ≤ D.size
    ·skip
     have hex := hid (str_cut D n)
     by_cases he : D.extract 0 n = T
     ·skip
      have HB := hid (HN.out.more HOk.out (by rw [ec.out]; exact hc1) (by rw [eg.out]; exact hle) HTn.out h1 (by rw [len_toList]; exact h2) (str_inj2 (hex.out.symm.trans (he.trans HT.out))))
      have HS2 := hid (show T = str (D.data.toList.take n) from he.symm.trans hex.out)
      rw [hn] at h1 h2 he
      go_wp2_with fail
      refine (HA.out _ (by exact obB)).mono ?_
      rintro e w3 ⟨rfl, hb3⟩
      go_wp2
      go_roundw
      case rel => exact ⟨cd + 1, n, T, rfl, hn.symm, by go_num, by omega, by omega, HS2, HB, by exact obB⟩
      case measure => simp [intOf]; omega
     ·skip
      have HB := hid (HN.out.same HTn.out (fun e => he (by rw [hex.out, e.2.2, HT.out])))
      have he1 := bytes_no he
      clear he
      rw [hn] at h1 h2 he1
      go_wp2_with fail
      refine (HA.out _ (by exact obB)).mono ?_
      rintro e w3 ⟨rfl, hb3⟩
      go_wp2
      go_roundw
      case rel => exact ⟨cd + 1, s, S, rfl, hS, by go_num, by omega, by omega, HSS, HB, by exact obB⟩
      case measure => simp [intOf]; omega
    ·skip
     have HB := hid (HN.out.same HTn.out (fun e => h2 (by have := e.2.1; rw [len_toList] at this; exact this)))
     rw [hn] at h1 h2
     go_wp2_with fail
     refine (HA.out _ (by exact obB)).mono ?_
     rintro e w3 ⟨rfl, hb3⟩
     go_wp2
     go_roundw
     case rel => exact ⟨cd + 1, s, S, rfl, hS, by go_num, by omega, by omega, HSS, HB, by exact obB⟩
     case measure => simp [intOf]; omega
   ·skip
    have HB := hid (HN.out.same HTn.out (fun e => h1 e.1))
    rw [hn] at h1
    go_wp2_with fail
    refine (HA.out _ (by exact obB)).mono ?_
    rintro e w3 ⟨rfl, hb3⟩
    go_wp2
    go_roundw
    case rel => exact ⟨cd + 1, s, S, rfl, hS, by go_num, by omega, by omega, HSS, HB, by exact obB⟩
    case measure => simp [intOf]; omega
  ·skip
   have hcd : cd = Gt + 1 := by omega
   have HR := hid (show k.lng D.data.toList = s from BestTo.last HOk.out (by have := HN.out; rw [hcd, ← eg.out] at this; exact this))
   clear hcd
   go_wp2_with fail
   refine (HGr.out _).mono ?_
   rintro e w2 ⟨rfl, hb2⟩
   go_wp2
   go_ret
   exact ⟨ret_str (by rw [HR.out]; exact HSS.out), by exact obB⟩
end

section
open Go.ChangeShapes Go.WideShapes Go.ChangeAt Go.RowKit Go.Joins
set_option linter.unusedVariables false

theorem fits_lits {k : Kn} {D : ByteArray} (hf : dataFits k.o k.l k.m D = true) : (∀ b ∈ D.data.toList, (b.toNat : Int) < k.c) ∧ D.size ≤ 2000 := by
 unfold dataFits at hf
 simp only [Bool.and_eq_true, decide_eq_true_eq, List.all_eq_true] at hf
 refine ⟨fun b hb => ?_, hf.1.2⟩
 have := hf.2 b hb
 simp only [ltc, decide_eq_true_eq] at this
 exact this
theorem empty_of {D : ByteArray} (h : D.size = 0) : D = ByteArray.empty := by
 apply ByteArray.ext
 apply Array.eq_empty_of_size_eq_zero
 simpa using h
theorem not_empty {D : ByteArray} (h : 0 < D.size) : D.toList.isEmpty = false := by
 rw [ByteArray.toList_eq]
 cases hd : D.data.toList with
 | nil => have := len_toList D; rw [hd] at this; simp at this; omega
 | cons a b => rfl
end
end Go.Proofs.YtmlaaammfnboiaaGreatDoor
