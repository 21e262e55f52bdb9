/- The contracts of GreedyCodes in the program. No condition but that the numbers are int's. The contracts of the model's l2Greedy and GreedyCodes. No condition but that the numbers are int's. The contracts of GreedyCodes in the model, and of Compress in both programs. No condition but that the numbers are int's. -/
import Derived.Test.YtmlaaammfnboiaaGreatDoorGa
import Derived.Test.YtmlaaammfnboiaaGreatDoorGm
import Derived.Test.YtmlaaammfnboiaaGreatDoorGn
import Derived.Test.YtmlaaammfnboiaaGreatDoorGb
import Derived.Test.YtmlaaammfnboiaaGreatDoorBi
import Derived.Test.YtmlaaammfnboiaaGreatDoorAa
import Derived.Test.YtmlaaammfnboiaaGreatDoorBh
import Derived.Test.YtmlaaammfnboiaaGreatDoorUd
namespace Go.Proofs.YtmlaaammfnboiaaGreatDoor
section
open Go.ChangeShapes Go.WideShapes Go.ChangeAt Go.RowKit Go.Joins
set_option linter.unusedVariables false

theorem Fd.low {L L' : Nat} {c : Int} {Q : List Pr} {m : Nat} {N : Nat → Nat} {Lo : Nat → Option Nat} {bm n : Nat} {w : World} (h : Fd L c Q m N Lo bm n w) (hL : L' ≤ L) : Fd L' c Q m N Lo bm n w :=
 ⟨h.node, fun r hr => Nat.le_trans hL (h.ge r hr), fun r g hr hl => by
  obtain ⟨h1, h2⟩ := h.arr r g hr hl
  exact ⟨Nat.le_trans hL h1, h2⟩, h.bare, h.one, h.mp, Nat.le_trans hL h.mge⟩
theorem FQ.low {L L' fb : Nat} {k : Kn} {A : Option Addr} {cap nb cap2 : Nat} {Q : List Pr} {N : Nat → Nat} {Lo : Nat → Option Nat} {bm n : Nat} {w : World} (h : FQ L fb k A cap nb cap2 Q N Lo bm n w) (hL : L' ≤ L) : FQ L' fb k A cap nb cap2 Q N Lo bm n w :=
 ⟨h.bx, own_mono h.row hL, own_mono h.nds hL, h.fd.low hL, Nat.le_trans hL h.lb⟩
def slen : Value → Nat
 | .string S => S.size
 | _ => 0
/-- a finder's longest word, wherever the finder is -/
theorem c_flongest (L fb : Nat) (k : Kn) (D : ByteArray) (w : World) (hk : k.Ok) (h : FAt L fb k w) (h0 : 0 < D.size) (hs : D.size ≤ 1048576) (hl : ((D[0]).toNat : Int) < k.c) :
  Calls Tryz.prog 92 #[.pointer (some ⟨fb, 0, none⟩), .string D] w fun e w' => e = .returned (.tuple #[.int .i64 (k.code1 D.data.toList), .int .i64 (k.lng D.data.toList : Nat)]) ∧ Below w.heap.size w w' := by
 obtain ⟨A, cap, nb, cap2, N, Lo, bm, n, hn, hF⟩ := h
 exact c_longest L fb k A cap nb cap2 N Lo bm n D w hk hF h0 hs hl
end

section
open Go.ChangeShapes Go.WideShapes Go.ChangeAt Go.RowKit Go.Joins
set_option linter.unusedVariables false

theorem own_one {W : World} {B : Nat} {e : TypeId} (x : Int) (hB : B ≤ W.heap.size) : (W.alloc (.cells #[.int .i64 x] e)).ownsRow B e 1 (.slice (some ⟨W.heap.size, 0, none⟩) 1 1) 1 ([x].map iv) :=
 ⟨by simp, .inr ⟨W.heap.size, 1, #[.int .i64 x], rfl, hB, heap_alloc_new W _, by omega, by simp [maxLen], by simp, by simp [iv]⟩⟩
def slen2 : Value → Nat
 | .string S => S.size
 | _ => 0
/-- the model's state: what is known, in a variable, and the codes -/
structure SG (L kb : Nat) (kk : Kn) (A5 : Option Addr) (cap5 : Nat) (cs : List Int) (A4 : Option Addr) (c4 : Nat) (w : World) : Prop where
 bx : Blk w kb 88 #[.int .i64 kk.o, .int .i64 kk.l, .int .i64 kk.m, .slice A5 kk.ps.length cap5, .int .i64 kk.base, .int .i64 kk.last]
 pr : w.ownsRow L 175 2 (.slice A5 kk.ps.length cap5) kk.ps.length (prs kk.ps)
 row : w.ownsRow L 3 1 (.slice A4 cs.length c4) cs.length (cs.map iv)
 lb : L ≤ kb
section
variable {L kb : Nat} {kk : Kn} {A5 : Option Addr} {cap5 : Nat} {cs : List Int} {A4 : Option Addr} {c4 : Nat} {w w' : World}

theorem SG.on (h : SG L kb kk A5 cap5 cs A4 c4 w) (hb : Below w.heap.size w w') : SG L kb kk A5 cap5 cs A4 c4 w' := ⟨h.bx.on hb, own_on h.pr hb, own_on h.row hb, h.lb⟩
theorem SG.code (h : SG L kb kk A5 cap5 cs A4 c4 w) (hg : w.grownBy w' (Value.slice A4 cs.length c4).ownBlock) {x : Int} {A9 : Option Addr} {c9 : Nat} (hown : w'.ownsRow L 3 1 (.slice A9 (cs.length + 1) c9) (cs.length + 1) ((cs ++ [x]).map iv)) : SG L kb kk A5 cap5 (cs ++ [x]) A9 c9 w' := by
 have e : (cs ++ [x]).length = cs.length + 1 := by simp
 exact ⟨h.bx.row7 h.row hg (by decide), h.pr.kept hg (own_apart h.pr h.row (by decide)), by rw [e]; exact hown, h.lb⟩
theorem SG.put (h : SG L kb kk A5 cap5 cs A4 c4 w) (k' : Kn) {A6 : Option Addr} {cap6 : Nat} (hp : w.ownsRow L 175 2 (.slice A6 k'.ps.length cap6) k'.ps.length (prs k'.ps)) : SG L kb k' A6 cap6 cs A4 c4 ((((((w.setCell ⟨kb, 0, none⟩ (.int .i64 k'.o)).setCell ⟨kb, 1, none⟩ (.int .i64 k'.l)).setCell ⟨kb, 2, none⟩ (.int .i64 k'.m)).setCell ⟨kb, 3, none⟩ (.slice A6 k'.ps.length cap6)).setCell ⟨kb, 4, none⟩ (.int .i64 k'.base)).setCell ⟨kb, 5, none⟩ (.int .i64 k'.last)) :=
 ⟨h.bx.put6 _ _ _ _ _ _, own_put6 hp h.bx (by decide) _ _ _ _ _ _, own_put6 h.row h.bx (by decide) _ _ _ _ _ _, h.lb⟩
end

theorem SG.t6 {L kb : Nat} {kk : Kn} {A5 : Option Addr} {cap5 : Nat} {cs : List Int} {A4 : Option Addr} {c4 : Nat} {w : World} (h : SG L kb kk A5 cap5 cs A4 c4 w) : w.cell? ⟨kb, 0, none⟩ = some (.int .i64 kk.o) ∧ w.cell? ⟨kb, 1, none⟩ = some (.int .i64 kk.l) ∧ w.cell? ⟨kb, 2, none⟩ = some (.int .i64 kk.m) ∧ w.cell? ⟨kb, 3, none⟩ = some (.slice A5 kk.ps.length cap5) ∧ w.cell? ⟨kb, 4, none⟩ = some (.int .i64 kk.base) ∧ w.cell? ⟨kb, 5, none⟩ = some (.int .i64 kk.last) ∧ True :=
 ⟨h.bx.cell 0, h.bx.cell 1, h.bx.cell 2, h.bx.cell 3, h.bx.cell 4, h.bx.cell 5, trivial⟩
set_option maxHeartbeats 4000000 in
set_option maxRecDepth 100000 in
theorem c_l2Greedy (k : Kn) (A : Option Addr) (cap L : Nat) (w : World) (h : PsAt w L A cap k.ps) (hL : L ≤ w.heap.size) (D : ByteArray) (hk : k.Ok) (hlt : Lits k.c D.data.toList) (hDs : D.size ≤ 2000) : Calls Tryz.prog 159 #[.agg #[.int .i64 k.o, .int .i64 k.l, .int .i64 k.m, .slice A k.ps.length cap, .int .i64 k.base, .int .i64 k.last], .string D] w fun e w' => ∃ A' cap', e = .returned (.slice A' (k.greedy D.data.toList).length cap') ∧ w'.ownsRow w.heap.size 3 1 (.slice A' (k.greedy D.data.toList).length cap') (k.greedy D.data.toList).length ((k.greedy D.data.toList).map iv) ∧ Below w.heap.size w w' := by
 have hlb := Kn.setb hk
 have HCl := hid (fun (v : World) => c_l1Clear k.o k.l k.m v hlb.1 hlb.2)
 have HCd := hid (fun (v : World) (hb : Below w.heap.size w v) => c_l2Cleared k A cap L v (h.below hb hL) (Nat.le_trans hL hb.size) hk)
 obtain ⟨C, hC⟩ : ∃ C, C = pow2 k.l := ⟨_, rfl⟩
 have HC := hid (show k.c = C from hC.symm)
 have hcb : 2 ≤ C ∧ C ≤ 256 := by have := hk.cbd; rw [HC.out] at this; omega
 simp only [← hC] at HCl
 have HOk := hid hk
 have HLt := hid hlt
 have HST := hid (GI.start hk D.data.toList)
 rw [Kn.step_clear] at HST
 have HSN := hid hk.cleared_need
 have HKN := hid (Blk.new w 88 #[.int .i64 k.o, .int .i64 k.l, .int .i64 k.m, .slice A k.ps.length cap, .int .i64 k.base, .int .i64 k.last])
 obtain ⟨p0, p1, p2, p3, p4, p5⟩ := HKN.out.cells6
 clear hC h hk hlt
 go_enter Tryz.func159, Tryz.ntmps159
 go_wp2_with fail
 refine (HCl.out _).mono ?_
 rintro e w1 ⟨rfl, hb1⟩
 have HK1 := hid (HKN.out.on hb1)
 have B1 : Below w.heap.size w w1 := by exact obB
 have hal := bel_alloc (Below.refl _ w1) (.cells #[.int .i64 C] 3)
 have HK2 := hid (HK1.out.on hal)
 have B2 : Below w.heap.size w (w1.alloc (.cells #[.int .i64 C] 3)) := bel_trans B1 hal
 have HR2 := hid (own_one (e := 3) C B1.size)
 clear hb1 p0 p1 p2 p3 p4 p5
 obtain ⟨p0, p1, p2, p3, p4, p5⟩ := HK1.out.cells6
 obtain ⟨u0, u1, u2, u3, u4, u5⟩ := HK2.out.cells6
 go_wp2_with fail
 refine (HCd.out _ B2).mono ?_
 rintro e w3 ⟨A3, cap3, rfl, hown3, hb3⟩
 have B3 := bel_trans B2 hb3
 have HK3 := hid (HK2.out.on hb3)
 have HR3 := hid (own_on HR2.out hb3)
 have HP3 := hid (own_mono hown3 B2.size)
 have HG3 := hid (show SG w.heap.size w.heap.size k.cleared A3 cap3 ([] ++ [k.c]) (some ⟨w1.heap.size, 0, none⟩) 1 ((((((w3.setCell ⟨w.heap.size, 0, none⟩ (.int .i64 k.cleared.o)).setCell ⟨w.heap.size, 1, none⟩ (.int .i64 k.cleared.l)).setCell ⟨w.heap.size, 2, none⟩ (.int .i64 k.cleared.m)).setCell ⟨w.heap.size, 3, none⟩ (.slice A3 k.cleared.ps.length cap3)).setCell ⟨w.heap.size, 4, none⟩ (.int .i64 k.cleared.base)).setCell ⟨w.heap.size, 5, none⟩ (.int .i64 k.cleared.last)) from by
  exact ⟨HK3.out.put6 _ _ _ _ _ _, own_put6 HP3.out HK3.out (by decide) _ _ _ _ _ _, own_put6 (by rw [HC.out]; exact HR3.out) HK3.out (by decide) _ _ _ _ _ _, Nat.le_refl _⟩)
 have B4 : Below w.heap.size w ((((((w3.setCell ⟨w.heap.size, 0, none⟩ (.int .i64 k.cleared.o)).setCell ⟨w.heap.size, 1, none⟩ (.int .i64 k.cleared.l)).setCell ⟨w.heap.size, 2, none⟩ (.int .i64 k.cleared.m)).setCell ⟨w.heap.size, 3, none⟩ (.slice A3 k.cleared.ps.length cap3)).setCell ⟨w.heap.size, 4, none⟩ (.int .i64 k.cleared.base)).setCell ⟨w.heap.size, 5, none⟩ (.int .i64 k.cleared.last)) := bel_put6 B3 (by omega) _ _ _ _ _ _
 clear p0 p1 p2 p3 p4 p5 u0 u1 u2 u3 u4 u5
 obtain ⟨q0, q1, q2, q3, q4, q5⟩ := HK3.out.free6
 obtain ⟨p0, p1, p2, p3, p4, p5⟩ := HK3.out.cells6
 clear hown3 hb3 hal HK1 HK2 HR2 HKN B1 B2 B3
 go_wp2_with fail
 go_loopw [1, 5] (fun v u wr => ∃ (s f : Nat) (S : ByteArray) (cs : List Int) (kk : Kn) (A5 : Option Addr) (cp5 : Nat) (A4 : Option Addr) (c4 : Nat), v = .string S ∧ u = .slice A4 cs.length c4 ∧ S.size = D.size - s ∧ s ≤ D.size ∧ Hid (S.data.toList = D.data.toList.drop s) ∧ Hid (GI k D.data.toList cs kk s f) ∧ Hid (SG w.heap.size w.heap.size kk A5 cp5 cs A4 c4 wr) ∧ Hid (s < D.size → ¬ kk.need) ∧ Below w.heap.size w wr) (fun v _ _ => slen2 v)
 case atStart => exact ⟨0, D.data.toList.length, D, [] ++ [k.c], k.cleared, A3, cap3, some ⟨w1.heap.size, 0, none⟩, 1, rfl, rfl, by omega, by omega, hid (by simp), HST, HG3, hid (fun _ => HSN.out), B4⟩
 case round =>
  clear HG3 HK3 HR3 HP3 B4 HST HSN q0 q1 q2 q3 q4 q5 p0 p1 p2 p3 p4 p5
  obtain ⟨s, f, S, cs, kk, A5, cp5, A4, c4, rfl, rfl, hSs, hsD, HSd, HI, HG, HQ, hbel⟩ := hrel
  have hDl : D.data.toList.length = D.size := len_toList D
  have hcl := HI.out.len HOk.out HLt.out (by omega)
  obtain ⟨p0, p1, p2, p3, p4, p5⟩ := HG.out.bx.cells6
  have hlb2 := Kn.setb HI.out.ok
  by_cases h0 : S.size = 0
  ·have e := empty_of h0
   subst e
   have HE := hid (HI.out.done (by omega))
   have HEn := hid (fun (v : World) => c_l1End kk.o kk.l kk.m v hlb2.1 hlb2.2)
   have eC : kk.c = C := HI.out.c.trans HC.out
   have eC2 : pow2 kk.l = C := eC
   simp only [eC2] at HEn
   clear eC eC2
   go_wp2_with fail
   refine (HEn.out _).mono ?_
   rintro e w5 ⟨rfl, hb5⟩
   replace HG := hid (HG.out.on hb5)
   replace hbel := bel_trans hbel hb5
   clear hb5 p0 p1 p2 p3 p4 p5
   go_wp2_with (at_builtin; go_loud (refine app_int rfl (.tmp 59) (.tmp 63) 126 rfl w.heap.size 3 Tryz.underlying126 Tryz.info_int _ cs.length cs rfl HG.out.row (C + 1) _ rfl 1 rfl (by omega) hbel.size ?_; intro v7 w7 hown7 hb7 hg7; obtain ⟨A7, c7, rfl⟩ := own_sl hown7))
   have e1 : (cs ++ [C + 1]).length = cs.length + 1 := by simp
   rw [HE.out, HC.out]
   exact bodyPost_ret (v := .slice A7 (cs.length + 1) c7) (by simp [results, Tryz.results159, go_sem]) rfl ⟨A7, c7, by rw [e1], by rw [e1]; exact hown7, hbel.trans hb7⟩
  ·skip
   have hlt2 : s < D.size := by omega
   have hW := hid (HI.out.word HLt.out (by omega) (HQ.out hlt2))
   have he := not_empty (D := S) (by omega)
   obtain ⟨g, hg⟩ : ∃ g, g = kk.lng (D.data.toList.drop s) := ⟨_, rfl⟩
   obtain ⟨x, hx⟩ : ∃ x, x = kk.code1 (D.data.toList.drop s) := ⟨_, rfl⟩
   obtain ⟨T, hT⟩ : ∃ T, T = str ((D.data.toList.drop s).take g) := ⟨_, rfl⟩
   have hxt : kk.find T.data.toList = x := by rw [hT, str_list, hx, hg]; rfl
   simp only [← hg, ← hx] at hW
   have hTs : T.size = g := by rw [hT, str_size, List.length_take, List.length_drop]; have := hW.out.2.2.1; omega
   have hg1 : 1 ≤ g := hW.out.2.1
   have hg2 : g ≤ S.size := by have := hW.out.2.2.1; omega
   have hgi : (T.size : Int) = (g : Int) := by omega
   have HLo := hid (fun (v : World) (hG : SG w.heap.size w.heap.size kk A5 cp5 cs A4 c4 v) => c_l2Longest kk A5 cp5 v.heap.size S v HI.out.ok (own_ps_at hG.pr) (Nat.le_refl _) (by omega) (by omega) (HI.out.first HLt.out (b := S[0]) (by rw [← HSd.out, List.head?_eq_getElem?, dat0 S (by omega)])))
   simp only [HSd.out, ← hg, ← hT] at HLo
   have HFi := hid (fun (v : World) (hG : SG w.heap.size w.heap.size kk A5 cp5 cs A4 c4 v) => c_l2Find kk A5 cp5 v.heap.size T v HI.out.ok (own_ps_at hG.pr) (Nat.le_refl _) (by omega))
   simp only [hxt] at HFi
   have HAf := hid (fun (A7 : Option Addr) (c7 : Nat) (v : World) (hG : SG w.heap.size w.heap.size kk A5 cp5 (cs ++ [x]) A7 c7 v) => c_l2After kk A5 cp5 v.heap.size v (own_ps_at hG.pr) (Nat.le_refl _) HI.out.ok x hW.out.1)
   have HOk2 := hid (HI.out.ok.after hW.out.1)
   obtain ⟨f', HI'⟩ : ∃ f', Hid (GI k D.data.toList (cs ++ [x]) (kk.after x) (s + g) f') := by
    obtain ⟨f', hf'⟩ := hW.out.2.2.2
    rw [Kn.step_fol HI.out.ok hW.out.1] at hf'
    exact ⟨f', hid hf'⟩
   have HSd' := hid (show (S.extract g S.size).data.toList = D.data.toList.drop (s + g) by rw [cut_drop, HSd.out, List.drop_drop])
   clear hg hx hT hxt hW
   go_wp2_with fail
   refine (HLo.out _ HG.out).mono ?_
   rintro e wL ⟨rfl, hbL⟩
   replace HG := hid (HG.out.on hbL)
   replace hbel := bel_trans hbel hbL
   clear hbL p0 p1 p2 p3 p4 p5 HLo
   obtain ⟨p0, p1, p2, p3, p4, p5⟩ := HG.out.bx.cells6
   go_wp2_with fail
   refine (HFi.out _ HG.out).mono ?_
   rintro e wF ⟨rfl, hbF⟩
   replace HG := hid (HG.out.on hbF)
   replace hbel := bel_trans hbel hbF
   clear hbF p0 p1 p2 p3 p4 p5 HFi
   go_wp2_with (at_builtin; go_loud (refine app_int rfl (.tmp 22) (.tmp 24) 126 rfl w.heap.size 3 Tryz.underlying126 Tryz.info_int _ cs.length cs rfl HG.out.row x _ rfl 1 rfl (by omega) hbel.size ?_; intro v7 w7 hown7 hb7 hg7; obtain ⟨A7, c7, rfl⟩ := own_sl hown7; have HGa := hid (HG.out.code hg7 hown7); obtain ⟨p0, p1, p2, p3, p4, p5⟩ := HGa.out.bx.cells6))
   refine (HAf.out _ _ _ HGa.out).mono ?_
   rintro e w8 ⟨A8, cp8, rfl, hown8, hb8⟩
   have HG8 := hid (HGa.out.on hb8)
   clear p0 p1 p2 p3 p4 p5
   obtain ⟨q0, q1, q2, q3, q4, q5⟩ := HG8.out.bx.free6
   have HP8 := hid (show w8.ownsRow w.heap.size 175 2 (.slice A8 (kk.after x).ps.length cp8) (kk.after x).ps.length (prs (kk.after x).ps) from own_mono hown8 (hbel.trans hb7).size)
   obtain ⟨p0, p1, p2, p3, p4, p5⟩ := HG8.out.bx.cells6
   replace HG := hid (show SG w.heap.size w.heap.size (kk.after x) A8 cp8 (cs ++ [x]) A7 c7 ((((((w8.setCell ⟨w.heap.size, 0, none⟩ (.int .i64 kk.o)).setCell ⟨w.heap.size, 1, none⟩ (.int .i64 kk.l)).setCell ⟨w.heap.size, 2, none⟩ (.int .i64 kk.m)).setCell ⟨w.heap.size, 3, none⟩ (.slice A8 (kk.after x).ps.length cp8)).setCell ⟨w.heap.size, 4, none⟩ (.int .i64 kk.base)).setCell ⟨w.heap.size, 5, none⟩ (.int .i64 x)) from HG8.out.put (kk.after x) HP8.out)
   replace hbel := bel_trans (hbel.trans hb7) hb8
   have hb9 : Below w.heap.size w ((((((w8.setCell ⟨w.heap.size, 0, none⟩ (.int .i64 kk.o)).setCell ⟨w.heap.size, 1, none⟩ (.int .i64 kk.l)).setCell ⟨w.heap.size, 2, none⟩ (.int .i64 kk.m)).setCell ⟨w.heap.size, 3, none⟩ (.slice A8 (kk.after x).ps.length cp8)).setCell ⟨w.heap.size, 4, none⟩ (.int .i64 kk.base)).setCell ⟨w.heap.size, 5, none⟩ (.int .i64 x)) := bel_put6 hbel (Nat.le_refl _) _ _ _ _ _ _
   have HSs := hid hSs
   have hS3 : S.size ≤ 2000 := by omega
   have hsg : s + g ≤ D.size := by omega
   clear hSs hlt2 hsD hown8 hb8 hown7 hb7 hg7 HG8 HGa HAf
   go_wp2_with fail
   generalize ((((((w8.setCell ⟨w.heap.size, 0, none⟩ (.int .i64 kk.o)).setCell ⟨w.heap.size, 1, none⟩ (.int .i64 kk.l)).setCell ⟨w.heap.size, 2, none⟩ (.int .i64 kk.m)).setCell ⟨w.heap.size, 3, none⟩ (.slice A8 (kk.after x).ps.length cp8)).setCell ⟨w.heap.size, 4, none⟩ (.int .i64 kk.base)).setCell ⟨w.heap.size, 5, none⟩ (.int .i64 x)) = W9 at HG hb9 ⊢
   generalize hS2 : S.extract g S.size = S2 at HSd' ⊢
   obtain ⟨k2, hk2⟩ : ∃ k2, k2 = kk.after x := ⟨_, rfl⟩
   rw [← hk2] at HG HI' HOk2
   replace hbel := hb9
   have HS2 := hid HSd'.out
   have HS2s := hid (show S2.size = D.size - (s + g) by
    have h1 := congrArg List.length HSd'.out
    rw [len_toList, List.length_drop, len_toList] at h1
    exact h1)
   have hlb3 := Kn.setb HOk2.out
   have HNx := hid (fun (v : World) => c_l2Next k2 A8 cp8 v HOk2.out)
   have hmb : 0 ≤ k2.m ∧ k2.m ≤ 30 := by
    obtain ⟨_, ⟨h1, h2⟩, h3, h4⟩ := setOk_iff.1 HOk2.out.set; omega
   have HLs := hid (fun (v : World) => c_l1Last k2.o k2.l k2.m v hmb.1 hmb.2)
   have el : (cs ++ [x]).length = cs.length + 1 := by simp
   have hnb : 0 ≤ k2.next ∧ k2.next ≤ 1025 := by have := HOk2.out.cbd; have := HOk2.out.next_le; have := HOk2.out.next_pos; omega
   obtain ⟨NX, hNX⟩ : ∃ NX, NX = k2.next := ⟨_, rfl⟩
   obtain ⟨LC, hLC⟩ : ∃ LC, LC = pow2 k2.m - 1 := ⟨_, rfl⟩
   have hlcb : LC ≤ 1023 ∧ 0 ≤ LC := by have : k2.lc ≤ 1023 ∧ k2.c + 3 ≤ k2.lc ∧ 2 ≤ k2.c := ⟨HOk2.out.cbd.2.2.2, HOk2.out.cbd.2.2.1, HOk2.out.cbd.1⟩; have e : k2.lc = LC := hLC.symm; omega
   have HNd := hid (show k2.need ↔ (LC < NX ∧ k2.base < (k2.ps.length : Nat)) by rw [hNX, hLC]; exact Iff.rfl)
   rw [← hNX] at HNx hnb
   rw [← hLC] at HLs
   have hlen2 := HOk2.out.len
   have HI2 := HI'
   clear hS2 hk2 hb9 HI' HSd' hNX hLC p0 p1 p2 p3 p4 p5 q0 q1 q2 q3 q4 q5 he
   have hS := HG.out.t6
   replace HG := hid (HG.out.on (bel_drew (Below.refl _ _)))
   replace hbel := bel_drew hbel
   by_cases h3 : S2.size = 0
   ·have e := empty_of h3
    subst e
    have HQ' := hid (show s + g < D.size → ¬ k2.need from fun h => by have := HS2s.out; simp at this; omega)
    refine wp_region_noPanic ?_
    refine wp_region_held_drew (S := (fun v => v.cell? ⟨w.heap.size, 0, none⟩ = some (.int .i64 k2.o) ∧ v.cell? ⟨w.heap.size, 1, none⟩ = some (.int .i64 k2.l) ∧ v.cell? ⟨w.heap.size, 2, none⟩ = some (.int .i64 k2.m) ∧ v.cell? ⟨w.heap.size, 3, none⟩ = some (.slice A8 k2.ps.length cp8) ∧ v.cell? ⟨w.heap.size, 4, none⟩ = some (.int .i64 k2.base) ∧ v.cell? ⟨w.heap.size, 5, none⟩ = some (.int .i64 k2.last) ∧ True)) (by kernel_rfl) (t6_drew hS) (fun hHeld => ?_)
    refine tk 0 ?_
    refine tk 1 ?_
    refine tk 2 ?_
    refine tu 3 ?_
    refine tu 4 ?_
    refine tu 5 ?_
    refine tu 6 ?_
    refine tu 7 ?_
    refine tu 8 ?_
    refine tk 9 ?_
    refine tk 10 ?_
    refine tu 11 ?_
    refine tu 12 ?_
    refine tu 13 ?_
    refine tu 14 ?_
    refine tu 15 ?_
    refine tu 16 ?_
    refine tk 17 ?_
    refine wpAnyH_done (by kernel_rfl) ?_ _
    refine NoPanic.normal ?_
    clear hS
    go_wp2
    go_roundw
    case rel => exact ⟨s + g, _, ByteArray.empty, cs ++ [x], k2, A8, cp8, A7, c7, rfl, (by rw [el]), HS2s.out, hsg, HS2, HI2, HG, HQ', hbel⟩
    case measure =>
     have h1 := HS2s.out
     have h2 := HSs.out
     simp [slen2] at h1 ⊢
     omega
   ·skip
    have he2 := not_empty (D := S2) (by omega)
    by_cases h4 : LC < NX
    ·skip
     by_cases h5 : k2.base < (k2.ps.length : Nat)
     ·skip
      have HN4 := hid (HNd.out.2 ⟨h4, h5⟩)
      have HCl2 := hid (fun (v : World) => c_l1Clear k2.o k2.l k2.m v hlb3.1 hlb3.2)
      have HCd2 := hid (fun (A7 : Option Addr) (c7 : Nat) (v : World) (hG : SG w.heap.size w.heap.size k2 A8 cp8 (cs ++ [x] ++ [k2.c]) A7 c7 v) => c_l2Cleared k2 A8 cp8 v.heap.size v (own_ps_at hG.pr) (Nat.le_refl _) HOk2.out)
      refine wp_region_noPanic ?_
      refine wp_region_held_drew (S := (fun v => v.cell? ⟨w.heap.size, 0, none⟩ = some (.int .i64 k2.o) ∧ v.cell? ⟨w.heap.size, 1, none⟩ = some (.int .i64 k2.l) ∧ v.cell? ⟨w.heap.size, 2, none⟩ = some (.int .i64 k2.m) ∧ v.cell? ⟨w.heap.size, 3, none⟩ = some (.slice A8 k2.ps.length cp8) ∧ v.cell? ⟨w.heap.size, 4, none⟩ = some (.int .i64 k2.base) ∧ v.cell? ⟨w.heap.size, 5, none⟩ = some (.int .i64 k2.last) ∧ True)) (by kernel_rfl) (t6_drew hS) (fun hHeld => ?_)
      refine tk 0 ?_
      refine tk 1 ?_
      refine tk 2 ?_
      refine tk 3 ?_
      refine tk 5 ?_
      refine tk 6 ?_
      refine wpAnyH_ready (rs := [4]) (by kernel_rfl) (by simp) ?_
      refine AllReadyH.cons (o := ?or2_4) ?ir2_4 (fun K hK => ?sr2_4) AllReadyH.nil
      case ir2_4 => (simp only [List.getElem?_toArray, List.getElem?_cons_succ, List.getElem?_cons_zero]; rfl)
      (go_simp; (go_at_call 153; refine (HNx.out _).mono ?_; rintro e wQ ⟨rfl, hbQ⟩; replace HG := hid (HG.out.on hbQ); replace hbel := bel_trans hbel hbQ; clear hbQ))
      refine hK.out _ _ ?kr2_4 (fun hHeld => ?_)
      case kr2_4 => (try dsimp only); (first | with_reducible assumption | with_reducible exact HG.out.t6 | exact t6_bel (by assumption) (by assumption) | assumption | exact t6_alloc (by assumption) _ | exact HG.out.t6)
      clear hK K
      try simp only [Act.put, List.setIfInBounds_toArray, List.set_cons_zero, List.set_cons_succ]
      refine wpAnyH_ready (rs := [7]) (by kernel_rfl) (by simp) ?_
      refine AllReadyH.cons (o := ?or2_7) ?ir2_7 (fun K hK => ?sr2_7) AllReadyH.nil
      case ir2_7 => (simp only [List.getElem?_toArray, List.getElem?_cons_succ, List.getElem?_cons_zero]; rfl)
      (go_simp; (go_at_call 143; refine (HLs.out _).mono ?_; rintro e wR ⟨rfl, hbR⟩; replace HG := hid (HG.out.on hbR); replace hbel := bel_trans hbel hbR; clear hbR))
      refine hK.out _ _ ?kr2_7 (fun hHeld => ?_)
      case kr2_7 => (try dsimp only); (first | with_reducible assumption | with_reducible exact HG.out.t6 | exact t6_bel (by assumption) (by assumption) | assumption | exact t6_alloc (by assumption) _ | exact HG.out.t6)
      clear hK K
      try simp only [Act.put, List.setIfInBounds_toArray, List.set_cons_zero, List.set_cons_succ]
      refine tk 8 ?_
      refine tk 9 ?_
      refine tk 10 ?_
      refine tk 11 ?_
      refine tk 12 ?_
      refine tk 13 ?_
      refine tk 14 ?_
      refine tk 15 ?_
      refine tk 16 ?_
      refine tk 17 ?_
      refine wpAnyH_done (by kernel_rfl) ?_ _
      refine NoPanic.normal ?_
      clear hS
      have HI3 := hid (HI2.out.clear (by have := HS2s.out; omega) HN4.out)
      rw [Kn.step_clear] at HI3
      have hcl2 := HI2.out.len HOk.out HLt.out (by omega)
      rw [el] at hcl2
      (try clear hHeld)
      obtain ⟨p0, p1, p2, p3, p4, p5⟩ := HG.out.bx.cells6
      go_wp2_with fail
      refine (HCl2.out _).mono ?_
      rintro e wC ⟨rfl, hbC⟩
      replace HG := hid (HG.out.on hbC)
      replace hbel := bel_trans hbel hbC
      clear hbC p0 p1 p2 p3 p4 p5
      go_wp2_with (at_builtin; go_loud (refine app_int rfl (.tmp 51) (.tmp 55) 126 rfl w.heap.size 3 Tryz.underlying126 Tryz.info_int _ (cs.length + 1) (cs ++ [x]) rfl (by have := HG.out.row; rw [el] at this; exact this) k2.c _ rfl 1 rfl (by omega) hbel.size ?_; intro vB wB hownB hbB hgB; obtain ⟨AB, cB, rfl⟩ := own_sl hownB; have HGb := hid (HG.out.code (by rw [el]; exact hgB) (by rw [el]; exact hownB)); obtain ⟨p0, p1, p2, p3, p4, p5⟩ := HGb.out.bx.cells6))
      refine (HCd2.out _ _ _ HGb.out).mono ?_
      rintro e wD ⟨A9, cp9, rfl, hownD, hbD⟩
      have HGd := hid (HGb.out.on hbD)
      have HPd := hid (own_mono hownD (hbel.trans hbB).size)
      clear p0 p1 p2 p3 p4 p5
      obtain ⟨q0, q1, q2, q3, q4, q5⟩ := HGd.out.bx.free6
      obtain ⟨p0, p1, p2, p3, p4, p5⟩ := HGd.out.bx.cells6
      replace HG := hid (show SG w.heap.size w.heap.size k2.cleared A9 cp9 (cs ++ [x] ++ [k2.c]) AB cB ((((((wD.setCell ⟨w.heap.size, 0, none⟩ (.int .i64 k2.o)).setCell ⟨w.heap.size, 1, none⟩ (.int .i64 k2.l)).setCell ⟨w.heap.size, 2, none⟩ (.int .i64 k2.m)).setCell ⟨w.heap.size, 3, none⟩ (.slice A9 k2.cleared.ps.length cp9)).setCell ⟨w.heap.size, 4, none⟩ (.int .i64 k2.base)).setCell ⟨w.heap.size, 5, none⟩ (.int .i64 k2.cleared.last)) from HGd.out.put k2.cleared HPd.out)
      replace hbel := bel_trans (hbel.trans hbB) hbD
      have hbE : Below w.heap.size w ((((((wD.setCell ⟨w.heap.size, 0, none⟩ (.int .i64 k2.o)).setCell ⟨w.heap.size, 1, none⟩ (.int .i64 k2.l)).setCell ⟨w.heap.size, 2, none⟩ (.int .i64 k2.m)).setCell ⟨w.heap.size, 3, none⟩ (.slice A9 k2.cleared.ps.length cp9)).setCell ⟨w.heap.size, 4, none⟩ (.int .i64 k2.base)).setCell ⟨w.heap.size, 5, none⟩ (.int .i64 k2.cleared.last)) := bel_put6 hbel (Nat.le_refl _) _ _ _ _ _ _
      replace hbel := hbE
      have HQ' := hid (show s + g < D.size → ¬ k2.cleared.need from fun _ => HOk2.out.cleared_need)
      have el2 : (cs ++ [x] ++ [k2.c]).length = cs.length + 1 + 1 := by simp
      clear hownD hbD hownB hbB hgB HGb HGd HCd2
      go_wp2
      go_roundw
      case rel => exact ⟨s + g, _, S2, cs ++ [x] ++ [k2.c], k2.cleared, A9, cp9, AB, cB, rfl, (by rw [el2]), HS2s.out, hsg, HS2, HI3, HG, HQ', hbel⟩
      case measure =>
       have h1 := HS2s.out
       have h2 := HSs.out
       simp [slen2] at h1 ⊢
       omega
     ·skip
      have HQ' := hid (show s + g < D.size → ¬ k2.need from fun _ h => h5 (HNd.out.1 h).2)
      refine wp_region_noPanic ?_
      refine wp_region_held_drew (S := (fun v => v.cell? ⟨w.heap.size, 0, none⟩ = some (.int .i64 k2.o) ∧ v.cell? ⟨w.heap.size, 1, none⟩ = some (.int .i64 k2.l) ∧ v.cell? ⟨w.heap.size, 2, none⟩ = some (.int .i64 k2.m) ∧ v.cell? ⟨w.heap.size, 3, none⟩ = some (.slice A8 k2.ps.length cp8) ∧ v.cell? ⟨w.heap.size, 4, none⟩ = some (.int .i64 k2.base) ∧ v.cell? ⟨w.heap.size, 5, none⟩ = some (.int .i64 k2.last) ∧ True)) (by kernel_rfl) (t6_drew hS) (fun hHeld => ?_)
      refine tk 0 ?_
      refine tk 1 ?_
      refine tk 2 ?_
      refine tk 3 ?_
      refine tk 5 ?_
      refine tk 6 ?_
      refine wpAnyH_ready (rs := [4]) (by kernel_rfl) (by simp) ?_
      refine AllReadyH.cons (o := ?or3_4) ?ir3_4 (fun K hK => ?sr3_4) AllReadyH.nil
      case ir3_4 => (simp only [List.getElem?_toArray, List.getElem?_cons_succ, List.getElem?_cons_zero]; rfl)
      (go_simp; (go_at_call 153; refine (HNx.out _).mono ?_; rintro e wQ ⟨rfl, hbQ⟩; replace HG := hid (HG.out.on hbQ); replace hbel := bel_trans hbel hbQ; clear hbQ))
      refine hK.out _ _ ?kr3_4 (fun hHeld => ?_)
      case kr3_4 => (try dsimp only); (first | with_reducible assumption | with_reducible exact HG.out.t6 | exact t6_bel (by assumption) (by assumption) | assumption | exact t6_alloc (by assumption) _ | exact HG.out.t6)
      clear hK K
      try simp only [Act.put, List.setIfInBounds_toArray, List.set_cons_zero, List.set_cons_succ]
      refine wpAnyH_ready (rs := [7]) (by kernel_rfl) (by simp) ?_
      refine AllReadyH.cons (o := ?or3_7) ?ir3_7 (fun K hK => ?sr3_7) AllReadyH.nil
      case ir3_7 => (simp only [List.getElem?_toArray, List.getElem?_cons_succ, List.getElem?_cons_zero]; rfl)
      (go_simp; (go_at_call 143; refine (HLs.out _).mono ?_; rintro e wR ⟨rfl, hbR⟩; replace HG := hid (HG.out.on hbR); replace hbel := bel_trans hbel hbR; clear hbR))
      refine hK.out _ _ ?kr3_7 (fun hHeld => ?_)
      case kr3_7 => (try dsimp only); (first | with_reducible assumption | with_reducible exact HG.out.t6 | exact t6_bel (by assumption) (by assumption) | assumption | exact t6_alloc (by assumption) _ | exact HG.out.t6)
      clear hK K
      try simp only [Act.put, List.setIfInBounds_toArray, List.set_cons_zero, List.set_cons_succ]
      refine tk 8 ?_
      refine tk 9 ?_
      refine tk 10 ?_
      refine tk 11 ?_
      refine tk 12 ?_
      refine tk 13 ?_
      refine tk 14 ?_
      refine tk 15 ?_
      refine tk 16 ?_
      refine tk 17 ?_
      refine wpAnyH_done (by kernel_rfl) ?_ _
      refine NoPanic.normal ?_
      clear hS
      go_wp2
      go_roundw
      case rel => exact ⟨s + g, _, S2, cs ++ [x], k2, A8, cp8, A7, c7, rfl, (by rw [el]), HS2s.out, hsg, HS2, HI2, HG, HQ', hbel⟩
      case measure =>
       have h1 := HS2s.out
       have h2 := HSs.out
       simp [slen2] at h1 ⊢
       omega
    ·skip
     have HQ' := hid (show s + g < D.size → ¬ k2.need from fun _ h => h4 (HNd.out.1 h).1)
     refine wp_region_noPanic ?_
     refine wp_region_held_drew (S := (fun v => v.cell? ⟨w.heap.size, 0, none⟩ = some (.int .i64 k2.o) ∧ v.cell? ⟨w.heap.size, 1, none⟩ = some (.int .i64 k2.l) ∧ v.cell? ⟨w.heap.size, 2, none⟩ = some (.int .i64 k2.m) ∧ v.cell? ⟨w.heap.size, 3, none⟩ = some (.slice A8 k2.ps.length cp8) ∧ v.cell? ⟨w.heap.size, 4, none⟩ = some (.int .i64 k2.base) ∧ v.cell? ⟨w.heap.size, 5, none⟩ = some (.int .i64 k2.last) ∧ True)) (by kernel_rfl) (t6_drew hS) (fun hHeld => ?_)
     refine tk 0 ?_
     refine tk 1 ?_
     refine tk 2 ?_
     refine tk 3 ?_
     refine tk 5 ?_
     refine tk 6 ?_
     refine wpAnyH_ready (rs := [4]) (by kernel_rfl) (by simp) ?_
     refine AllReadyH.cons (o := ?or4_4) ?ir4_4 (fun K hK => ?sr4_4) AllReadyH.nil
     case ir4_4 => (simp only [List.getElem?_toArray, List.getElem?_cons_succ, List.getElem?_cons_zero]; rfl)
     (go_simp; (go_at_call 153; refine (HNx.out _).mono ?_; rintro e wQ ⟨rfl, hbQ⟩; replace HG := hid (HG.out.on hbQ); replace hbel := bel_trans hbel hbQ; clear hbQ))
     refine hK.out _ _ ?kr4_4 (fun hHeld => ?_)
     case kr4_4 => (try dsimp only); (first | with_reducible assumption | with_reducible exact HG.out.t6 | exact t6_bel (by assumption) (by assumption) | assumption | exact t6_alloc (by assumption) _ | exact HG.out.t6)
     clear hK K
     try simp only [Act.put, List.setIfInBounds_toArray, List.set_cons_zero, List.set_cons_succ]
     refine wpAnyH_ready (rs := [7]) (by kernel_rfl) (by simp) ?_
     refine AllReadyH.cons (o := ?or4_7) ?ir4_7 (fun K hK => ?sr4_7) AllReadyH.nil
     case ir4_7 => (simp only [List.getElem?_toArray, List.getElem?_cons_succ, List.getElem?_cons_zero]; rfl)
     (go_simp; (go_at_call 143; refine (HLs.out _).mono ?_; rintro e wR ⟨rfl, hbR⟩; replace HG := hid (HG.out.on hbR); replace hbel := bel_trans hbel hbR; clear hbR))
     refine hK.out _ _ ?kr4_7 (fun hHeld => ?_)
     case kr4_7 => (try dsimp only); (first | with_reducible assumption | with_reducible exact HG.out.t6 | exact t6_bel (by assumption) (by assumption) | assumption | exact t6_alloc (by assumption) _ | exact HG.out.t6)
     clear hK K
     try simp only [Act.put, List.setIfInBounds_toArray, List.set_cons_zero, List.set_cons_succ]
     refine tk 8 ?_
     refine tk 9 ?_
     refine tk 10 ?_
     refine tu 11 ?_
     refine tu 12 ?_
     refine tu 13 ?_
     refine tu 14 ?_
     refine tu 15 ?_
     refine tu 16 ?_
     refine tk 17 ?_
     refine wpAnyH_done (by kernel_rfl) ?_ _
     refine NoPanic.normal ?_
     clear hS
     go_wp2
     go_roundw
     case rel => exact ⟨s + g, _, S2, cs ++ [x], k2, A8, cp8, A7, c7, rfl, (by rw [el]), HS2s.out, hsg, HS2, HI2, HG, HQ', hbel⟩
     case measure =>
      have h1 := HS2s.out
      have h2 := HSs.out
      simp [slen2] at h1 ⊢
      omega
end

section
open Go.ChangeShapes Go.WideShapes Go.ChangeAt Go.RowKit Go.Joins
set_option linter.unusedVariables false

def FitsOk (k : Kn) (D : ByteArray) : Prop := k.Ok ∧ dataFits k.o k.l k.m D = true
theorem FitsOk.lits {k : Kn} {D : ByteArray} (h : FitsOk k D) : Lits k.c D.data.toList ∧ D.size ≤ 2000 := fits_lits h.2
theorem FitsOk.len {k : Kn} {D : ByteArray} (h : FitsOk k D) : (k.greedy D.data.toList).length ≤ 3002 := by
 have h1 := h.1.greedy_len h.lits.1
 have h2 := h.lits.2
 rw [len_toList] at h1
 omega
theorem FitsOk.codes {k : Kn} {D : ByteArray} (h : FitsOk k D) : CodesOk k (k.greedy D.data.toList) :=
 ⟨h.1, by have := h.len; omega, (h.1.greedy_good h.lits.1 (by rw [len_toList]; exact h.lits.2)).1⟩

theorem c_l2Compress (k : Kn) (A : Option Addr) (cap L : Nat) (w : World) (h : PsAt w L A cap k.ps) (hL : L ≤ w.heap.size) (D : ByteArray) (hk : FitsOk k D) : Calls Tryz.prog 127 #[.agg #[.int .i64 k.o, .int .i64 k.l, .int .i64 k.m, .slice A k.ps.length cap, .int .i64 k.base, .int .i64 k.last], .string D] w fun e w' => e = .returned (.string (k.packed (k.greedy D.data.toList))) ∧ Below w.heap.size w w' := by
 have HG := hid (fun (v : World) (hb : Below w.heap.size w v) => c_l2Greedy k A cap L v (h.below hb hL) (Nat.le_trans hL hb.size) D hk.1 hk.lits.1 hk.lits.2)
 have hco := hk.codes
 have HPk := hid (fun (v : World) (hb : Below w.heap.size w v) (A2 : Option Addr) (cap2 : Nat) (hc : NumsAt v v.heap.size A2 cap2 (k.greedy D.data.toList)) => c_l2Pack_yes k A cap L v (h.below hb hL) (Nat.le_trans hL hb.size) A2 cap2 v.heap.size (k.greedy D.data.toList) hc (Nat.le_refl _) hco)
 have hk1 := hk.1
 have hpo := hk1.pack_ok hco.2.2 hco.2.1
 have HL := hid (fun (v : World) => c_l1Pack k.o (str (k.bits (k.greedy D.data.toList))) v hpo.1 hpo.2)
 simp only [hk1.pack_eq] at HL
 obtain ⟨R, hR⟩ : ∃ R, R = k.greedy D.data.toList := ⟨_, rfl⟩
 simp only [← hR] at HG HPk HL ⊢
 obtain ⟨P, hP⟩ : ∃ P, P = k.packed R := ⟨_, rfl⟩
 obtain ⟨B, hB⟩ : ∃ B, B = str (k.bits R) := ⟨_, rfl⟩
 simp only [← hP, ← hB] at HL HPk ⊢
 have kN := Blk.new w 88 #[.int .i64 k.o, .int .i64 k.l, .int .i64 k.m, .slice A k.ps.length cap, .int .i64 k.base, .int .i64 k.last]
 obtain ⟨p0, p1, p2, p3, p4, p5⟩ := kN.cells6
 have hbw : Below w.heap.size w (w.alloc (.cells #[.int .i64 k.o, .int .i64 k.l, .int .i64 k.m, .slice A k.ps.length cap, .int .i64 k.base, .int .i64 k.last] 88)) := by exact obB
 have hS := s6_mk p0 p1 p2 p3 p4 p5 hbw
 clear h hk hk1 hpo hR hP hB hco
 go_enter Tryz.func127, Tryz.ntmps127
 go_wp2_with fail
 refine wp_region_noPanic ?_
 refine wp_region_held_drew (S := (fun v => v.cell? ⟨w.heap.size, 0, none⟩ = some (.int .i64 k.o) ∧ v.cell? ⟨w.heap.size, 1, none⟩ = some (.int .i64 k.l) ∧ v.cell? ⟨w.heap.size, 2, none⟩ = some (.int .i64 k.m) ∧ v.cell? ⟨w.heap.size, 3, none⟩ = some (.slice A k.ps.length cap) ∧ v.cell? ⟨w.heap.size, 4, none⟩ = some (.int .i64 k.base) ∧ v.cell? ⟨w.heap.size, 5, none⟩ = some (.int .i64 k.last) ∧ Below w.heap.size w v)) (by kernel_rfl) (s6_drew hS) (fun hHeld => ?_)
 refine tk 0 ?_
 refine tk 1 ?_
 refine tk 2 ?_
 refine tk 3 ?_
 refine tk 4 ?_
 refine tk 5 ?_
 refine wpAnyH_ready (rs := [6]) (by kernel_rfl) (by simp) ?_
 refine AllReadyH.cons (o := ?or1_6) ?ir1_6 (fun K hK => ?sr1_6) AllReadyH.nil
 case ir1_6 => (simp only [List.getElem?_toArray, List.getElem?_cons_succ, List.getElem?_cons_zero]; rfl)
 (go_simp; (go_at_call 159; refine (HG.out _ (bel_drew hbw)).mono ?_; rintro e w1 ⟨A', cap', rfl, hown, hb1⟩; have HN := hid (own_ints_at hown); have hB1 := bel_trans (bel_drew hbw) hb1; clear hown))
 refine hK.out _ _ ?kr1_6 (fun hHeld => ?_)
 case kr1_6 => (try dsimp only); (first | with_reducible assumption | with_reducible exact s6_bel hb3 hHeld | with_reducible exact s6_bel hb2 hHeld | with_reducible exact s6_bel hb1 hHeld | exact s6_bel (by assumption) (by assumption) | assumption | exact s6_alloc (by assumption) _ | exact s6_bel hb3 hHeld | exact s6_bel hb2 hHeld | exact s6_bel hb1 hHeld)
 clear hK K
 try simp only [Act.put, List.setIfInBounds_toArray, List.set_cons_zero, List.set_cons_succ]
 refine wpAnyH_ready (rs := [7]) (by kernel_rfl) (by simp) ?_
 refine AllReadyH.cons (o := ?or1_7) ?ir1_7 (fun K hK => ?sr1_7) AllReadyH.nil
 case ir1_7 => (simp only [List.getElem?_toArray, List.getElem?_cons_succ, List.getElem?_cons_zero]; rfl)
 (go_simp; (go_at_call 80; refine (HPk.out _ hB1 _ _ HN.out).mono ?_; rintro e w2 ⟨rfl, hb2⟩; have hB2 := bel_trans hB1 hb2))
 refine hK.out _ _ ?kr1_7 (fun hHeld => ?_)
 case kr1_7 => (try dsimp only); (first | with_reducible assumption | with_reducible exact s6_bel hb3 hHeld | with_reducible exact s6_bel hb2 hHeld | with_reducible exact s6_bel hb1 hHeld | exact s6_bel (by assumption) (by assumption) | assumption | exact s6_alloc (by assumption) _ | exact s6_bel hb3 hHeld | exact s6_bel hb2 hHeld | exact s6_bel hb1 hHeld)
 clear hK K
 try simp only [Act.put, List.setIfInBounds_toArray, List.set_cons_zero, List.set_cons_succ]
 refine wpAnyH_ready (rs := [8]) (by kernel_rfl) (by simp) ?_
 refine AllReadyH.cons (o := ?or1_8) ?ir1_8 (fun K hK => ?sr1_8) AllReadyH.nil
 case ir1_8 => (simp only [List.getElem?_toArray, List.getElem?_cons_succ, List.getElem?_cons_zero]; rfl)
 (go_simp; (go_at_call 79; refine (HL.out _).mono ?_; rintro e w3 ⟨rfl, hb3⟩; have hB3 := bel_trans hB2 hb3))
 refine hK.out _ _ ?kr1_8 (fun hHeld => ?_)
 case kr1_8 => (try dsimp only); (first | with_reducible assumption | with_reducible exact s6_bel hb3 hHeld | with_reducible exact s6_bel hb2 hHeld | with_reducible exact s6_bel hb1 hHeld | exact s6_bel (by assumption) (by assumption) | assumption | exact s6_alloc (by assumption) _ | exact s6_bel hb3 hHeld | exact s6_bel hb2 hHeld | exact s6_bel hb1 hHeld)
 clear hK K
 try simp only [Act.put, List.setIfInBounds_toArray, List.set_cons_zero, List.set_cons_succ]
 refine tk 9 ?_
 refine wpAnyH_done (by kernel_rfl) ?_ _
 refine NoPanic.normal ?_
 go_wp2
 go_ret
 exact ⟨rfl, hB3⟩

theorem c_sCompress_no (k : Kn) (A : Option Addr) (cap L : Nat) (w : World) (h : PsAt w L A cap k.ps) (hL : L ≤ w.heap.size) (D : ByteArray) (hs : D.size ≤ maxLen) (hk : ¬ FitsOk k D) (hw : k.Wf) : Calls Tryz.prog 85 #[.agg #[.int .i64 k.o, .int .i64 k.l, .int .i64 k.m, .slice A k.ps.length cap, .int .i64 k.base, .int .i64 k.last], .string D] w fun e w' => e = .returned (.tuple #[.string ByteArray.empty, .bool false]) ∧ Below w.heap.size w w' := by
 by_cases h1 : k.Ok
 ·have hf : dataFits k.o k.l k.m D = false := by
   cases hq : dataFits k.o k.l k.m D with
   | false => rfl
   | true => exact absurd ⟨h1, hq⟩ hk
  have HV := hid (fun (v : World) (hb : Below w.heap.size w v) => c_sKnownValid_yes k A cap L v (h.below hb hL) (Nat.le_trans hL hb.size) h1 hw)
  have HD := hid (fun (v : World) => c_sDataFits k.o k.l k.m D v hs)
  simp only [hf] at HD
  have kN := Blk.new w 88 #[.int .i64 k.o, .int .i64 k.l, .int .i64 k.m, .slice A k.ps.length cap, .int .i64 k.base, .int .i64 k.last]
  clear h hk hw hf h1
  go_enter Tryz.func85, Tryz.ntmps85
  go_wp2_with fail
  refine (HV.out _ (by exact obB)).mono ?_
  rintro e w1 ⟨rfl, hb1⟩
  have hc1 := bcell hb1
  have hz1_0 : w.heap.size < w1.heap.size := (by have := hb1.size; first | omega | (simp at this; omega))
  go_wp2_with fail
  refine (HD.out _).mono ?_
  rintro e w2 ⟨rfl, hb2⟩
  have hc2 := bcell hb2
  go_wp2
  go_ret2
  exact ⟨rfl, by exact obB⟩
 ·have HV := hid (fun (v : World) (hb : Below w.heap.size w v) => c_sKnownValid_no k A cap L v (h.below hb hL) (Nat.le_trans hL hb.size) h1 hw)
  clear h hk hw h1
  go_enter Tryz.func85, Tryz.ntmps85
  go_wp2_with fail
  refine (HV.out _ (by exact obB)).mono ?_
  rintro e w1 ⟨rfl, hb1⟩
  have hc1 := bcell hb1
  go_wp2
  go_ret2
  exact ⟨rfl, by exact obB⟩

theorem c_sCompress_yes (k : Kn) (A : Option Addr) (cap L : Nat) (w : World) (h : PsAt w L A cap k.ps) (hL : L ≤ w.heap.size) (D : ByteArray) (hk : FitsOk k D) (hw : k.Wf) : Calls Tryz.prog 85 #[.agg #[.int .i64 k.o, .int .i64 k.l, .int .i64 k.m, .slice A k.ps.length cap, .int .i64 k.base, .int .i64 k.last], .string D] w fun e w' => e = .returned (.tuple #[.string (k.packed (k.greedy D.data.toList)), .bool true]) ∧ Below w.heap.size w w' := by
 have HV := hid (fun (v : World) (hb : Below w.heap.size w v) => c_sKnownValid_yes k A cap L v (h.below hb hL) (Nat.le_trans hL hb.size) hk.1 hw)
 have HD := hid (fun (v : World) => c_sDataFits k.o k.l k.m D v (by have := hk.lits.2; unfold maxLen; omega))
 simp only [hk.2] at HD
 have HC := hid (fun (v : World) (hb : Below w.heap.size w v) => c_l2Compress k A cap L v (h.below hb hL) (Nat.le_trans hL hb.size) D hk)
 obtain ⟨P, hP⟩ : ∃ P, P = k.packed (k.greedy D.data.toList) := ⟨_, rfl⟩
 simp only [← hP] at HC ⊢
 have kN := Blk.new w 88 #[.int .i64 k.o, .int .i64 k.l, .int .i64 k.m, .slice A k.ps.length cap, .int .i64 k.base, .int .i64 k.last]
 clear h hk hw hP
 go_enter Tryz.func85, Tryz.ntmps85
 go_wp2_with fail
 refine (HV.out _ (by exact obB)).mono ?_
 rintro e w1 ⟨rfl, hb1⟩
 have hc1 := bcell hb1
 have hz1_0 : w.heap.size < w1.heap.size := (by have := hb1.size; first | omega | (simp at this; omega))
 go_wp2_with fail
 refine (HD.out _).mono ?_
 rintro e w2 ⟨rfl, hb2⟩
 have hc2 := bcell hb2
 have hz2_0 : w.heap.size < w2.heap.size := (by have := hb2.size; first | omega | (simp at this; omega))
 go_wp2_with fail
 refine (HC.out _ (by exact obB)).mono ?_
 rintro e w3 ⟨rfl, hb3⟩
 have hc3 := bcell hb3
 go_wp2
 go_ret2
 exact ⟨rfl, by exact obB⟩
end
end Go.Proofs.YtmlaaammfnboiaaGreatDoor
