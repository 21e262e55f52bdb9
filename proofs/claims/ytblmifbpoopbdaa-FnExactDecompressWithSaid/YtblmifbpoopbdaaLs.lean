/- The contracts of l4Learn in the model, and of LearnKnown in both programs. No condition but that the numbers are int's. -/
import Derived.Test.YtblmifbpoopbdaaLr
namespace Go.Proofs.Ytblmifbpoopbdaa
open Go.ChangeShapes Go.WideShapes Go.ChangeAt Go.RowKit Go.Joins
set_option linter.unusedVariables false

set_option maxHeartbeats 4000000 in
set_option maxRecDepth 100000 in
theorem c_l4Learn (k : Kn) (A : Option Addr) (cap L : Nat) (w : World) (h : PsAt w L A cap k.ps) (hL : L ≤ w.heap.size) (D : ByteArray) (hk : FitsOk k D) : Calls Try.prog 147 #[.agg #[.int .i64 k.o, .int .i64 k.l, .int .i64 k.m, .slice A k.ps.length cap, .int .i64 k.base, .int .i64 k.last], .string D] w fun e w' => ∃ A' cap', e = .returned (.agg #[.int .i64 (k.learned D.data.toList).o, .int .i64 (k.learned D.data.toList).l, .int .i64 (k.learned D.data.toList).m, .slice A' (k.learned D.data.toList).ps.length cap', .int .i64 (k.learned D.data.toList).base, .int .i64 (k.learned D.data.toList).last]) ∧ w'.ownsRow w.heap.size 182 2 (.slice A' (k.learned D.data.toList).ps.length cap') (k.learned D.data.toList).ps.length (prs (k.learned D.data.toList).ps) ∧ Below w.heap.size w w' := by
  have hB0 : Below w.heap.size w ((w.alloc (.cells #[.int .i64 k.o, .int .i64 k.l, .int .i64 k.m, .slice A k.ps.length cap, .int .i64 k.base, .int .i64 k.last] 27)).alloc (.cells #[.int .i64 0, .int .i64 0, .int .i64 0, .slice none 0 0, .int .i64 0, .int .i64 0] 27)) := by (repeat (first | with_reducible (first | assumption | exact Below.refl _ _ | refine bel_alloc ?_ _ | refine bel_drew ?_ | refine bel_drewN ?_ _ | refine bel_set ?_ (by first | omega | (simp; done) | (simp; omega)) _ | refine bel_trans ?_ (by assumption)) | assumption | refine bel_trans ?_ (by assumption)))
  have HZ := hid (Blk.top w (.cells #[.int .i64 k.o, .int .i64 k.l, .int .i64 k.m, .slice A k.ps.length cap, .int .i64 k.base, .int .i64 k.last] 27) 27 #[.int .i64 0, .int .i64 0, .int .i64 0, .slice none 0 0, .int .i64 0, .int .i64 0])
  have HKN := hid ((Blk.new w 27 #[.int .i64 k.o, .int .i64 k.l, .int .i64 k.m, .slice A k.ps.length cap, .int .i64 k.base, .int .i64 k.last]).alloc (.cells #[.int .i64 0, .int .i64 0, .int .i64 0, .slice none 0 0, .int .i64 0, .int .i64 0] 27))
  have HCd := hid (fun (v : World) (hb : Below w.heap.size w v) => c_l2Cleared k A cap L v (h.below hb hL) (Nat.le_trans hL hb.size) hk.1)
  have hDs := hk.lits.2
  have HLt := hid hk.lits.1
  have HST := hid (LI.start hk.1 D.data.toList)
  clear h hk
  obtain ⟨p0, p1, p2, p3, p4, p5⟩ := HKN.out.cells6
  go_enter Try.func147, Try.ntmps147
  go_wp2_with fail
  refine (HCd.out _ hB0).mono ?_
  rintro e w3 ⟨A3, cap3, rfl, hown3, hb3⟩
  have HK3 := hid (HKN.out.on hb3)
  have HZ3 := hid (HZ.out.on hb3)
  have HP3 := hid (own_mono hown3 hB0.size)
  have B3 := bel_trans hB0 hb3
  clear hown3 hb3 hB0 HZ HKN HCd p0 p1 p2 p3 p4 p5
  obtain ⟨q0, q1, q2, q3, q4, q5⟩ := HK3.out.free6
  obtain ⟨p0, p1, p2, p3, p4, p5⟩ := HK3.out.cells6
  have HK4 := hid (show Blk ((((((w3.setCell ⟨w.heap.size, 0, none⟩ (.int .i64 k.cleared.o)).setCell ⟨w.heap.size, 1, none⟩ (.int .i64 k.cleared.l)).setCell ⟨w.heap.size, 2, none⟩ (.int .i64 k.cleared.m)).setCell ⟨w.heap.size, 3, none⟩ (.slice A3 k.cleared.ps.length cap3)).setCell ⟨w.heap.size, 4, none⟩ (.int .i64 k.cleared.base)).setCell ⟨w.heap.size, 5, none⟩ (.int .i64 k.cleared.last)) w.heap.size 27 #[.int .i64 k.cleared.o, .int .i64 k.cleared.l, .int .i64 k.cleared.m, .slice A3 k.cleared.ps.length cap3, .int .i64 k.cleared.base, .int .i64 k.cleared.last] from HK3.out.put6 _ _ _ _ _ _)
  have HP4 := hid (show ((((((w3.setCell ⟨w.heap.size, 0, none⟩ (.int .i64 k.cleared.o)).setCell ⟨w.heap.size, 1, none⟩ (.int .i64 k.cleared.l)).setCell ⟨w.heap.size, 2, none⟩ (.int .i64 k.cleared.m)).setCell ⟨w.heap.size, 3, none⟩ (.slice A3 k.cleared.ps.length cap3)).setCell ⟨w.heap.size, 4, none⟩ (.int .i64 k.cleared.base)).setCell ⟨w.heap.size, 5, none⟩ (.int .i64 k.cleared.last)).ownsRow w.heap.size 182 2 (.slice A3 k.cleared.ps.length cap3) k.cleared.ps.length (prs k.cleared.ps) from own_put6 HP3.out HK3.out (by decide) _ _ _ _ _ _)
  have HZ4 := hid (show Blk ((((((w3.setCell ⟨w.heap.size, 0, none⟩ (.int .i64 k.cleared.o)).setCell ⟨w.heap.size, 1, none⟩ (.int .i64 k.cleared.l)).setCell ⟨w.heap.size, 2, none⟩ (.int .i64 k.cleared.m)).setCell ⟨w.heap.size, 3, none⟩ (.slice A3 k.cleared.ps.length cap3)).setCell ⟨w.heap.size, 4, none⟩ (.int .i64 k.cleared.base)).setCell ⟨w.heap.size, 5, none⟩ (.int .i64 k.cleared.last)) (w.heap.size + 1) 27 #[.int .i64 0, .int .i64 0, .int .i64 0, .slice none 0 0, .int .i64 0, .int .i64 0] from ((((((HZ3.out.far 0 _ (by omega)).far 1 _ (by omega)).far 2 _ (by omega)).far 3 _ (by omega)).far 4 _ (by omega)).far 5 _ (by omega)))
  have B4 : Below w.heap.size w ((((((w3.setCell ⟨w.heap.size, 0, none⟩ (.int .i64 k.cleared.o)).setCell ⟨w.heap.size, 1, none⟩ (.int .i64 k.cleared.l)).setCell ⟨w.heap.size, 2, none⟩ (.int .i64 k.cleared.m)).setCell ⟨w.heap.size, 3, none⟩ (.slice A3 k.cleared.ps.length cap3)).setCell ⟨w.heap.size, 4, none⟩ (.int .i64 k.cleared.base)).setCell ⟨w.heap.size, 5, none⟩ (.int .i64 k.cleared.last)) := bel_put6 B3 (Nat.le_refl _) _ _ _ _ _ _
  clear HK3 HZ3 HP3 B3
  go_wp2_with fail
  go_loopw [1] (fun v wr => ∃ (s f : Nat) (S : ByteArray) (kk : Kn) (A5 : Option Addr) (cp5 : Nat), v = .string S ∧ S.size = D.size - s ∧ s ≤ D.size ∧ Hid (S.data.toList = D.data.toList.drop s) ∧ Hid (LI k D.data.toList kk s f) ∧ Hid (Blk wr w.heap.size 27 #[.int .i64 kk.o, .int .i64 kk.l, .int .i64 kk.m, .slice A5 kk.ps.length cp5, .int .i64 kk.base, .int .i64 kk.last]) ∧ Hid (wr.ownsRow w.heap.size 182 2 (.slice A5 kk.ps.length cp5) kk.ps.length (prs kk.ps)) ∧ Hid (Blk wr (w.heap.size + 1) 27 #[.int .i64 0, .int .i64 0, .int .i64 0, .slice none 0 0, .int .i64 0, .int .i64 0]) ∧ Below w.heap.size w wr) (fun v _ => slen v)
  case atStart => exact ⟨0, D.data.toList.length, D, k.cleared, A3, cap3, rfl, by omega, by omega, hid (by simp), HST, HK4, HP4, HZ4, B4⟩
  case round =>
    clear HK4 HP4 HZ4 B4 HST q0 q1 q2 q3 q4 q5 p0 p1 p2 p3 p4 p5
    obtain ⟨s, f, S, kk, A5, cp5, rfl, hSs, hsD, HSd, HI, HK, HP, HZ, hbel⟩ := hrel
    have hDl : D.data.toList.length = D.size := len_toList D
    obtain ⟨p0, p1, p2, p3, p4, p5⟩ := HK.out.cells6
    have hkl := HI.out.ok.len
    by_cases h0 : S.size = 0
    · have e := empty_of h0
      subst e
      have HE := hid (HI.out.done (by omega))
      obtain ⟨q0, q1, q2, q3, q4, q5⟩ := HZ.out.free6
      obtain ⟨u0, u1, u2, u3, u4, u5⟩ := HZ.out.cells6
      have HZ5 := hid (HZ.out.put6 (.int .i64 kk.o) (.int .i64 kk.l) (.int .i64 kk.m) (.slice A5 kk.ps.length cp5) (.int .i64 (kk.ps.length : Int)) (.int .i64 (-1)))
      have HR5 := hid (own_put6 HP.out HZ.out (by decide) (.int .i64 kk.o) (.int .i64 kk.l) (.int .i64 kk.m) (.slice A5 kk.ps.length cp5) (.int .i64 (kk.ps.length : Int)) (.int .i64 (-1)))
      obtain ⟨z0, z1, z2, z3, z4, z5⟩ := HZ5.out.cells6
      go_wp2
      exact bodyPost_ret (v := .agg #[.int .i64 kk.o, .int .i64 kk.l, .int .i64 kk.m, .slice A5 kk.ps.length cp5, .int .i64 (kk.ps.length : Int), .int .i64 (-1)]) (by simp [results, Try.results147, go_sem, z0, z1, z2, z3, z4, z5]) rfl ⟨A5, cp5, by rw [HE.out]; rfl, by rw [HE.out]; exact HR5.out, bel_put6 hbel (by omega) _ _ _ _ _ _⟩
    · skip
      have hW := hid (HI.out.word HLt.out (by omega))
      have he := not_empty (D := S) (by omega)
      obtain ⟨g, hg⟩ : ∃ g, g = kk.lng (D.data.toList.drop s) := ⟨_, rfl⟩
      obtain ⟨x, hx⟩ : ∃ x, x = kk.code1 (D.data.toList.drop s) := ⟨_, rfl⟩
      obtain ⟨T, hT⟩ : ∃ T, T = str ((D.data.toList.drop s).take g) := ⟨_, rfl⟩
      have hxt : kk.find T.data.toList = x := by rw [hT, str_list, hx, hg]; rfl
      simp only [← hg, ← hx] at hW
      have hTs : T.size = g := by rw [hT, str_size, List.length_take, List.length_drop]; have := hW.out.2.2.1; omega
      have hg1 : 1 ≤ g := hW.out.2.1
      have hg2 : g ≤ S.size := by have := hW.out.2.2.1; omega
      have hgi : (T.size : Int) = (g : Int) := by omega
      have HLo := hid (fun (v : World) (hP : v.ownsRow w.heap.size 182 2 (.slice A5 kk.ps.length cp5) kk.ps.length (prs kk.ps)) => c_l2Longest kk A5 cp5 v.heap.size S v HI.out.ok (own_ps_at hP) (Nat.le_refl _) (by omega) (by omega) (HI.out.first HLt.out (b := S[0]) (by rw [← HSd.out, List.head?_eq_getElem?, dat0 S (by omega)])))
      simp only [HSd.out, ← hg, ← hT] at HLo
      have HFi := hid (fun (v : World) (hP : v.ownsRow w.heap.size 182 2 (.slice A5 kk.ps.length cp5) kk.ps.length (prs kk.ps)) => c_l2Find kk A5 cp5 v.heap.size T v HI.out.ok (own_ps_at hP) (Nat.le_refl _) (by omega))
      simp only [hxt] at HFi
      have HAf := hid (fun (v : World) (hP : v.ownsRow w.heap.size 182 2 (.slice A5 kk.ps.length cp5) kk.ps.length (prs kk.ps)) => c_l2After kk A5 cp5 v.heap.size v (own_ps_at hP) (Nat.le_refl _) HI.out.ok x hW.out.1)
      obtain ⟨f', HI'⟩ : ∃ f', Hid (LI k D.data.toList (kk.after x) (s + g) f') := by
        obtain ⟨f', hf'⟩ := hW.out.2.2.2
        exact ⟨f', hid hf'⟩
      have HSd' := hid (show (S.extract g S.size).data.toList = D.data.toList.drop (s + g) by rw [cut_drop, HSd.out, List.drop_drop])
      have HSs := hid hSs
      have hS3 : S.size ≤ 2000 := by omega
      have hsg : s + g ≤ D.size := by omega
      clear hg hx hT hxt hW hSs hsD
      go_wp2_with fail
      refine (HLo.out _ HP.out).mono ?_
      rintro e wL ⟨rfl, hbL⟩
      replace HK := hid (HK.out.on hbL)
      replace HP := hid (own_on HP.out hbL)
      replace HZ := hid (HZ.out.on hbL)
      replace hbel := bel_trans hbel hbL
      clear hbL p0 p1 p2 p3 p4 p5 HLo
      have hS : wL.cell? ⟨w.heap.size, 0, none⟩ = some (.int .i64 kk.o) ∧ wL.cell? ⟨w.heap.size, 1, none⟩ = some (.int .i64 kk.l) ∧ wL.cell? ⟨w.heap.size, 2, none⟩ = some (.int .i64 kk.m) ∧ wL.cell? ⟨w.heap.size, 3, none⟩ = some (.slice A5 kk.ps.length cp5) ∧ wL.cell? ⟨w.heap.size, 4, none⟩ = some (.int .i64 kk.base) ∧ wL.cell? ⟨w.heap.size, 5, none⟩ = some (.int .i64 kk.last) ∧ True := ⟨HK.out.cell 0, HK.out.cell 1, HK.out.cell 2, HK.out.cell 3, HK.out.cell 4, HK.out.cell 5, trivial⟩
      go_wp2_with fail
      replace HK := hid (HK.out.on (bel_drew (Below.refl _ _)))
      replace HP := hid (own_on HP.out (bel_drew (Below.refl _ _)))
      replace HZ := hid (HZ.out.on (bel_drew (Below.refl _ _)))
      replace hbel := bel_drew hbel
      refine wp_region_noPanic ?_
      refine zb (T := (fun v => v.cell? ⟨w.heap.size, 0, none⟩ = some (.int .i64 kk.o) ∧ v.cell? ⟨w.heap.size, 1, none⟩ = some (.int .i64 kk.l) ∧ v.cell? ⟨w.heap.size, 2, none⟩ = some (.int .i64 kk.m) ∧ v.cell? ⟨w.heap.size, 3, none⟩ = some (.slice A5 kk.ps.length cp5) ∧ v.cell? ⟨w.heap.size, 4, none⟩ = some (.int .i64 kk.base) ∧ v.cell? ⟨w.heap.size, 5, none⟩ = some (.int .i64 kk.last) ∧ True)) 5 (by kernel_rfl) (t6_drew hS) (fun hHeld => ?_)
      refine zk 0 ?_
      refine zk 1 ?_
      refine zk 2 ?_
      refine zr (rs := [3]) ?_
      refine AllUp.cons (o := ?oz1_3) ?iz1_3 (fun K hK => ?sz1_3) AllUp.nil
      case iz1_3 => (simp only [List.getElem?_toArray, List.getElem?_cons_succ, List.getElem?_cons_zero]; rfl)
      (go_simp; (go_at_call 109; refine (HFi.out _ HP.out).mono ?_; rintro e wF ⟨rfl, hbF⟩; replace HK := hid (HK.out.on hbF); replace HP := hid (own_on HP.out hbF); replace HZ := hid (HZ.out.on hbF); replace hbel := bel_trans hbel hbF; clear hbF))
      refine hK.out _ _ (fun _ => ?kz1_3) (fun hHeld0 => ?_)
      case kz1_3 => (try dsimp only); (first | with_reducible assumption | with_reducible exact ⟨HK.out.cell 0, HK.out.cell 1, HK.out.cell 2, HK.out.cell 3, HK.out.cell 4, HK.out.cell 5, trivial⟩ | exact t6_bel (by assumption) (by assumption) | assumption | exact t6_alloc (by assumption) _ | exact ⟨HK.out.cell 0, HK.out.cell 1, HK.out.cell 2, HK.out.cell 3, HK.out.cell 4, HK.out.cell 5, trivial⟩)
      (try clear hHeld)
      have hHeld := hHeld0 (by decide)
      clear hHeld0 hK K
      try simp only [Act.put, List.setIfInBounds_toArray, List.set_cons_zero, List.set_cons_succ]
      refine zr (rs := [4]) ?_
      refine AllUp.cons (o := ?oz1_4) ?iz1_4 (fun K hK => ?sz1_4) AllUp.nil
      case iz1_4 => (simp only [List.getElem?_toArray, List.getElem?_cons_succ, List.getElem?_cons_zero]; rfl)
      (go_simp; (go_at_call 185; refine (HAf.out _ HP.out).mono ?_; rintro e wA ⟨A6, cp6, rfl, hownA, hbA⟩; replace HP := hid (own_mono hownA hbel.size); replace HK := hid (HK.out.on hbA); replace HZ := hid (HZ.out.on hbA); replace hbel := bel_trans hbel hbA; clear hbA hownA; obtain ⟨p0, p1, p2, p3, p4, p5⟩ := HK.out.cells6; obtain ⟨q0, q1, q2, q3, q4, q5⟩ := HK.out.free6))
      refine hK.out _ _ (fun _ => ?kz1_4) (fun hHeld0 => ?_)
      case kz1_4 => (try dsimp only); (first | with_reducible assumption | with_reducible exact ⟨HK.out.cell 0, HK.out.cell 1, HK.out.cell 2, HK.out.cell 3, HK.out.cell 4, HK.out.cell 5, trivial⟩ | exact t6_bel (by assumption) (by assumption) | assumption | exact t6_alloc (by assumption) _ | exact ⟨HK.out.cell 0, HK.out.cell 1, HK.out.cell 2, HK.out.cell 3, HK.out.cell 4, HK.out.cell 5, trivial⟩)
      (try clear hHeld)
      have hHeld := hHeld0 (by decide)
      clear hHeld0 hK K
      try simp only [Act.put, List.setIfInBounds_toArray, List.set_cons_zero, List.set_cons_succ]
      refine zr (rs := [5]) ?_
      refine AllUp.cons (o := ?oz1_5) ?iz1_5 (fun K hK => ?sz1_5) AllUp.nil
      case iz1_5 => (simp only [List.getElem?_toArray, List.getElem?_cons_succ, List.getElem?_cons_zero]; rfl)
      (go_simp; (replace hbel := bel_put6 hbel (Nat.le_refl w.heap.size) (.int .i64 kk.o) (.int .i64 kk.l) (.int .i64 kk.m) (.slice A6 (kk.after x).ps.length cp6) (.int .i64 kk.base) (.int .i64 x); replace HP := hid (own_put6 HP.out HK.out (by decide) (.int .i64 kk.o) (.int .i64 kk.l) (.int .i64 kk.m) (.slice A6 (kk.after x).ps.length cp6) (.int .i64 kk.base) (.int .i64 x)); replace HZ := hid ((((((HZ.out.far 0 (.int .i64 kk.o) (show w.heap.size + 1 ≠ w.heap.size by omega)).far 1 (.int .i64 kk.l) (show w.heap.size + 1 ≠ w.heap.size by omega)).far 2 (.int .i64 kk.m) (show w.heap.size + 1 ≠ w.heap.size by omega)).far 3 (.slice A6 (kk.after x).ps.length cp6) (show w.heap.size + 1 ≠ w.heap.size by omega)).far 4 (.int .i64 kk.base) (show w.heap.size + 1 ≠ w.heap.size by omega)).far 5 (.int .i64 x) (show w.heap.size + 1 ≠ w.heap.size by omega)); replace HK := hid (HK.out.put6 (.int .i64 kk.o) (.int .i64 kk.l) (.int .i64 kk.m) (.slice A6 (kk.after x).ps.length cp6) (.int .i64 kk.base) (.int .i64 x)); clear p0 p1 p2 p3 p4 p5 q0 q1 q2 q3 q4 q5))
      refine hK.out _ _ (fun h => absurd rfl h) (fun _ => ?_)
      (try clear hHeld)
      clear hK K
      try simp only [Act.put, List.setIfInBounds_toArray, List.set_cons_zero, List.set_cons_succ]
      refine zd (by kernel_rfl) ?_ _
      refine NoPanic.normal ?_
      all_goals
        go_wp2
        go_roundw
        case rel => exact ⟨s + g, f', S.extract g S.size, kk.after x, A6, cp6, rfl, by have := HSs.out; simp; omega, hsg, HSd', HI', HK, HP, HZ, hbel⟩
        case measure =>
          have h2 := HSs.out
          simp [slen]
          omega
end Go.Proofs.Ytblmifbpoopbdaa
