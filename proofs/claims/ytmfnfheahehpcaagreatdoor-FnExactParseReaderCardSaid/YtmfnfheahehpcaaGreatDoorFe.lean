/- FormatKnown in the program. -/
import Derived.Test.YtmfnfheahehpcaaGreatDoorFd
namespace Go.Proofs.YtmfnfheahehpcaaGreatDoor
open Go.ChangeShapes Go.WideShapes Go.ChangeAt Go.RowKit Go.Joins
set_option linter.unusedVariables false
set_option linter.unusedSimpArgs false

theorem kn_join (x y z u : ByteArray) : (⟨(Lib.join ([x, y, z, u].map (·.data.toList)) [59]).toArray⟩ : ByteArray) = x ++ ⟨#[59]⟩ ++ y ++ ⟨#[59]⟩ ++ z ++ ⟨#[59]⟩ ++ u := by
  have e : Lib.join ([x, y, z, u].map (·.data.toList)) [59] = x.data.toList ++ [59] ++ y.data.toList ++ [59] ++ z.data.toList ++ [59] ++ u.data.toList := by
    simp [Lib.join, List.intercalate]
  rw [e]
  show str _ = _
  rw [← str_append, ← str_append, ← str_append, ← str_append, ← str_append, ← str_append, str_self, str_self, str_self, str_self]
  rfl

set_option maxHeartbeats 8000000 in
set_option maxRecDepth 100000 in
theorem c_FormatKnown_yes (k : Kn) (A : Option Addr) (cap L : Nat) (w : World) (h : PsAt w L A cap k.ps) (hL : L ≤ w.heap.size) (hk : k.Ok) (hw : k.Wf) (hTab : TabN w) :
    Calls Tryz.prog 7 #[.agg #[.int .i64 k.o, .int .i64 k.l, .int .i64 k.m, .slice A k.ps.length cap, .int .i64 k.base, .int .i64 k.last]] w fun e w' => e = .returned (.string (knT k)) ∧ Below w.heap.size w w' := by
  have hbd := kn_bd hk
  have HV := hid (fun (v : World) (hb : Below w.heap.size w v) => c_KnownValid_yes k A cap L v (h.below hb hL) (by have := hb.size; omega) hk hw)
  have HFS := hid (fun (v : World) (hb : Below w.heap.size w v) => c_FormatSetting k.o k.l k.m v)
  have HB1 := hid (fun (v : World) (hb : Below w.heap.size w v) => c_itoaN k.base v (by omega) (by omega) (hTab.on hb))
  have HL1 := hid (fun (v : World) (hb : Below w.heap.size w v) => c_itoaN k.last v (by omega) (by omega) (hTab.on hb))
  have HP1 := hid (fun (v : World) (hb : Below w.heap.size w v) => c_formatPairs A cap k.ps L v (h.below hb hL) (by have := hb.size; omega) hbd.1 hbd.2.2.2 (hTab.on hb).tab)
  have zS : (fmtS k.o k.l k.m).size ≤ 100 := by
    unfold fmtS
    rw [if_pos hk.set]
    obtain ⟨s1, s2, s3⟩ := setOk_iff.1 hk.set
    have d1 := (dec_len k.l (by omega) (by omega)).2
    have d2 := (dec_len k.m (by omega) (by omega)).2
    have d0 : (ordL k.o).length ≤ 4 := by unfold ordL; split <;> simp
    rw [str_size, fmtL]
    simp only [List.length_append, List.length_cons, List.length_nil]
    omega
  have zB : (str (Lib.itoa k.base)).size ≤ 10 := by rw [str_size]; exact itoa_len _ (by omega) (by omega)
  have zL : (str (Lib.itoa k.last)).size ≤ 10 := by rw [str_size]; exact itoa_len _ (by omega) (by omega)
  have zP := fpK_size hk
  have hT : knT k = fmtS k.o k.l k.m ++ ⟨#[59]⟩ ++ str (Lib.itoa k.base) ++ ⟨#[59]⟩ ++ str (Lib.itoa k.last) ++ ⟨#[59]⟩ ++ fpP k.ps := rfl
  have zP' : (fpP k.ps).size ≤ 22 * 1022 := zP
  rw [hT]
  obtain ⟨S1, hS1⟩ : ∃ S1, S1 = fmtS k.o k.l k.m := ⟨_, rfl⟩
  obtain ⟨B1, hB1⟩ : ∃ B1, B1 = str (Lib.itoa k.base) := ⟨_, rfl⟩
  obtain ⟨L1, hL1⟩ : ∃ L1, L1 = str (Lib.itoa k.last) := ⟨_, rfl⟩
  obtain ⟨P1, hP1⟩ : ∃ P1, P1 = fpP k.ps := ⟨_, rfl⟩
  rw [← hS1] at HFS zS ⊢
  rw [← hB1] at HB1 zB ⊢
  rw [← hL1] at HL1 zL ⊢
  rw [← hP1] at HP1 zP' ⊢
  obtain ⟨N, hN⟩ : ∃ N, N = k.ps.length := ⟨_, rfl⟩
  rw [← hN] at HV HP1 ⊢
  obtain ⟨o, ho⟩ : ∃ o, o = k.o := ⟨_, rfl⟩
  obtain ⟨ll, hl⟩ : ∃ ll, ll = k.l := ⟨_, rfl⟩
  obtain ⟨m, hm⟩ : ∃ m, m = k.m := ⟨_, rfl⟩
  obtain ⟨bs, hbs⟩ : ∃ bs, bs = k.base := ⟨_, rfl⟩
  obtain ⟨la, hla⟩ : ∃ la, la = k.last := ⟨_, rfl⟩
  rw [← ho, ← hl, ← hm, ← hbs, ← hla] at HV ⊢
  rw [← ho, ← hl, ← hm] at HFS
  rw [← hbs] at HB1
  rw [← hla] at HL1
  have hJl : (Lib.join ([S1, B1, L1, P1].map (·.data.toList)) [59]).length ≤ 140737488355328 := by
    have e : (Lib.join ([S1, B1, L1, P1].map (·.data.toList)) [59]).length = S1.size + 1 + B1.size + 1 + L1.size + 1 + P1.size := by
      simp [Lib.join, List.intercalate]; omega
    omega
  rw [← kn_join]
  obtain ⟨J, hJ⟩ : ∃ J, J = (⟨(Lib.join ([S1, B1, L1, P1].map (·.data.toList)) [59]).toArray⟩ : ByteArray) := ⟨_, rfl⟩
  rw [← hJ]
  have HJ := hid (fun (v : World) => show Calls Tryz.prog 27 #[.slice (some ⟨v.heap.size, 0, none⟩) 4 4, .string ⟨#[59]⟩] (v.alloc (.cells #[.string S1, .string B1, .string L1, .string P1] 9)) (fun e w' => e = .returned (.string J) ∧ Below (v.alloc (.cells #[.string S1, .string B1, .string L1, .string P1] 9)).heap.size (v.alloc (.cells #[.string S1, .string B1, .string L1, .string P1] 9)) w') from by
    rw [hJ]
    refine Tryz.strings_Join v.heap.size 0 4 [S1, B1, L1, P1] ⟨#[59]⟩ _ (fun j x hj => ?_) (by rw [World.size_alloc]; omega) (by simp) (by simp) hJl
    have hN := Blk.new v 9 #[.string S1, .string B1, .string L1, .string P1]
    rw [Nat.zero_add]
    refine (hN.cell j).trans ?_
    match j, hj with
    | 0, hj => simp at hj; subst hj; rfl
    | 1, hj => simp at hj; subst hj; rfl
    | 2, hj => simp at hj; subst hj; rfl
    | 3, hj => simp at hj; subst hj; rfl)
  clear hT hS1 hB1 hL1 hP1 hN h hk hw hbd ho hl hm hbs hla hJl hJ hTab zP zP' zS zB zL
  have hB0 : Below w.heap.size w (w.alloc (.cells #[.int .i64 o, .int .i64 ll, .int .i64 m, .slice A N cap, .int .i64 bs, .int .i64 la] 27)) := bel_alloc (Below.refl _ w) _
  have kS := Blk.new w 27 #[.int .i64 o, .int .i64 ll, .int .i64 m, .slice A N cap, .int .i64 bs, .int .i64 la]
  obtain ⟨y0, y1, y2, y3, y4, y5⟩ := kS.cells6
  have KS := hid kS
  clear kS
  go_enter Tryz.func7, Tryz.ntmps7
  go_wp2_with fail
  refine (HV.out _ hB0).mono ?_
  rintro e w1 ⟨rfl, hb1⟩
  have kS1 := KS.out.on hb1
  have hB1w := hB0.trans (hb1.mono hB0.size)
  clear y0 y1 y2 y3 y4 y5 KS hb1 hB0
  have hS : w1.cell? ⟨w.heap.size, 0, none⟩ = some (.int .i64 o) ∧ w1.cell? ⟨w.heap.size, 1, none⟩ = some (.int .i64 ll) ∧ w1.cell? ⟨w.heap.size, 2, none⟩ = some (.int .i64 m) ∧ w1.cell? ⟨w.heap.size, 3, none⟩ = some (.slice A N cap) ∧ w1.cell? ⟨w.heap.size, 4, none⟩ = some (.int .i64 bs) ∧ w1.cell? ⟨w.heap.size, 5, none⟩ = some (.int .i64 la) ∧ True := ⟨kS1.cell 0, kS1.cell 1, kS1.cell 2, kS1.cell 3, kS1.cell 4, kS1.cell 5, trivial⟩
  go_wp2_with fail
  have HB := hid (hB1w.drew)
  have HK := hid (kS1.on (bel_drew (Below.refl _ w1)))
  clear kS1 hB1w
  refine wp_region_noPanic ?_
  refine wp_region_held_drew (S := (fun v => v.cell? ⟨w.heap.size, 0, none⟩ = some (.int .i64 o) ∧ v.cell? ⟨w.heap.size, 1, none⟩ = some (.int .i64 ll) ∧ v.cell? ⟨w.heap.size, 2, none⟩ = some (.int .i64 m) ∧ v.cell? ⟨w.heap.size, 3, none⟩ = some (.slice A N cap) ∧ v.cell? ⟨w.heap.size, 4, none⟩ = some (.int .i64 bs) ∧ v.cell? ⟨w.heap.size, 5, none⟩ = some (.int .i64 la) ∧ True)) (by kernel_rfl) (t6_drew hS) (fun hHeld => ?_)
  refine tk 0 ?_
  refine tk 1 ?_
  refine tk 3 ?_
  refine tk 4 ?_
  refine tk 6 ?_
  refine tk 7 ?_
  refine tk 9 ?_
  refine tk 10 ?_
  refine wpAnyH_ready (rs := [2]) (by kernel_rfl) (by simp) ?_
  refine AllReadyH.cons (o := ?or1_2) ?ir1_2 (fun K hK => ?sr1_2) AllReadyH.nil
  case ir1_2 => (simp only [List.getElem?_toArray, List.getElem?_cons_succ, List.getElem?_cons_zero]; rfl)
  (go_simp; (go_at_call 24; refine (HFS.out _ HB.out).mono ?_; rintro e wA ⟨rfl, hbX⟩; replace HK := hid (HK.out.on hbX); replace HB := hid (HB.out.trans (hbX.mono HB.out.size)); clear hbX; have twA : wA.cell? ⟨w.heap.size, 0, none⟩ = some (.int .i64 o) ∧ wA.cell? ⟨w.heap.size, 1, none⟩ = some (.int .i64 ll) ∧ wA.cell? ⟨w.heap.size, 2, none⟩ = some (.int .i64 m) ∧ wA.cell? ⟨w.heap.size, 3, none⟩ = some (.slice A N cap) ∧ wA.cell? ⟨w.heap.size, 4, none⟩ = some (.int .i64 bs) ∧ wA.cell? ⟨w.heap.size, 5, none⟩ = some (.int .i64 la) ∧ True := ⟨HK.out.cell 0, HK.out.cell 1, HK.out.cell 2, HK.out.cell 3, HK.out.cell 4, HK.out.cell 5, trivial⟩))
  refine hK.out _ _ ?kr1_2 (fun hHeld => ?_)
  case kr1_2 => (try dsimp only); (first | with_reducible assumption | exact t6_bel (by assumption) (by assumption) | assumption | exact t6_alloc (by assumption) _)
  clear hK K
  try simp only [Act.put, List.setIfInBounds_toArray, List.set_cons_zero, List.set_cons_succ]
  refine wpAnyH_ready (rs := [5]) (by kernel_rfl) (by simp) ?_
  refine AllReadyH.cons (o := ?or1_5) ?ir1_5 (fun K hK => ?sr1_5) AllReadyH.nil
  case ir1_5 => (simp only [List.getElem?_toArray, List.getElem?_cons_succ, List.getElem?_cons_zero]; rfl)
  (go_simp; (go_at_call 25; refine (HB1.out _ HB.out).mono ?_; rintro e wB ⟨rfl, hbX⟩; replace HK := hid (HK.out.on hbX); replace HB := hid (HB.out.trans (hbX.mono HB.out.size)); clear hbX; have twB : wB.cell? ⟨w.heap.size, 0, none⟩ = some (.int .i64 o) ∧ wB.cell? ⟨w.heap.size, 1, none⟩ = some (.int .i64 ll) ∧ wB.cell? ⟨w.heap.size, 2, none⟩ = some (.int .i64 m) ∧ wB.cell? ⟨w.heap.size, 3, none⟩ = some (.slice A N cap) ∧ wB.cell? ⟨w.heap.size, 4, none⟩ = some (.int .i64 bs) ∧ wB.cell? ⟨w.heap.size, 5, none⟩ = some (.int .i64 la) ∧ True := ⟨HK.out.cell 0, HK.out.cell 1, HK.out.cell 2, HK.out.cell 3, HK.out.cell 4, HK.out.cell 5, trivial⟩))
  refine hK.out _ _ ?kr1_5 (fun hHeld => ?_)
  case kr1_5 => (try dsimp only); (first | with_reducible assumption | exact t6_bel (by assumption) (by assumption) | assumption | exact t6_alloc (by assumption) _)
  clear hK K
  try simp only [Act.put, List.setIfInBounds_toArray, List.set_cons_zero, List.set_cons_succ]
  refine wpAnyH_ready (rs := [8]) (by kernel_rfl) (by simp) ?_
  refine AllReadyH.cons (o := ?or1_8) ?ir1_8 (fun K hK => ?sr1_8) AllReadyH.nil
  case ir1_8 => (simp only [List.getElem?_toArray, List.getElem?_cons_succ, List.getElem?_cons_zero]; rfl)
  (go_simp; (go_at_call 25; refine (HL1.out _ HB.out).mono ?_; rintro e wC ⟨rfl, hbX⟩; replace HK := hid (HK.out.on hbX); replace HB := hid (HB.out.trans (hbX.mono HB.out.size)); clear hbX; have twC : wC.cell? ⟨w.heap.size, 0, none⟩ = some (.int .i64 o) ∧ wC.cell? ⟨w.heap.size, 1, none⟩ = some (.int .i64 ll) ∧ wC.cell? ⟨w.heap.size, 2, none⟩ = some (.int .i64 m) ∧ wC.cell? ⟨w.heap.size, 3, none⟩ = some (.slice A N cap) ∧ wC.cell? ⟨w.heap.size, 4, none⟩ = some (.int .i64 bs) ∧ wC.cell? ⟨w.heap.size, 5, none⟩ = some (.int .i64 la) ∧ True := ⟨HK.out.cell 0, HK.out.cell 1, HK.out.cell 2, HK.out.cell 3, HK.out.cell 4, HK.out.cell 5, trivial⟩))
  refine hK.out _ _ ?kr1_8 (fun hHeld => ?_)
  case kr1_8 => (try dsimp only); (first | with_reducible assumption | exact t6_bel (by assumption) (by assumption) | assumption | exact t6_alloc (by assumption) _)
  clear hK K
  try simp only [Act.put, List.setIfInBounds_toArray, List.set_cons_zero, List.set_cons_succ]
  refine wpAnyH_ready (rs := [11]) (by kernel_rfl) (by simp) ?_
  refine AllReadyH.cons (o := ?or1_11) ?ir1_11 (fun K hK => ?sr1_11) AllReadyH.nil
  case ir1_11 => (simp only [List.getElem?_toArray, List.getElem?_cons_succ, List.getElem?_cons_zero]; rfl)
  (go_simp; (go_at_call 26; refine (HP1.out _ HB.out).mono ?_; rintro e wD ⟨rfl, hbX⟩; replace HK := hid (HK.out.on hbX); replace HB := hid (HB.out.trans (hbX.mono HB.out.size)); clear hbX; have twD : wD.cell? ⟨w.heap.size, 0, none⟩ = some (.int .i64 o) ∧ wD.cell? ⟨w.heap.size, 1, none⟩ = some (.int .i64 ll) ∧ wD.cell? ⟨w.heap.size, 2, none⟩ = some (.int .i64 m) ∧ wD.cell? ⟨w.heap.size, 3, none⟩ = some (.slice A N cap) ∧ wD.cell? ⟨w.heap.size, 4, none⟩ = some (.int .i64 bs) ∧ wD.cell? ⟨w.heap.size, 5, none⟩ = some (.int .i64 la) ∧ True := ⟨HK.out.cell 0, HK.out.cell 1, HK.out.cell 2, HK.out.cell 3, HK.out.cell 4, HK.out.cell 5, trivial⟩))
  refine hK.out _ _ ?kr1_11 (fun hHeld => ?_)
  case kr1_11 => (try dsimp only); (first | with_reducible assumption | exact t6_bel (by assumption) (by assumption) | assumption | exact t6_alloc (by assumption) _)
  clear hK K
  try simp only [Act.put, List.setIfInBounds_toArray, List.set_cons_zero, List.set_cons_succ]
  refine wpAnyH_ready (rs := [12]) (by kernel_rfl) (by simp) ?_
  refine AllReadyH.cons (o := ?or1_12) ?ir1_12 (fun K hK => ?sr1_12) AllReadyH.nil
  case ir1_12 => (simp only [List.getElem?_toArray, List.getElem?_cons_succ, List.getElem?_cons_zero]; rfl)
  ((go_simp))
  refine hK.out _ _ ?kr1_12 (fun hHeld => ?_)
  case kr1_12 => (try dsimp only); (first | with_reducible assumption | exact t6_bel (by assumption) (by assumption) | assumption | exact t6_alloc (by assumption) _)
  clear hK K
  try simp only [Act.put, List.setIfInBounds_toArray, List.set_cons_zero, List.set_cons_succ]
  refine tk 13 ?_
  refine wpAnyH_done (by kernel_rfl) ?_ _
  refine NoPanic.normal ?_
  all_goals
    have hB9 := bel_alloc HB.out (.cells #[.string S1, .string B1, .string L1, .string P1] 9)
    clear HK
    go_wp2_with fail
    refine (HJ.out _).mono ?_
    rintro e w9 ⟨rfl, hb9⟩
    go_wp2_with fail
    go_ret
    exact ⟨rfl, hB9.trans (hb9.mono hB9.size)⟩

theorem c_FormatKnown_no (k : Kn) (A : Option Addr) (cap L : Nat) (w : World) (h : PsAt w L A cap k.ps) (hL : L ≤ w.heap.size) (hk : ¬ k.Ok) (hw : k.Wf) :
    Calls Tryz.prog 7 #[.agg #[.int .i64 k.o, .int .i64 k.l, .int .i64 k.m, .slice A k.ps.length cap, .int .i64 k.base, .int .i64 k.last]] w fun e w' => e = .returned (.string ByteArray.empty) ∧ Below w.heap.size w w' := by
  have HV := hid (fun (v : World) (hb : Below w.heap.size w v) => c_KnownValid_no k A cap L v (h.below hb hL) (by have := hb.size; omega) hk hw)
  have hB0 : Below w.heap.size w (w.alloc (.cells #[.int .i64 k.o, .int .i64 k.l, .int .i64 k.m, .slice A k.ps.length cap, .int .i64 k.base, .int .i64 k.last] 27)) := bel_alloc (Below.refl _ w) _
  obtain ⟨y0, y1, y2, y3, y4, y5⟩ := (Blk.new w 27 #[.int .i64 k.o, .int .i64 k.l, .int .i64 k.m, .slice A k.ps.length cap, .int .i64 k.base, .int .i64 k.last]).cells6
  clear h hk hw
  go_enter Tryz.func7, Tryz.ntmps7
  go_wp2_with fail
  refine (HV.out _ hB0).mono ?_
  rintro e w1 ⟨rfl, hb1⟩
  go_wp2_with fail
  go_ret
  exact ⟨rfl, hB0.trans (hb1.mono hB0.size)⟩

theorem c_sFormatKnown_no (k : Kn) (A : Option Addr) (cap L : Nat) (w : World) (h : PsAt w L A cap k.ps) (hL : L ≤ w.heap.size) (hk : ¬ k.Ok) (hw : k.Wf) :
    Calls Tryz.prog 8 #[.agg #[.int .i64 k.o, .int .i64 k.l, .int .i64 k.m, .slice A k.ps.length cap, .int .i64 k.base, .int .i64 k.last]] w fun e w' => e = .returned (.string ByteArray.empty) ∧ Below w.heap.size w w' := by
  have HV := hid (fun (v : World) (hb : Below w.heap.size w v) => c_sKnownValid_no k A cap L v (h.below hb hL) (by have := hb.size; omega) hk hw)
  have hB0 : Below w.heap.size w (w.alloc (.cells #[.int .i64 k.o, .int .i64 k.l, .int .i64 k.m, .slice A k.ps.length cap, .int .i64 k.base, .int .i64 k.last] 27)) := bel_alloc (Below.refl _ w) _
  obtain ⟨y0, y1, y2, y3, y4, y5⟩ := (Blk.new w 27 #[.int .i64 k.o, .int .i64 k.l, .int .i64 k.m, .slice A k.ps.length cap, .int .i64 k.base, .int .i64 k.last]).cells6
  clear h hk hw
  go_enter Tryz.func8, Tryz.ntmps8
  go_wp2_with fail
  refine (HV.out _ hB0).mono ?_
  rintro e w1 ⟨rfl, hb1⟩
  go_wp2_with fail
  go_ret
  exact ⟨rfl, hB0.trans (hb1.mono hB0.size)⟩
end Go.Proofs.YtmfnfheahehpcaaGreatDoor
