/- The contracts of prime. No condition but that the numbers are int's. -/
import Derived.Test.YtfklkepodpcdgaaQr
import Derived.Test.YtfklkepodpcdgaaGe
import Derived.Test.YtfklkepodpcdgaaGa
import Derived.Lib.BufferWrite
namespace Go.Proofs.Ytfklkepodpcdgaa
open Go.ChangeShapes Go.WideShapes Go.ChangeAt Go.RowKit Go.Joins
set_option linter.unusedVariables false
set_option linter.unusedSimpArgs false

theorem zero_wf : (⟨0, 0, 0, [], 0, 0⟩ : Kn).Wf := ⟨(by intro i p hp; simp at hp), by show (-9223372036854775808 : Int) ≤ 0 ∧ (0 : Int) ≤ 9223372036854775807; omega, by show (-9223372036854775808 : Int) ≤ 0 ∧ (0 : Int) ≤ 9223372036854775807; omega, by simp⟩

set_option maxHeartbeats 4000000 in
set_option maxRecDepth 100000 in
theorem c_prime_no (o l m : Int) (w : World) (D : ByteArray) (hs : D.size ≤ maxLen) (hk : ¬ FitsOk (begun o l m) D) : Calls Try.prog 105 #[.agg #[.int .i64 o, .int .i64 l, .int .i64 m], .string D] w fun e w' => e = .returned (.tuple #[.pointer none, .bool false]) ∧ Below w.heap.size w w' := by
  obtain ⟨K, b, hps, hkf, hwf, HSt⟩ : ∃ (K : Kn) (b : Bool), K.ps = [] ∧ ¬ FitsOk K D ∧ K.Wf ∧ ∀ v : World, Calls Try.prog 152 #[.agg #[.int .i64 o, .int .i64 l, .int .i64 m]] v fun e w' => e = .returned (.tuple #[.agg #[.int .i64 K.o, .int .i64 K.l, .int .i64 K.m, .slice none 0 0, .int .i64 K.base, .int .i64 K.last], .bool b]) ∧ Below v.heap.size v w' := by
    cases h : setOk o l m with
    | true => exact ⟨begun o l m, true, rfl, hk, begun_wf o l m, fun v => c_Start_yes o l m v h⟩
    | false => exact ⟨⟨0, 0, 0, [], 0, 0⟩, false, rfl, fun e => by have := e.1.set; simp [setOk, orderOk, inB] at this, zero_wf, fun v => c_Start_no o l m v h⟩
  have HL := hid (fun (v : World) => c_learn_no K none 0 0 v (by rw [hps]; exact PsAt.nil _ _) (Nat.zero_le _) D hs hkf hwf)
  simp only [hps, List.length_nil] at HL
  have HSt := hid HSt
  have hB0 : Below w.heap.size w (w.alloc (.cells #[.int .i64 o, .int .i64 l, .int .i64 m] 52)) := by (repeat (first | with_reducible (first | assumption | exact Below.refl _ _ | refine bel_alloc ?_ _ | refine bel_drew ?_ | refine bel_drewN ?_ _ | refine bel_set ?_ (by first | omega | (simp; done) | (simp; omega)) _ | refine bel_trans ?_ (by assumption)) | assumption | refine bel_trans ?_ (by assumption)))
  obtain ⟨y0, y1, y2⟩ := (Blk.new w 52 #[.int .i64 o, .int .i64 l, .int .i64 m]).cells3
  clear hk hps hkf hwf hs
  go_enter Try.func105, Try.ntmps105
  go_wp2_with fail
  refine (HSt.out _).mono ?_
  rintro e w1 ⟨rfl, hb1⟩
  obtain ⟨u0, u1, u2, u3, u4, u5⟩ := (Blk.new w1 55 #[.int .i64 K.o, .int .i64 K.l, .int .i64 K.m, .slice none 0 0, .int .i64 K.base, .int .i64 K.last]).cells6
  have hB1 := bel_trans hB0 hb1
  clear y0 y1 y2 hb1
  go_wp2_with fail
  refine (HL.out _).mono ?_
  rintro e w3 ⟨rfl, hb3⟩
  go_wp2
  go_ret2
  exact ⟨rfl, by (repeat (first | with_reducible (first | assumption | exact Below.refl _ _ | refine bel_alloc ?_ _ | refine bel_drew ?_ | refine bel_drewN ?_ _ | refine bel_set ?_ (by first | omega | (simp; done) | (simp; omega)) _ | refine bel_trans ?_ (by assumption)) | assumption | refine bel_trans ?_ (by assumption)))⟩

set_option maxHeartbeats 4000000 in
set_option maxRecDepth 100000 in
theorem c_prime_yes (o l m : Int) (w : World) (D : ByteArray) (hk : FitsOk (begun o l m) D) (K : Kn) (hK : K = (begun o l m).learned D.data.toList) : Calls Try.prog 105 #[.agg #[.int .i64 o, .int .i64 l, .int .i64 m], .string D] w fun e w' => ∃ pb fb db te, e = .returned (.tuple #[.pointer (some ⟨pb, 0, none⟩), .bool true]) ∧ WS w.heap.size pb 133 [.slice (some ⟨db, 0, none⟩) D.size D.size, .int .i64 te] (fun g => False ∨ g = db) fb (.slice none 0 0) (Wr.fresh K) w' ∧ w'.ownsRow w.heap.size 5 1 (.slice (some ⟨db, 0, none⟩) D.size D.size) D.size (D.data.toList.map vb) ∧ Below w.heap.size w w' := by
  have hset := hk.1.set
  have hKo : K.Ok := by rw [hK]; exact hk.1.learned hk.lits.1
  have hDs := hk.lits.2
  have HL := hid (fun (v : World) => c_learn_yes (begun o l m) none 0 0 v (PsAt.nil _ _) (Nat.zero_le _) D hk (begun_wf o l m))
  simp only [← hK] at HL
  have HSt := hid (fun (v : World) => c_Start_yes o l m v hset)
  have HNF := hid (fun (A2 : Option Addr) (c2 L0 : Nat) (v : World) (hp : PsAt v L0 A2 c2 K.ps) (hL0 : L0 ≤ v.heap.size) => c_newFinder K A2 c2 L0 v hKo hp hL0)
  have hB0 : Below w.heap.size w (w.alloc (.cells #[.int .i64 o, .int .i64 l, .int .i64 m] 52)) := by (repeat (first | with_reducible (first | assumption | exact Below.refl _ _ | refine bel_alloc ?_ _ | refine bel_drew ?_ | refine bel_drewN ?_ _ | refine bel_set ?_ (by first | omega | (simp; done) | (simp; omega)) _ | refine bel_trans ?_ (by assumption)) | assumption | refine bel_trans ?_ (by assumption)))
  obtain ⟨y0, y1, y2⟩ := (Blk.new w 52 #[.int .i64 o, .int .i64 l, .int .i64 m]).cells3
  obtain ⟨N, hN⟩ : ∃ N, N = D.size := ⟨_, rfl⟩
  rw [← hN] at hDs ⊢
  have HN := hid hN
  have hln : (D.size : Int) = (N : Int) := by omega
  have hmk : ∀ W : World, (Instr.makeSlice 128 (.int .i64 (N : Int)) (.int .i64 (N : Int))).run Try.prog W = .ok (.slice (some ⟨W.heap.size, 0, none⟩) N N) (W.alloc (.cells (madeCells (Value.int .u8 0).cells (N * 1)) 5)) := fun W => by
    obtain ⟨i0, hi, hz0, hz1, hz2⟩ := info_parts Try.info_u8o
    have hr := run_make (P := Try.prog) W 128 5 i0 (.int .u8 0) Try.underlying128 hi hz0 .i64 .i64 N N (by omega) (Int.le_refl _) (by rw [hz2]; omega) (by omega)
    rw [hz1] at hr
    simpa only [Int.toNat_natCast] using hr
  obtain ⟨ZC, hZC⟩ : ∃ ZC, ZC = madeCells (Value.int .u8 0).cells (N * 1) := ⟨_, rfl⟩
  rw [← hZC] at hmk
  have hcs : ZC.size = N := by rw [hZC, size_madeCells, Nat.mul_one]
  have HCs := hid hcs
  clear hk hK hset hKo hN hZC hcs
  go_enter Try.func105, Try.ntmps105
  go_wp2_with fail
  refine (HSt.out _).mono ?_
  rintro e w1 ⟨rfl, hb1⟩
  obtain ⟨u0, u1, u2, u3, u4, u5⟩ := (Blk.new w1 55 #[.int .i64 o, .int .i64 l, .int .i64 m, .slice none 0 0, .int .i64 0, .int .i64 (-1)]).cells6
  have hB1 := bel_trans hB0 hb1
  have hB2 := bel_alloc hB1 (.cells #[.int .i64 o, .int .i64 l, .int .i64 m, .slice none 0 0, .int .i64 0, .int .i64 (-1)] 55)
  clear y0 y1 y2 hb1
  go_wp2_with fail
  refine (HL.out _).mono ?_
  rintro e w3 ⟨A3, c3, te, rfl, hown3, hb3⟩
  have hB3 := bel_trans hB2 hb3
  clear u0 u1 u2 u3 u4 u5 hb3 hB2 hB1 hB0
  have hB4 := bel_alloc hB3 (.cells #[.int .i64 K.o, .int .i64 K.l, .int .i64 K.m, .slice A3 K.ps.length c3, .int .i64 K.base, .int .i64 K.last] 55)
  have HP := hid ((own_ps_at hown3).alloc (Nat.le_refl _) (.cells #[.int .i64 K.o, .int .i64 K.l, .int .i64 K.m, .slice A3 K.ps.length c3, .int .i64 K.base, .int .i64 K.last] 55))
  have HKB := hid (Blk.new w3 55 #[.int .i64 K.o, .int .i64 K.l, .int .i64 K.m, .slice A3 K.ps.length c3, .int .i64 K.base, .int .i64 K.last])
  obtain ⟨kb, hkb⟩ : ∃ kb, kb = w3.heap.size := ⟨_, rfl⟩
  rw [← hkb] at HKB
  clear hown3 hB3
  go_wp2_with fail
  obtain ⟨W4, hW4⟩ : ∃ W4, W4 = w3.alloc (.cells #[.int .i64 K.o, .int .i64 K.l, .int .i64 K.m, .slice A3 K.ps.length c3, .int .i64 K.base, .int .i64 K.last] 55) := ⟨_, rfl⟩
  rw [← hW4] at hB4 HP HKB ⊢
  rw [← hkb]
  have hsz : w3.heap.size ≤ W4.heap.size := by rw [hW4, World.size_alloc]; omega
  have HP4 := hid (fun (v : World) (hb : Below W4.heap.size W4 v) => show PsAt v w3.heap.size A3 c3 K.ps ∧ w3.heap.size ≤ v.heap.size from ⟨HP.out.below hb hsz, Nat.le_trans hsz hb.size⟩)
  clear hW4 hkb HP
  have hS := HKB.out.cells6t
  refine wp_region_noPanic ?_
  refine wp_region_held_drew (S := (fun v => v.cell? ⟨kb, 0, none⟩ = some (.int .i64 K.o) ∧ v.cell? ⟨kb, 1, none⟩ = some (.int .i64 K.l) ∧ v.cell? ⟨kb, 2, none⟩ = some (.int .i64 K.m) ∧ v.cell? ⟨kb, 3, none⟩ = some (.slice A3 K.ps.length c3) ∧ v.cell? ⟨kb, 4, none⟩ = some (.int .i64 K.base) ∧ v.cell? ⟨kb, 5, none⟩ = some (.int .i64 K.last) ∧ True)) (by kernel_rfl) (t6_drew hS) (fun hHeld => ?_)
  refine tk 0 ?_
  refine tk 3 ?_
  refine tk 4 ?_
  refine tk 6 ?_
  refine wpAnyH_ready (rs := [1, 5]) (by kernel_rfl) (by simp) ?_
  refine AllReadyH.cons (o := ?or1_1) ?ir1_1 (fun K hK => ?sr1_1) (AllReadyH.cons (o := ?or1_5) ?ir1_5 (fun K hK => ?sr1_5) AllReadyH.nil)
  case ir1_1 => (simp only [List.getElem?_toArray, List.getElem?_cons_succ, List.getElem?_cons_zero]; rfl)
  case ir1_5 => (simp only [List.getElem?_toArray, List.getElem?_cons_succ, List.getElem?_cons_zero]; rfl)
  case' sr1_1 =>
    (go_simp; (go_at_call 141; refine (HNF.out A3 c3 _ _ (HP4.out _ (by (repeat (first | with_reducible (first | assumption | exact Below.refl _ _ | refine bel_alloc ?_ _ | refine bel_drew ?_ | refine bel_drewN ?_ _ | refine bel_set ?_ (by first | omega | (simp; done) | (simp; omega)) _ | refine bel_trans ?_ (by assumption)) | assumption | refine bel_trans ?_ (by assumption))))).1 (HP4.out _ (by (repeat (first | with_reducible (first | assumption | exact Below.refl _ _ | refine bel_alloc ?_ _ | refine bel_drew ?_ | refine bel_drewN ?_ _ | refine bel_set ?_ (by first | omega | (simp; done) | (simp; omega)) _ | refine bel_trans ?_ (by assumption)) | assumption | refine bel_trans ?_ (by assumption))))).2).mono ?_; rintro e wQ ⟨hbQ, fb, A9, c9, nb, c10, Nd, Lo, bm, n9, rfl, hn9, hF⟩))
    refine hK.out _ _ ?kr1_1 (fun hHeld => ?_)
    case kr1_1 => (try dsimp only); (first | with_reducible assumption | exact t6_bel (by assumption) (by assumption) | assumption | exact t6_alloc (by assumption) _)
    clear hK K
    try simp only [Act.put, List.setIfInBounds_toArray, List.set_cons_zero, List.set_cons_succ]
    refine tk 2 ?_
    refine wpAnyH_ready (rs := [5]) (by kernel_rfl) (by simp) ?_
    refine AllReadyH.cons (o := ?or1b1_5) ?ir1b1_5 (fun K hK => ?sr1b1_5) AllReadyH.nil
    case ir1b1_5 => (simp only [List.getElem?_toArray, List.getElem?_cons_succ, List.getElem?_cons_zero]; rfl)
    ((go_simp))
    refine hK.out _ _ ?kr1b1_5 (fun hHeld => ?_)
    case kr1b1_5 => (try dsimp only); (first | with_reducible assumption | exact t6_bel (by assumption) (by assumption) | assumption | exact t6_alloc (by assumption) _)
    clear hK K
    try simp only [Act.put, List.setIfInBounds_toArray, List.set_cons_zero, List.set_cons_succ]
    refine tk 7 ?_
    refine wpAnyH_ready (rs := [8]) (by kernel_rfl) (by simp) ?_
    refine AllReadyH.cons (o := ?or1b1_8) ?ir1b1_8 (fun K hK => ?sr1b1_8) AllReadyH.nil
    case ir1b1_8 => (simp only [List.getElem?_toArray, List.getElem?_cons_succ, List.getElem?_cons_zero]; rfl)
    ((go_simp))
    refine hK.out _ _ ?kr1b1_8 (fun hHeld => ?_)
    case kr1b1_8 => (try dsimp only); (first | with_reducible assumption | exact t6_bel (by assumption) (by assumption) | assumption | exact t6_alloc (by assumption) _)
    clear hK K
    try simp only [Act.put, List.setIfInBounds_toArray, List.set_cons_zero, List.set_cons_succ]
    refine tk 9 ?_
    refine wpAnyH_done (by kernel_rfl) ?_ _
    refine NoPanic.normal ?_
  case' sr1_5 =>
    ((go_simp))
    refine hK.out _ _ ?kr1_5 (fun hHeld => ?_)
    case kr1_5 => (try dsimp only); (first | with_reducible assumption | exact t6_bel (by assumption) (by assumption) | assumption | exact t6_alloc (by assumption) _)
    clear hK K
    try simp only [Act.put, List.setIfInBounds_toArray, List.set_cons_zero, List.set_cons_succ]
    refine wpAnyH_ready (rs := [1]) (by kernel_rfl) (by simp) ?_
    refine AllReadyH.cons (o := ?or1b2_1) ?ir1b2_1 (fun K hK => ?sr1b2_1) AllReadyH.nil
    case ir1b2_1 => (simp only [List.getElem?_toArray, List.getElem?_cons_succ, List.getElem?_cons_zero]; rfl)
    (go_simp; (go_at_call 141; refine (HNF.out A3 c3 _ _ (HP4.out _ (by (repeat (first | with_reducible (first | assumption | exact Below.refl _ _ | refine bel_alloc ?_ _ | refine bel_drew ?_ | refine bel_drewN ?_ _ | refine bel_set ?_ (by first | omega | (simp; done) | (simp; omega)) _ | refine bel_trans ?_ (by assumption)) | assumption | refine bel_trans ?_ (by assumption))))).1 (HP4.out _ (by (repeat (first | with_reducible (first | assumption | exact Below.refl _ _ | refine bel_alloc ?_ _ | refine bel_drew ?_ | refine bel_drewN ?_ _ | refine bel_set ?_ (by first | omega | (simp; done) | (simp; omega)) _ | refine bel_trans ?_ (by assumption)) | assumption | refine bel_trans ?_ (by assumption))))).2).mono ?_; rintro e wQ ⟨hbQ, fb, A9, c9, nb, c10, Nd, Lo, bm, n9, rfl, hn9, hF⟩))
    refine hK.out _ _ ?kr1b2_1 (fun hHeld => ?_)
    case kr1b2_1 => (try dsimp only); (first | with_reducible assumption | exact t6_bel (by assumption) (by assumption) | assumption | exact t6_alloc (by assumption) _)
    clear hK K
    try simp only [Act.put, List.setIfInBounds_toArray, List.set_cons_zero, List.set_cons_succ]
    refine tk 2 ?_
    refine tk 7 ?_
    refine wpAnyH_ready (rs := [8]) (by kernel_rfl) (by simp) ?_
    refine AllReadyH.cons (o := ?or1b2_8) ?ir1b2_8 (fun K hK => ?sr1b2_8) AllReadyH.nil
    case ir1b2_8 => (simp only [List.getElem?_toArray, List.getElem?_cons_succ, List.getElem?_cons_zero]; rfl)
    ((go_simp))
    refine hK.out _ _ ?kr1b2_8 (fun hHeld => ?_)
    case kr1b2_8 => (try dsimp only); (first | with_reducible assumption | exact t6_bel (by assumption) (by assumption) | assumption | exact t6_alloc (by assumption) _)
    clear hK K
    try simp only [Act.put, List.setIfInBounds_toArray, List.set_cons_zero, List.set_cons_succ]
    refine tk 9 ?_
    refine wpAnyH_done (by kernel_rfl) ?_ _
    refine NoPanic.normal ?_
  · obtain ⟨pb, hpbe⟩ : ∃ pb, pb = wQ.heap.size := ⟨_, rfl⟩
    obtain ⟨db, hdbe⟩ : ∃ db, db = W4.heap.size := ⟨_, rfl⟩
    have hPr : Blk (wQ.alloc (.cells #[.pointer (some ⟨fb, 0, none⟩), .string (ByteArray.mk #[]), .slice none 0 0, .bool false, .slice (some ⟨db, 0, none⟩) N N, .int .i64 te] 133)) pb 133 #[.pointer (some ⟨fb, 0, none⟩), .string (ByteArray.mk #[]), .slice none 0 0, .bool false, .slice (some ⟨db, 0, none⟩) N N, .int .i64 te] := by rw [hpbe]; exact Blk.new wQ _ _
    have hDr : Blk (wQ.alloc (.cells #[.pointer (some ⟨fb, 0, none⟩), .string (ByteArray.mk #[]), .slice none 0 0, .bool false, .slice (some ⟨db, 0, none⟩) N N, .int .i64 te] 133)) db 5 ZC := by rw [hdbe]; exact (((Blk.new W4 5 ZC).drew).on hbQ).alloc _
    have hbelQ : Below w.heap.size w wQ := bel_trans (bel_drew (bel_alloc hB4 (.cells ZC 5))) hbQ
    have hbel9 : Below w.heap.size w (wQ.alloc (.cells #[.pointer (some ⟨fb, 0, none⟩), .string (ByteArray.mk #[]), .slice none 0 0, .bool false, .slice (some ⟨db, 0, none⟩) N N, .int .i64 te] 133)) := bel_alloc hbelQ _
    have hFA : FAt w.heap.size fb K (wQ.alloc (.cells #[.pointer (some ⟨fb, 0, none⟩), .string (ByteArray.mk #[]), .slice none 0 0, .bool false, .slice (some ⟨db, 0, none⟩) N N, .int .i64 te] 133)) := (show FAt w.heap.size fb K wQ from ⟨A9, c9, nb, c10, Nd, Lo, bm, n9, hn9, hF.low (bel_drew (bel_alloc hB4 (.cells ZC 5))).size⟩).on (bel_alloc (Below.refl _ wQ) _)
    have hpb : w.heap.size ≤ pb := by rw [hpbe]; exact hbelQ.size
    have hdb : w.heap.size ≤ db := by rw [hdbe]; exact hB4.size
    rw [← hpbe, ← hdbe]
    obtain ⟨W9, hW9⟩ : ∃ W9, W9 = wQ.alloc (.cells #[.pointer (some ⟨fb, 0, none⟩), .string (ByteArray.mk #[]), .slice none 0 0, .bool false, .slice (some ⟨db, 0, none⟩) N N, .int .i64 te] 133) := ⟨_, rfl⟩
    rw [← hW9] at hPr hDr hbel9 hFA ⊢
    clear hW9 hpbe hdbe hbelQ hF hn9 hbQ
    have HDr := hid hDr
    have HPr := hid hPr
    have hcs := HCs.out
    have hcp : ∀ ty, (Builtin.copy_ #[ 128, 9 ] ty #[.slice (some ⟨db, 0, none⟩) N N, .string D]).run Try.prog W9 = .ok (goInt D.size) (W9.setRow db (Lib.byteCells D.data.toList).toArray) := fun ty => by
      have h := Lib.run_copy_row_string (P := Try.prog) W9 128 9 ty 5 db 0 N N D ZC 5 Try.underlying128 (by obtain ⟨i0, hi, hz0, hz1, hz2⟩ := info_parts Try.info_u8o; rw [hi]; simp [hz1]) HDr.out (by have := HN.out; omega) (by have := HN.out; omega)
      rw [h]
      have e1 : (ZC.toList.take 0 ++ Lib.byteCells D.data.toList ++ ZC.toList.drop (0 + D.size)) = Lib.byteCells D.data.toList := by
        rw [List.drop_of_length_le (by have := HN.out; simp; omega)]; simp
      rw [e1]
    have hgr : W9.grownBy (W9.setRow db (Lib.byteCells D.data.toList).toArray) (some db) := ⟨rfl, rfl, rfl, by simp [World.setRow], fun k _ hk => setRow_other W9 db k _ (fun e => hk (by simp [e]))⟩
    have hws0 : WS w.heap.size pb 133 [.slice (some ⟨db, 0, none⟩) N N, .int .i64 te] (fun _ => False) fb (.slice none 0 0) (Wr.fresh K) W9 := ⟨hPr, ownO_nil _ _ _, hFA, fun g hg => by simp [Value.ownBlock] at hg, fun g hg => hg.elim, hpb⟩
    obtain ⟨hws1, _⟩ := hws0.other (Or.inr rfl) hgr (fun g hg => by
      obtain rfl := Option.some.inj hg
      exact ⟨⟨_, HDr.out⟩, by simp [Value.ownBlock], fun e => e⟩)
    have hlt10 : db < (W9.setRow db (Lib.byteCells D.data.toList).toArray).heap.size := by have := hgr.size; have := HDr.out.lt; omega
    have HWS := hid (hws1.more (fun g => g = db) (fun g hg => ⟨by rw [hg]; exact hlt10, by simp [Value.ownBlock]⟩))
    have HOw := hid (show (W9.setRow db (Lib.byteCells D.data.toList).toArray).ownsRow w.heap.size 5 1 (.slice (some ⟨db, 0, none⟩) N N) N (D.data.toList.map vb) by
      have hh := setRow_heap W9 db ZC (Lib.byteCells D.data.toList).toArray 5 (0, 0) HDr.out
      refine ⟨by rw [List.length_map, len_toList, HN.out]; omega, Or.inr ⟨db, N, _, rfl, hdb, hh, Nat.le_refl _, by unfold maxLen; omega, by simp [Lib.byteCells_length]; have := HN.out; omega, ?_⟩⟩
      rw [List.take_of_length_le (by simp [Lib.byteCells_length]; have := HN.out; omega)]
      rfl)
    have HBe := hid (hbel9.trans (below_of_grown hgr hbel9.size (fun g hg => by obtain rfl := Option.some.inj hg; exact hdb)))
    have p4 : W9.cell? ⟨pb, 4, none⟩ = some (.slice (some ⟨db, 0, none⟩) N N) := HPr.out.cell 4
    clear hDr hPr hws0 hws1 hgr hlt10 hFA hcs hbel9
    go_wp2
    go_ret2
    exact ⟨pb, fb, db, te, rfl, HWS.out, HOw.out, HBe.out⟩
  · obtain ⟨pb, hpbe⟩ : ∃ pb, pb = wQ.heap.size + 1 := ⟨_, rfl⟩
    obtain ⟨db, hdbe⟩ : ∃ db, db = wQ.heap.size := ⟨_, rfl⟩
    have hPr : Blk ((wQ.alloc (.cells ZC 5)).alloc (.cells #[.pointer (some ⟨fb, 0, none⟩), .string (ByteArray.mk #[]), .slice none 0 0, .bool false, .slice (some ⟨db, 0, none⟩) N N, .int .i64 te] 133)) pb 133 #[.pointer (some ⟨fb, 0, none⟩), .string (ByteArray.mk #[]), .slice none 0 0, .bool false, .slice (some ⟨db, 0, none⟩) N N, .int .i64 te] := by rw [hpbe]; have := Blk.new (wQ.alloc (.cells ZC 5)) 133 #[.pointer (some ⟨fb, 0, none⟩), .string (ByteArray.mk #[]), .slice none 0 0, .bool false, .slice (some ⟨db, 0, none⟩) N N, .int .i64 te]; rw [World.size_alloc] at this; exact this
    have hDr : Blk ((wQ.alloc (.cells ZC 5)).alloc (.cells #[.pointer (some ⟨fb, 0, none⟩), .string (ByteArray.mk #[]), .slice none 0 0, .bool false, .slice (some ⟨db, 0, none⟩) N N, .int .i64 te] 133)) db 5 ZC := by rw [hdbe]; exact (Blk.new wQ 5 ZC).alloc _
    have hbelQ : Below w.heap.size w wQ := bel_trans (bel_drew hB4) hbQ
    have hbel9 : Below w.heap.size w ((wQ.alloc (.cells ZC 5)).alloc (.cells #[.pointer (some ⟨fb, 0, none⟩), .string (ByteArray.mk #[]), .slice none 0 0, .bool false, .slice (some ⟨db, 0, none⟩) N N, .int .i64 te] 133)) := bel_alloc (bel_alloc hbelQ _) _
    have hFA : FAt w.heap.size fb K ((wQ.alloc (.cells ZC 5)).alloc (.cells #[.pointer (some ⟨fb, 0, none⟩), .string (ByteArray.mk #[]), .slice none 0 0, .bool false, .slice (some ⟨db, 0, none⟩) N N, .int .i64 te] 133)) := (show FAt w.heap.size fb K wQ from ⟨A9, c9, nb, c10, Nd, Lo, bm, n9, hn9, hF.low hB4.size⟩).on (bel_alloc (bel_alloc (Below.refl _ wQ) _) _)
    have hpb : w.heap.size ≤ pb := by rw [hpbe]; have := hbelQ.size; omega
    have hdb : w.heap.size ≤ db := by rw [hdbe]; exact hbelQ.size
    rw [← hpbe, ← hdbe]
    obtain ⟨W9, hW9⟩ : ∃ W9, W9 = (wQ.alloc (.cells ZC 5)).alloc (.cells #[.pointer (some ⟨fb, 0, none⟩), .string (ByteArray.mk #[]), .slice none 0 0, .bool false, .slice (some ⟨db, 0, none⟩) N N, .int .i64 te] 133) := ⟨_, rfl⟩
    rw [← hW9] at hPr hDr hbel9 hFA ⊢
    clear hW9 hpbe hdbe hbelQ hF hn9 hbQ
    have HDr := hid hDr
    have HPr := hid hPr
    have hcs := HCs.out
    have hcp : ∀ ty, (Builtin.copy_ #[ 128, 9 ] ty #[.slice (some ⟨db, 0, none⟩) N N, .string D]).run Try.prog W9 = .ok (goInt D.size) (W9.setRow db (Lib.byteCells D.data.toList).toArray) := fun ty => by
      have h := Lib.run_copy_row_string (P := Try.prog) W9 128 9 ty 5 db 0 N N D ZC 5 Try.underlying128 (by obtain ⟨i0, hi, hz0, hz1, hz2⟩ := info_parts Try.info_u8o; rw [hi]; simp [hz1]) HDr.out (by have := HN.out; omega) (by have := HN.out; omega)
      rw [h]
      have e1 : (ZC.toList.take 0 ++ Lib.byteCells D.data.toList ++ ZC.toList.drop (0 + D.size)) = Lib.byteCells D.data.toList := by
        rw [List.drop_of_length_le (by have := HN.out; simp; omega)]; simp
      rw [e1]
    have hgr : W9.grownBy (W9.setRow db (Lib.byteCells D.data.toList).toArray) (some db) := ⟨rfl, rfl, rfl, by simp [World.setRow], fun k _ hk => setRow_other W9 db k _ (fun e => hk (by simp [e]))⟩
    have hws0 : WS w.heap.size pb 133 [.slice (some ⟨db, 0, none⟩) N N, .int .i64 te] (fun _ => False) fb (.slice none 0 0) (Wr.fresh K) W9 := ⟨hPr, ownO_nil _ _ _, hFA, fun g hg => by simp [Value.ownBlock] at hg, fun g hg => hg.elim, hpb⟩
    obtain ⟨hws1, _⟩ := hws0.other (Or.inr rfl) hgr (fun g hg => by
      obtain rfl := Option.some.inj hg
      exact ⟨⟨_, HDr.out⟩, by simp [Value.ownBlock], fun e => e⟩)
    have hlt10 : db < (W9.setRow db (Lib.byteCells D.data.toList).toArray).heap.size := by have := hgr.size; have := HDr.out.lt; omega
    have HWS := hid (hws1.more (fun g => g = db) (fun g hg => ⟨by rw [hg]; exact hlt10, by simp [Value.ownBlock]⟩))
    have HOw := hid (show (W9.setRow db (Lib.byteCells D.data.toList).toArray).ownsRow w.heap.size 5 1 (.slice (some ⟨db, 0, none⟩) N N) N (D.data.toList.map vb) by
      have hh := setRow_heap W9 db ZC (Lib.byteCells D.data.toList).toArray 5 (0, 0) HDr.out
      refine ⟨by rw [List.length_map, len_toList, HN.out]; omega, Or.inr ⟨db, N, _, rfl, hdb, hh, Nat.le_refl _, by unfold maxLen; omega, by simp [Lib.byteCells_length]; have := HN.out; omega, ?_⟩⟩
      rw [List.take_of_length_le (by simp [Lib.byteCells_length]; have := HN.out; omega)]
      rfl)
    have HBe := hid (hbel9.trans (below_of_grown hgr hbel9.size (fun g hg => by obtain rfl := Option.some.inj hg; exact hdb)))
    have p4 : W9.cell? ⟨pb, 4, none⟩ = some (.slice (some ⟨db, 0, none⟩) N N) := HPr.out.cell 4
    clear hDr hPr hws0 hws1 hgr hlt10 hFA hcs hbel9
    go_wp2
    go_ret2
    exact ⟨pb, fb, db, te, rfl, HWS.out, HOw.out, HBe.out⟩
end Go.Proofs.Ytfklkepodpcdgaa
